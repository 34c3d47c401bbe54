package regex

import (
	"strings"

	"datakit/api"
)

// maxNodeText is more than the text of one node can take, parentheses included.
const maxNodeText = 24

// syntaxFault is what the parser panics with.
type syntaxFault struct{}

// parser reads the text of a pattern; its functions leave by a panic.
type parser struct {
	text  string
	at    int
	depth int
}

// Parse returns the pattern of a text. A text that is read but is not the one
// that its pattern is written as is no text of a pattern.
func Parse(s string) (p api.Pattern, err api.Errno) {
	defer func() {
		if recover() != nil {
			p, err = api.Pattern{}, api.ErrSyntax
		}
	}()
	if len(s) > api.MaxPattern*maxNodeText {
		panic(syntaxFault{})
	}
	r := &parser{text: s}
	found := r.alternatives()
	if r.at != len(s) || Text(found) != s {
		panic(syntaxFault{})
	}
	return found, api.OK
}

// peek returns the next byte, and 0, which no text contains, at the end.
func (r *parser) peek() byte {
	if r.at < len(r.text) {
		return r.text[r.at]
	}
	return 0
}

func (r *parser) next() byte {
	c := r.peek()
	if c == 0 {
		panic(syntaxFault{})
	}
	r.at++
	return c
}

func (r *parser) expect(c byte) {
	if r.next() != c {
		panic(syntaxFault{})
	}
}

func (r *parser) alternatives() api.Pattern {
	r.depth++
	if r.depth > api.MaxDepth {
		panic(syntaxFault{})
	}
	args := []api.Pattern{r.conjunction()}
	for r.peek() == '|' {
		r.at++
		args = append(args, r.conjunction())
	}
	r.depth--
	return combined(api.RxAlt, args)
}

func (r *parser) conjunction() api.Pattern {
	args := []api.Pattern{r.sequence()}
	for r.peek() == '&' {
		r.at++
		args = append(args, r.sequence())
	}
	return combined(api.RxAnd, args)
}

func (r *parser) sequence() api.Pattern {
	args := []api.Pattern{r.negation()}
	for c := r.peek(); c != 0 && c != '|' && c != '&' && c != ')'; c = r.peek() {
		args = append(args, r.negation())
	}
	return combined(api.RxCat, args)
}

func combined(op int, args []api.Pattern) api.Pattern {
	if len(args) == 1 {
		return args[0]
	}
	return api.Pattern{Op: op, Args: args}
}

func (r *parser) negation() api.Pattern {
	n := 0
	for r.peek() == '!' {
		r.at++
		n++
	}
	p := r.repetition()
	for range n {
		p = api.Pattern{Op: api.RxNot, Args: []api.Pattern{p}}
	}
	return p
}

func (r *parser) repetition() api.Pattern {
	p := r.atom()
	for {
		low, high := 0, -1
		switch r.peek() {
		case '*':
			r.at++
		case '+':
			r.at++
			low = 1
		case '?':
			r.at++
			high = 1
		case '{':
			r.at++
			low, high = r.bounds()
		default:
			return p
		}
		p = api.Pattern{Op: api.RxRepeat, Min: low, Max: high, Args: []api.Pattern{p}}
	}
}

func (r *parser) bounds() (int, int) {
	low := r.number()
	r.expect(',')
	if r.peek() == '}' {
		r.at++
		return low, -1
	}
	high := r.number()
	r.expect('}')
	return low, high
}

// number reads at most as many digits as a bound can have.
func (r *parser) number() int {
	n := 0
	for c := r.peek(); '0' <= c && c <= '9' && n <= api.MaxRepeat; c = r.peek() {
		n = n*10 + int(c-'0')
		r.at++
	}
	return n
}

func (r *parser) atom() api.Pattern {
	switch c := r.next(); c {
	case '.':
		return api.Pattern{Op: api.RxRange, Hi: 255}
	case '(':
		if r.peek() == ')' {
			r.at++
			return api.Pattern{Op: api.RxEmpty}
		}
		p := r.alternatives()
		r.expect(')')
		return p
	case '[':
		return r.byteSet()
	default:
		r.at--
		return byteRange(r.oneByte())
	}
}

func (r *parser) byteSet() api.Pattern {
	if r.peek() == ']' {
		r.at++
		return api.Pattern{Op: api.RxNone}
	}
	lo := r.oneByte()
	r.expect('-')
	hi := r.oneByte()
	r.expect(']')
	return api.Pattern{Op: api.RxRange, Lo: int(lo), Hi: int(hi)}
}

// oneByte reads the text of a byte.
func (r *parser) oneByte() byte {
	c := r.next()
	if c != '\\' {
		return c
	}
	r.expect('x')
	high := r.hexDigit()
	return high<<4 | r.hexDigit()
}

func (r *parser) hexDigit() byte {
	d := strings.IndexByte(hexDigits, r.next())
	if d < 0 {
		panic(syntaxFault{})
	}
	return byte(d)
}
