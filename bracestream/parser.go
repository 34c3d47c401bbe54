package bracestream

import (
	"datakit/api"
	"datakit/braces"
	"datakit/limit"
)

// stack is a stack of any elements.
type stack[T any] struct{ list []T }

func (s *stack[T]) push(x T) { s.list = append(s.list, x) }

func (s *stack[T]) pop() { s.list = s.list[:len(s.list)-1] }

func (s *stack[T]) top() *T { return &s.list[len(s.list)-1] }

func (s *stack[T]) size() int { return len(s.list) }

// What a list or a map that is open expects next.
const (
	wantFirst = iota // an element or a key, or the end
	wantComma        // or the end
	wantColon
	wantValue // of a key
)

// frame is a list or a map that is open; a list has no keys.
type frame struct {
	want int
	keys map[string]bool
}

// parser makes events of tokens.
type parser struct {
	limits   api.Limits
	used     api.Usage
	open     stack[frame]
	complete bool
	list     []api.Event
}

// events returns the events that were not returned yet.
func (p *parser) events() []api.Event {
	list := p.list
	p.list = nil
	return list
}

func (p *parser) add(e api.Event) { p.list = append(p.list, e) }

// token takes a token. It returns its error.
func (p *parser) token(t api.Token) api.Errno {
	if p.complete {
		return api.ErrSyntax
	}
	if p.open.size() == 0 {
		return p.value(t)
	}
	f := p.open.top()
	punct := ""
	if t.Kind == api.TokPunct {
		punct = t.Text
	}
	switch {
	case f.ends(punct):
		p.close(f)
		return api.OK
	case f.want == wantComma && punct == ",":
		f.want = wantFirst
		return api.OK
	case f.want == wantColon && punct == ":":
		f.want = wantValue
		return api.OK
	case f.want == wantFirst && f.keys != nil:
		return p.key(f, t)
	case f.want == wantFirst || f.want == wantValue:
		return p.value(t)
	}
	return api.ErrSyntax
}

// ends reports whether a punctuation mark ends the list or the map.
func (f *frame) ends(punct string) bool {
	if f.want != wantFirst && f.want != wantComma {
		return false
	}
	return f.keys != nil && punct == "}" || f.keys == nil && punct == "]"
}

func (p *parser) close(f *frame) {
	kind := api.EvListEnd
	if f.keys != nil {
		kind = api.EvMapEnd
	}
	p.add(api.Event{Kind: kind})
	p.open.pop()
	p.finish()
}

// finish ends a value.
func (p *parser) finish() {
	p.used, _ = limit.Close(p.used)
	if p.open.size() == 0 {
		p.complete = true
		return
	}
	p.open.top().want = wantComma
}

func (p *parser) key(f *frame, t api.Token) api.Errno {
	if !braces.MayBeKey(t) {
		return api.ErrSyntax
	}
	key := braces.Key(t.Text)
	if len(key) > api.MaxKey {
		return api.ErrSize
	}
	if f.keys[key] {
		return api.ErrExists
	}
	f.keys[key] = true
	f.want = wantColon
	p.add(api.Event{Kind: api.EvKey, Key: key})
	return api.OK
}

func (p *parser) value(t api.Token) api.Errno {
	list := t.Kind == api.TokPunct && t.Text == "["
	fields := t.Kind == api.TokPunct && t.Text == "{"
	if !list && !fields && !braces.MayBeScalar(t) {
		return api.ErrSyntax
	}
	used, err := limit.Open(p.limits, p.used)
	if err != api.OK {
		return err
	}
	if p.used, err = limit.Node(p.limits, used, 1); err != api.OK {
		return err
	}
	switch {
	case list:
		p.add(api.Event{Kind: api.EvListStart})
		p.open.push(frame{})
	case fields:
		p.add(api.Event{Kind: api.EvMapStart})
		p.open.push(frame{keys: map[string]bool{}})
	default:
		v, err := braces.Scalar(t.Text)
		if err != api.OK {
			return err
		}
		p.add(api.Event{Kind: api.EvScalar, Val: v})
		p.finish()
	}
	return api.OK
}
