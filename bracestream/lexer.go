package bracestream

import (
	"strings"

	"datakit/api"
	"datakit/bracelex"
	"datakit/quote"
	"datakit/window"
)

// fault is an error and its offset; there is none if err is OK.
type fault struct {
	at  int
	err api.Errno
}

// What the lexer is in the midst of.
const (
	inNothing = iota
	inWord
	inText
	inReturn // after a carriage return, which a line feed must follow
	inSlash  // after the first byte of a comment
	inLine   // a comment up to the end of its line
	inBlock  // a comment up to * and /
	inStar   // such a comment after *
)

// lexer divides a source into tokens. It holds the bytes of the word or string
// that has begun, and nothing of what has no value.
type lexer struct {
	held     *window.Window
	mode     int
	at       int // the bytes that were taken
	begin    int // the offset of the token that has begun
	follower quote.Follower
}

// take takes some bytes of a part that is not empty, and returns how many.
// Tokens that are complete are passed on.
func (l *lexer) take(s string, token func(api.Token) api.Errno) (int, fault) {
	n, err := 1, api.OK
	switch l.mode {
	case inNothing:
		err = l.start(s[0], token)
	case inWord:
		return l.word(s, token)
	case inText:
		return l.quoted(s, token)
	case inReturn:
		l.mode = inNothing
		if s[0] != '\n' {
			err = api.ErrSyntax
		}
	case inSlash:
		err = l.slash(s[0])
	default:
		n = l.comment(s)
	}
	l.at += n
	return n, fault{l.begin, err}
}

func (l *lexer) start(c byte, token func(api.Token) api.Errno) api.Errno {
	l.begin = l.at
	switch {
	case c == ' ' || c == '\t' || c == '\n':
	case c == '\r':
		l.mode = inReturn
	case c == '/':
		l.mode = inSlash
	case strings.IndexByte("[]{},:", c) >= 0:
		return token(api.Token{Kind: api.TokPunct, Text: string(rune(c)), At: l.at})
	case c == '"':
		l.mode = inText
		l.follower = quote.Follower{}
		return l.held.Feed("\"")
	case wordByte(c):
		l.mode = inWord
		return l.held.Feed(string(rune(c)))
	default:
		return api.ErrSyntax
	}
	return api.OK
}

func wordByte(c byte) bool {
	return 'a' <= c && c <= 'z' || 'A' <= c && c <= 'Z' || '0' <= c && c <= '9' || strings.IndexByte("_$+-.", c) >= 0
}

// word goes on with a word, or ends it.
func (l *lexer) word(s string, token func(api.Token) api.Errno) (int, fault) {
	if c, _ := l.held.At(0); s[0] == '"' && l.held.Len() == 1 && (c == 't' || c == 'b') {
		l.mode = inText
		l.follower = quote.Follower{}
		err := l.held.Feed("\"")
		l.at++
		return 1, fault{l.begin, err}
	}
	n := 0
	for n < len(s) && wordByte(s[n]) {
		n++
	}
	if err := l.held.Feed(s[:n]); err != api.OK {
		return n, fault{l.begin, err}
	}
	l.at += n
	if n == len(s) {
		return n, fault{}
	}
	err := l.finish(token)
	if err == api.ErrTruncated {
		err = api.ErrSyntax
	}
	return n, fault{l.begin, err}
}

// finish passes on the token that is held.
func (l *lexer) finish(token func(api.Token) api.Errno) api.Errno {
	text, _ := l.held.Take(l.held.Len())
	l.mode = inNothing
	t, err := bracelex.Next(text, 0)
	if err != api.OK {
		return err
	}
	t.At = l.begin
	return token(t)
}

// quoted goes on with a quoted string.
func (l *lexer) quoted(s string, token func(api.Token) api.Errno) (int, fault) {
	n, closed, err := 0, false, api.OK
	for n < len(s) && !closed && err == api.OK {
		closed, err = l.follower.Add(s[n])
		n++
	}
	if full := l.held.Feed(s[:n]); full != api.OK {
		return n, fault{l.begin, full}
	}
	l.at += n
	if closed && err == api.OK {
		err = l.finish(token)
	}
	return n, fault{l.begin, err}
}

func (l *lexer) slash(c byte) api.Errno {
	switch c {
	case '/':
		l.mode = inLine
	case '*':
		l.mode = inBlock
	default:
		return api.ErrSyntax
	}
	return api.OK
}

// comment goes on with a comment and returns how many bytes it has taken.
func (l *lexer) comment(s string) int {
	n := 0
	for n < len(s) && l.mode != inNothing {
		c := s[n]
		n++
		switch {
		case l.mode == inLine && c == '\n', l.mode == inStar && c == '/':
			l.mode = inNothing
		case l.mode != inLine && c == '*':
			l.mode = inStar
		case l.mode != inLine:
			l.mode = inBlock
		}
	}
	return n
}

// end says that the source ends.
func (l *lexer) end(token func(api.Token) api.Errno) fault {
	err := api.OK
	switch l.mode {
	case inWord:
		err = l.finish(token)
	case inText, inReturn, inSlash, inBlock, inStar:
		err = api.ErrTruncated
	}
	if err == api.ErrTruncated {
		return fault{l.at, err}
	}
	return fault{l.begin, err}
}
