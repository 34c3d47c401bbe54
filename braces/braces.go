// Package braces reads the scalars and the keys of the brace format.
package braces

import (
	"datakit/api"
	"datakit/base"
	"datakit/bracelex"
	"datakit/moment"
)

// MayBeScalar reports whether a token may stand as a scalar.
func MayBeScalar(token api.Token) bool {
	switch token.Kind {
	case api.TokText:
		return true
	case api.TokWord:
		text := token.Text
		return !bracelex.Bare(text) || text == "null" || text == "true" || text == "false"
	}
	return false
}

// MayBeKey reports whether a token may stand as a key.
func MayBeKey(token api.Token) bool {
	switch token.Kind {
	case api.TokText:
		return token.Text[0] == '"'
	case api.TokWord:
		return bracelex.Bare(token.Text)
	}
	return false
}

// Key returns the key of a token that may stand as one.
func Key(text string) string {
	if text[0] != '"' {
		return text
	}
	key, _ := bracelex.Unquote(text)
	return key
}

// Scalar returns the value of a token that may stand as a scalar.
func Scalar(text string) (api.Value, api.Errno) {
	switch text {
	case "null":
		return api.Value{}, api.OK
	case "true", "false":
		return api.Value{Kind: api.VBool, Bool: text == "true"}, api.OK
	}
	switch text[0] {
	case '"':
		return textValue(text)
	case 't':
		return timeValue(text[1:])
	case 'b':
		return bytesValue(text[1:])
	}
	d, err := bracelex.Number(text)
	if err != api.OK {
		return api.Value{}, err
	}
	return api.Value{Kind: api.VNum, Num: d}, api.OK
}

func textValue(token string) (api.Value, api.Errno) {
	s, _ := bracelex.Unquote(token)
	if len(s) > api.MaxText {
		return api.Value{}, api.ErrSize
	}
	return api.Value{Kind: api.VText, Text: s}, api.OK
}

func timeValue(token string) (api.Value, api.Errno) {
	s, _ := bracelex.Unquote(token)
	t, err := moment.Parse(s)
	if err != api.OK {
		return api.Value{}, err
	}
	return api.Value{Kind: api.VTime, Time: t}, api.OK
}

func bytesValue(token string) (api.Value, api.Errno) {
	s, _ := bracelex.Unquote(token)
	b, err := base.Decode(s, true)
	if err != api.OK {
		return api.Value{}, api.ErrSyntax
	}
	if len(b) > api.MaxText {
		return api.Value{}, api.ErrSize
	}
	return api.Value{Kind: api.VBytes, Bytes: b}, api.OK
}
