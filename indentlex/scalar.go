package indentlex

import (
	"strings"

	"datakit/api"
	"datakit/base"
	"datakit/bracelex"
	"datakit/decimal"
	"datakit/moment"
	"datakit/source"
	"datakit/utf"
)

// hasControl reports whether a string has a character below 32.
func hasControl(s string) bool {
	for i := range len(s) {
		if s[i] < 32 {
			return true
		}
	}
	return false
}

func spaced(s string) bool { return strings.HasPrefix(s, " ") || strings.HasSuffix(s, " ") }

// plain reports whether a string is plain.
func plain(s string) bool {
	return s != "" && utf.Valid(s) && !hasControl(s) &&
		strings.IndexByte("[]{},#&*!|>'\"%@`", s[0]) < 0 &&
		!source.Dashed(s) && !spaced(s) &&
		!strings.Contains(s, ": ") && !strings.Contains(s, " #") && !strings.HasSuffix(s, ":")
}

func isNumber(s string) bool {
	_, err := bracelex.Number(s)
	return err != api.ErrSyntax
}

func isTime(s string) bool {
	_, err := moment.Parse(s)
	return err != api.ErrSyntax
}

// Plain reports whether a string may be written without quotation marks.
func Plain(s string) bool {
	return source.Simple(s) && s != "null" && s != "true" && s != "false" && !isNumber(s) && !isTime(s)
}

// Quote returns the quoted string.
func Quote(s string) (string, api.Errno) { return bracelex.Quote(s) }

// Unquote returns the string of a quoted scalar.
func Unquote(s string) (string, api.Errno) {
	if s == "" {
		return "", api.ErrTruncated
	}
	if s[0] != '\'' {
		return bracelex.Unquote(s)
	}
	text, size, err := singleQuoted(s)
	if err != api.OK {
		return "", err
	}
	if size < len(s) {
		return "", api.ErrSyntax
	}
	return text, api.OK
}

// singleQuoted returns the string for which the quoted scalar at the beginning
// of s, which begins with ', stands, and its length.
func singleQuoted(s string) (string, int, api.Errno) {
	var out strings.Builder
	for at := 1; at < len(s); {
		r, size := utf.Decode(s, at)
		if size == 0 || r < 32 {
			return "", 0, api.ErrText
		}
		if r == '\'' {
			if !strings.HasPrefix(s[at+1:], "'") {
				return out.String(), at + 1, api.OK
			}
			at++
		}
		out.WriteString(s[at : at+size])
		at += size
	}
	return "", 0, api.ErrTruncated
}

// quotedStart returns the string for which the quoted scalar at the beginning of
// s, which begins with a quotation mark, stands, and its length.
func quotedStart(s string) (string, int, api.Errno) {
	if s[0] == '\'' {
		return singleQuoted(s)
	}
	token, err := bracelex.Next(s, 0)
	if err != api.OK {
		return "", 0, err
	}
	text, err := bracelex.Unquote(token.Text)
	return text, len(token.Text), err
}

// Scalar returns the value of a scalar.
func Scalar(s string) (api.Value, api.Errno) {
	if !utf.Valid(s) || hasControl(s) {
		return api.Value{}, api.ErrText
	}
	switch s {
	case "", "null":
		return api.Value{}, api.OK
	case "true", "false":
		return api.Value{Kind: api.VBool, Bool: s == "true"}, api.OK
	}
	if d, err := bracelex.Number(s); err != api.ErrSyntax {
		return found(api.Value{Kind: api.VNum, Num: d}, err)
	}
	if t, err := moment.Parse(s); err != api.ErrSyntax {
		return found(api.Value{Kind: api.VTime, Time: t}, err)
	}
	switch s[0] {
	case '\'', '"':
		return quotedValue(s)
	case '!':
		return bytesValue(s)
	}
	if !plain(s) {
		return api.Value{}, api.ErrSyntax
	}
	return textValue(s)
}

func found(v api.Value, err api.Errno) (api.Value, api.Errno) {
	if err != api.OK {
		return api.Value{}, err
	}
	return v, api.OK
}

func textValue(s string) (api.Value, api.Errno) {
	if len(s) > api.MaxText {
		return api.Value{}, api.ErrSize
	}
	return api.Value{Kind: api.VText, Text: s}, api.OK
}

func quotedValue(s string) (api.Value, api.Errno) {
	text, err := Unquote(s)
	if err != api.OK && err != api.ErrText {
		err = api.ErrSyntax
	}
	if err != api.OK {
		return api.Value{}, err
	}
	return textValue(text)
}

func bytesValue(s string) (api.Value, api.Errno) {
	if s == "!b" {
		return api.Value{Kind: api.VBytes}, api.OK
	}
	text, ok := strings.CutPrefix(s, "!b ")
	b, err := base.Decode(text, true)
	if !ok || err != api.OK || len(b) == 0 {
		return api.Value{}, api.ErrSyntax
	}
	if len(b) > api.MaxText {
		return api.Value{}, api.ErrSize
	}
	return api.Value{Kind: api.VBytes, Bytes: b}, api.OK
}

// Show returns the text of a scalar.
func Show(v api.Value) (string, api.Errno) {
	switch v.Kind {
	case api.VNull:
		return "null", api.OK
	case api.VBool:
		if v.Bool {
			return "true", api.OK
		}
		return "false", api.OK
	case api.VNum:
		return decimal.Text(v.Num), api.OK
	case api.VTime:
		return moment.Text(v.Time), api.OK
	case api.VText:
		if Plain(v.Text) {
			return v.Text, api.OK
		}
		return Quote(v.Text)
	case api.VBytes:
		if len(v.Bytes) == 0 {
			return "!b", api.OK
		}
		return "!b " + base.Encode(v.Bytes, true), api.OK
	}
	return "", api.ErrKind
}
