package bracelex

import (
	"strings"

	"datakit/api"
	"datakit/quote"
)

// Quote returns the quoted string.
func Quote(s string) (string, api.Errno) { return quote.Text(s) }

// Unquote returns the string that a token stands for.
func Unquote(s string) (string, api.Errno) {
	if s == "" {
		return "", api.ErrTruncated
	}
	if s[0] != '"' {
		return "", api.ErrSyntax
	}
	var out strings.Builder
	size, err := quote.Scan(s, &out)
	if err != api.OK {
		return "", err
	}
	if size < len(s) {
		return "", api.ErrSyntax
	}
	return out.String(), api.OK
}
