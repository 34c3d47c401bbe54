package index

import (
	"strconv"
	"strings"

	"datakit/api"
	"datakit/canon"
	"datakit/path"
	"datakit/value"
)

func nameOf(format int) string {
	if format == api.FmtBrace {
		return "brace"
	}
	return "delim"
}

// Text returns the text of an index.
func Text(x api.Index) (string, api.Errno) {
	if err := Check(x); err != api.OK {
		return "", err
	}
	var out strings.Builder
	out.WriteString("index " + nameOf(x.Format) + " " + strconv.Itoa(x.Size) + " " + strconv.Itoa(x.Depth) + "\n")
	for _, column := range x.Columns {
		text, err := canon.Text(value.Text(column))
		if err != api.OK {
			return "", err
		}
		out.WriteString("column " + text + "\n")
	}
	for _, entry := range x.Entries {
		out.WriteString(strconv.Itoa(entry.At.From) + " " + strconv.Itoa(entry.At.To) + " " + path.Text(entry.Path) + "\n")
	}
	return out.String(), api.OK
}

// Parse returns the index of a text. A text that is read but is not the one of
// the index is not the text of an index.
func Parse(s string) (api.Index, api.Errno) {
	head, rest, _ := strings.Cut(s, "\n")
	words := strings.Split(head, " ")
	if len(words) != 4 {
		return api.Index{}, api.ErrSyntax
	}
	x := api.Index{Format: api.FmtBrace}
	if words[1] == nameOf(api.FmtDelim) {
		x.Format = api.FmtDelim
	}
	x.Size, _ = strconv.Atoi(words[2])
	x.Depth, _ = strconv.Atoi(words[3])
	for line := range strings.Lines(rest) {
		if !addLine(&x, strings.TrimSuffix(line, "\n")) {
			return api.Index{}, api.ErrSyntax
		}
	}
	if text, err := Text(x); err != api.OK || text != s {
		return api.Index{}, api.ErrSyntax
	}
	return x, api.OK
}

// addLine adds a column or an entry.
func addLine(x *api.Index, line string) bool {
	if text, ok := strings.CutPrefix(line, "column "); ok {
		v, err := canon.Read(text)
		x.Columns = append(x.Columns, v.Text)
		return err == api.OK
	}
	words := strings.SplitN(line, " ", 3)
	if len(words) != 3 {
		return false
	}
	from, e1 := strconv.Atoi(words[0])
	to, e2 := strconv.Atoi(words[1])
	p, err := path.Parse(words[2])
	x.Entries = append(x.Entries, api.Entry{Path: p, At: api.Span{From: from, To: to}})
	return e1 == nil && e2 == nil && err == api.OK
}
