package reader

import (
	"datakit/api"
	"datakit/brace"
	"datakit/delim"
	"datakit/grid"
	"datakit/indent"
	"datakit/table"
)

// format is what the reader needs of a format.
type format interface {
	valid() bool
	dialect() api.Dialect
	parse(src string, l api.Limits) (api.Node, int, api.Errno)
	value(n api.Node, l api.Limits) (api.Value, api.Errno)
	read(src string, l api.Limits) (api.Value, int, api.Errno)
	locate(n api.Node, p []api.Step) ([]int, api.Errno)
	comments(n api.Node) []string
}

// formatOf returns a format, or nil if there is none.
func formatOf(number int, d api.Dialect) format {
	switch number {
	case api.FmtBrace:
		return braces{}
	case api.FmtIndent:
		return indentation{}
	case api.FmtTable:
		return tables{}
	case api.FmtDelim:
		return records{d: d}
	}
	return nil
}

// plain is what the formats without a dialect have in common.
type plain struct{}

func (plain) valid() bool { return true }

func (plain) dialect() api.Dialect { return api.Dialect{} }

type braces struct{ plain }

func (braces) parse(src string, l api.Limits) (api.Node, int, api.Errno) { return brace.Parse(src, l) }

func (braces) value(n api.Node, l api.Limits) (api.Value, api.Errno) { return brace.Value(n) }

func (braces) read(src string, l api.Limits) (api.Value, int, api.Errno) { return brace.Read(src, l) }

func (braces) locate(n api.Node, p []api.Step) ([]int, api.Errno) { return brace.Locate(n, p) }

func (braces) comments(n api.Node) []string { return brace.Comments(n) }

type indentation struct{ plain }

func (indentation) parse(src string, l api.Limits) (api.Node, int, api.Errno) {
	return indent.Parse(src, l)
}

func (indentation) value(n api.Node, l api.Limits) (api.Value, api.Errno) { return indent.Value(n, l) }

func (indentation) read(src string, l api.Limits) (api.Value, int, api.Errno) {
	return indent.Read(src, l)
}

func (indentation) locate(n api.Node, p []api.Step) ([]int, api.Errno) { return indent.Locate(n, p) }

func (indentation) comments(n api.Node) []string { return indent.Comments(n) }

type tables struct{ plain }

func (tables) parse(src string, l api.Limits) (api.Node, int, api.Errno) { return table.Parse(src, l) }

func (tables) value(n api.Node, l api.Limits) (api.Value, api.Errno) { return table.Value(n) }

func (tables) read(src string, l api.Limits) (api.Value, int, api.Errno) { return table.Read(src, l) }

func (tables) locate(n api.Node, p []api.Step) ([]int, api.Errno) { return table.Locate(n, p) }

func (tables) comments(n api.Node) []string { return table.Comments(n) }

// records is the delimited format in a dialect.
type records struct{ d api.Dialect }

func (r records) valid() bool { return delim.Valid(r.d) }

func (r records) dialect() api.Dialect { return r.d }

func (r records) parse(src string, l api.Limits) (api.Node, int, api.Errno) {
	return delim.Parse(src, r.d, l)
}

func (r records) value(n api.Node, l api.Limits) (api.Value, api.Errno) { return grid.Value(n, r.d) }

func (r records) read(src string, l api.Limits) (api.Value, int, api.Errno) {
	return grid.Read(src, r.d, l)
}

func (r records) locate(n api.Node, p []api.Step) ([]int, api.Errno) { return grid.Locate(n, r.d, p) }

func (r records) comments(n api.Node) []string { return nil }
