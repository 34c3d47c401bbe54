package regex

import (
	"strconv"
	"strings"

	"datakit/api"
)

// The rows of the table of texts: the operators bind more and more tightly.
const (
	rowAlt    = 1
	rowAnd    = 2
	rowCat    = 3
	rowNot    = 4
	rowRepeat = 5
	rowAtom   = 6
)

// special are the printable bytes that are not their own text.
const special = "|&!*+?{}()[].\\"

const hexDigits = "0123456789abcdef"

// Text returns the text of a pattern.
func Text(p api.Pattern) string {
	if !Valid(p) {
		return ""
	}
	var out strings.Builder
	writePattern(&out, p)
	return out.String()
}

func rowOf(op int) int {
	switch op {
	case api.RxAlt:
		return rowAlt
	case api.RxAnd:
		return rowAnd
	case api.RxCat:
		return rowCat
	case api.RxNot:
		return rowNot
	case api.RxRepeat:
		return rowRepeat
	}
	return rowAtom
}

func writePattern(out *strings.Builder, p api.Pattern) {
	switch p.Op {
	case api.RxNone:
		out.WriteString("[]")
	case api.RxEmpty:
		out.WriteString("()")
	case api.RxRange:
		writeRange(out, p.Lo, p.Hi)
	case api.RxAlt:
		writeArgs(out, p.Args, "|", rowAnd)
	case api.RxAnd:
		writeArgs(out, p.Args, "&", rowCat)
	case api.RxCat:
		writeArgs(out, p.Args, "", rowNot)
	case api.RxNot:
		out.WriteByte('!')
		writeArg(out, p.Args[0], rowNot)
	case api.RxRepeat:
		writeArg(out, p.Args[0], rowRepeat)
		out.WriteString(boundsText(p.Min, p.Max))
	}
}

func writeArgs(out *strings.Builder, args []api.Pattern, between string, row int) {
	for i, arg := range args {
		if i > 0 {
			out.WriteString(between)
		}
		writeArg(out, arg, row)
	}
}

func writeArg(out *strings.Builder, p api.Pattern, row int) {
	if rowOf(p.Op) >= row {
		writePattern(out, p)
		return
	}
	out.WriteByte('(')
	writePattern(out, p)
	out.WriteByte(')')
}

func writeRange(out *strings.Builder, lo, hi int) {
	switch {
	case lo == hi:
		out.WriteString(byteText(lo))
	case lo == 0 && hi == 255:
		out.WriteByte('.')
	default:
		out.WriteString("[" + byteText(lo) + "-" + byteText(hi) + "]")
	}
}

func byteText(b int) string {
	if b >= 33 && b <= 126 && strings.IndexByte(special, byte(b)) < 0 {
		return string(rune(b))
	}
	return "\\x" + hexDigits[b>>4:b>>4+1] + hexDigits[b&15:b&15+1]
}

func boundsText(low, high int) string {
	switch {
	case low == 0 && high == -1:
		return "*"
	case low == 1 && high == -1:
		return "+"
	case low == 0 && high == 1:
		return "?"
	case high == -1:
		return "{" + strconv.Itoa(low) + ",}"
	}
	return "{" + strconv.Itoa(low) + "," + strconv.Itoa(high) + "}"
}
