package value

import (
	"bytes"
	"slices"
	"strings"

	"datakit/api"
	"datakit/decimal"
	"datakit/moment"
)

// Same reports whether two values are identical.
func Same(a, b api.Value) bool { return same(a, b, 1) }

func same(a, b api.Value, depth int) bool {
	if a.Kind != b.Kind || a.Bool != b.Bool || a.Num != b.Num || a.Time != b.Time || a.Text != b.Text || !bytes.Equal(a.Bytes, b.Bytes) {
		return false
	}
	if len(a.List) != len(b.List) || len(a.Fields) != len(b.Fields) {
		return false
	}
	if depth == api.MaxDepth {
		return true
	}
	for i := range a.List {
		if !same(a.List[i], b.List[i], depth+1) {
			return false
		}
	}
	for i := range a.Fields {
		if a.Fields[i].Key != b.Fields[i].Key || !same(a.Fields[i].Val, b.Fields[i].Val, depth+1) {
			return false
		}
	}
	return true
}

// Equal reports whether two values agree in everything but the order of fields.
func Equal(a, b api.Value) bool {
	return cmp(a, b, 1) == 0
}

// Cmp compares two values.
func Cmp(a, b api.Value) int { return cmp(a, b, 1) }

func compareInts(a, b int) int {
	if a < b {
		return -1
	}
	if a > b {
		return 1
	}
	return 0
}

// compareLists compares two lists element by element; a proper beginning comes first.
func compareLists[T any](a, b []T, compare func(x, y T) int) int {
	for i := range min(len(a), len(b)) {
		if c := compare(a[i], b[i]); c != 0 {
			return c
		}
	}
	return compareInts(len(a), len(b))
}

func cmp(a, b api.Value, depth int) int {
	if a.Kind != b.Kind {
		return compareInts(a.Kind, b.Kind)
	}
	switch a.Kind {
	case api.VBool:
		return compareBools(a.Bool, b.Bool)
	case api.VNum:
		return decimal.Cmp(a.Num, b.Num)
	case api.VTime:
		return moment.Cmp(a.Time, b.Time)
	case api.VText:
		return strings.Compare(a.Text, b.Text)
	case api.VBytes:
		return bytes.Compare(a.Bytes, b.Bytes)
	case api.VList:
		if depth == api.MaxDepth {
			return compareInts(len(a.List), len(b.List))
		}
		return compareLists(a.List, b.List, func(x, y api.Value) int { return cmp(x, y, depth+1) })
	case api.VMap:
		return cmpMaps(byKey(a.Fields), byKey(b.Fields), depth)
	}
	return 0
}

func compareBools(a, b bool) int {
	switch {
	case a == b:
		return 0
	case b:
		return -1
	}
	return 1
}

// byKey returns fields in the order of their keys.
func byKey(fields []api.Field) []api.Field {
	less := func(a, b api.Field) int { return strings.Compare(a.Key, b.Key) }
	if slices.IsSortedFunc(fields, less) {
		return fields
	}
	fields = slices.Clone(fields)
	slices.SortStableFunc(fields, less)
	return fields
}

func cmpMaps(a, b []api.Field, depth int) int {
	if c := compareLists(a, b, func(x, y api.Field) int { return strings.Compare(x.Key, y.Key) }); c != 0 {
		return c
	}
	if depth == api.MaxDepth {
		return 0
	}
	return compareLists(a, b, func(x, y api.Field) int { return cmp(x.Val, y.Val, depth+1) })
}
