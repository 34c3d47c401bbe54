package value

import (
	"datakit/api"
	"datakit/decimal"
	"datakit/moment"
	"datakit/utf"
)

// Check returns the first error of a value, or OK if it is valid.
func Check(v api.Value) api.Errno {
	seen := 0
	return check(v, 1, &seen)
}

// check counts the values that it sees in preorder.
func check(v api.Value, depth int, seen *int) api.Errno {
	if depth > api.MaxDepth {
		return api.ErrDepth
	}
	if *seen == api.MaxNodes {
		return api.ErrSize
	}
	*seen++
	if e := checkNode(v); e != api.OK {
		return e
	}
	for _, x := range v.List {
		if e := check(x, depth+1, seen); e != api.OK {
			return e
		}
	}
	for _, f := range v.Fields {
		if e := check(f.Val, depth+1, seen); e != api.OK {
			return e
		}
	}
	return api.OK
}

// checkNode checks a value without those in it.
func checkNode(v api.Value) api.Errno {
	if v.Kind < 0 || v.Kind >= api.VKinds || strays(v) {
		return api.ErrKind
	}
	switch v.Kind {
	case api.VNum:
		if !decimal.Valid(v.Num) {
			return api.ErrRange
		}
	case api.VTime:
		if !moment.Valid(v.Time) {
			return api.ErrRange
		}
	case api.VText:
		return checkText(v.Text, api.MaxText)
	case api.VBytes:
		if len(v.Bytes) > api.MaxText {
			return api.ErrSize
		}
	case api.VMap:
		return checkKeys(v.Fields)
	}
	return api.OK
}

// strays reports whether a field that the kind does not have is not zero.
func strays(v api.Value) bool {
	return v.Kind != api.VBool && v.Bool ||
		v.Kind != api.VNum && v.Num != api.Decimal{} ||
		v.Kind != api.VTime && v.Time != api.Time{} ||
		v.Kind != api.VText && v.Text != "" ||
		v.Kind != api.VBytes && len(v.Bytes) > 0 ||
		v.Kind != api.VList && len(v.List) > 0 ||
		v.Kind != api.VMap && len(v.Fields) > 0
}

func checkText(s string, limit int) api.Errno {
	if !utf.Valid(s) {
		return api.ErrText
	}
	if len(s) > limit {
		return api.ErrSize
	}
	return api.OK
}

func checkKeys(fields []api.Field) api.Errno {
	seen := make(map[string]bool, len(fields))
	for _, f := range fields {
		if e := checkText(f.Key, api.MaxKey); e != api.OK {
			return e
		}
		if seen[f.Key] {
			return api.ErrExists
		}
		seen[f.Key] = true
	}
	return api.OK
}
