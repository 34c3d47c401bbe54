package builtin

import (
	"slices"
	"strings"

	"datakit/api"
	"datakit/base"
	"datakit/decimal"
	"datakit/moment"
	"datakit/regex"
	"datakit/utf"
	"datakit/value"
)

func length(v api.Value) (api.Value, api.Errno) {
	switch v.Kind {
	case api.VNull:
		return value.Int(0), api.OK
	case api.VText:
		n, err := utf.Len(v.Text)
		return number(decimal.FromInt(n), err)
	case api.VBytes:
		return value.Int(len(v.Bytes)), api.OK
	case api.VList, api.VMap:
		return value.Int(len(v.List) + len(v.Fields)), api.OK
	}
	return api.Value{}, api.ErrKind
}

func applyNumber(name string, in api.Value, args []api.Value) (api.Value, api.Errno) {
	if in.Kind != api.VNum {
		return api.Value{}, api.ErrKind
	}
	switch name {
	case "abs":
		return value.Num(decimal.Abs(in.Num)), api.OK
	case "floor":
		return number(decimal.Round(in.Num, 0, api.RoundDown))
	case "ceil":
		return number(decimal.Round(in.Num, 0, api.RoundUp))
	case "round":
		return number(decimal.Round(in.Num, 0, api.RoundHalfUp))
	}
	if args[0].Kind != api.VNum || args[1].Kind != api.VNum {
		return api.Value{}, api.ErrKind
	}
	places, err := decimal.ToInt(args[1].Num)
	if err != api.OK {
		return api.Value{}, err
	}
	return number(decimal.Quo(in.Num, args[0].Num, places, api.RoundEven))
}

func applyConversion(name string, in api.Value) (api.Value, api.Errno) {
	if name == "tostring" {
		return toText(in)
	}
	own := map[string]int{"tonumber": api.VNum, "totime": api.VTime, "tobytes": api.VBytes}[name]
	if in.Kind == own {
		return value.Copy(in), api.OK
	}
	if in.Kind != api.VText {
		return api.Value{}, api.ErrKind
	}
	switch own {
	case api.VNum:
		return number(decimal.Parse(in.Text))
	case api.VTime:
		t, err := moment.Parse(in.Text)
		if err != api.OK {
			return api.Value{}, err
		}
		return value.Time(t), api.OK
	}
	b, err := base.Decode(in.Text, true)
	if err != api.OK {
		return api.Value{}, err
	}
	return result(api.Value{Kind: api.VBytes, Bytes: b})
}

func toText(in api.Value) (api.Value, api.Errno) {
	text := ""
	switch in.Kind {
	case api.VNull:
		text = "null"
	case api.VBool:
		text = "false"
		if in.Bool {
			text = "true"
		}
	case api.VNum:
		text = decimal.Text(in.Num)
	case api.VTime:
		text = moment.Text(in.Time)
	case api.VText:
		text = in.Text
	case api.VBytes:
		text = base.Encode(in.Bytes, true)
	default:
		return api.Value{}, api.ErrKind
	}
	return result(value.Text(text))
}

func applyText(name string, in, arg api.Value) (api.Value, api.Errno) {
	if in.Kind != api.VText || arg.Kind != api.VText {
		return api.Value{}, api.ErrKind
	}
	switch name {
	case "startswith":
		return truth(strings.HasPrefix(in.Text, arg.Text))
	case "endswith":
		return truth(strings.HasSuffix(in.Text, arg.Text))
	case "split":
		return split(in.Text, arg.Text)
	}
	p, err := regex.Parse(arg.Text)
	if err != api.OK {
		return api.Value{}, err
	}
	return truth(regex.Match(p, in.Text))
}

func reverseText(s string) (api.Value, api.Errno) {
	runes := slices.Collect(utf.Runes(s))
	slices.Reverse(runes)
	var out strings.Builder
	for _, r := range runes {
		text, _ := utf.Encode(r)
		out.WriteString(text)
	}
	return value.Text(out.String()), api.OK
}

func applySearch(name string, in, arg api.Value) (api.Value, api.Errno) {
	switch {
	case name == "join" && in.Kind == api.VList && arg.Kind == api.VText:
		return join(in.List, arg.Text)
	case name == "has" && in.Kind == api.VMap && arg.Kind == api.VText:
		_, ok := value.Field(in, arg.Text)
		return truth(ok)
	case name == "has" && in.Kind == api.VList && arg.Kind == api.VNum:
		n, err := decimal.ToInt(arg.Num)
		return truth(err == api.OK && n >= 0 && n < len(in.List))
	case name != "contains" || in.Kind != arg.Kind:
		return api.Value{}, api.ErrKind
	}
	switch in.Kind {
	case api.VText:
		return truth(strings.Contains(in.Text, arg.Text))
	case api.VList:
		has := finder(in.List)
		return truth(!contains(arg.List, func(v api.Value) bool { return !has(v) }))
	case api.VMap:
		return truth(!slices.ContainsFunc(arg.Fields, func(f api.Field) bool {
			v, ok := value.Field(in, f.Key)
			return !ok || !value.Equal(v, f.Val)
		}))
	}
	return api.Value{}, api.ErrKind
}

func join(l []api.Value, between string) (api.Value, api.Errno) {
	size := len(between) * max(len(l)-1, 0)
	var parts []string
	for _, v := range l {
		if v.Kind != api.VText {
			return api.Value{}, api.ErrKind
		}
		size += len(v.Text)
		parts = append(parts, v.Text)
	}
	if size > api.MaxText {
		return api.Value{}, api.ErrSize
	}
	return value.Text(strings.Join(parts, between)), api.OK
}
