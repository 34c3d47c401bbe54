package value

import (
	"math/rand"
	"slices"
	"strings"
	"testing"

	"datakit/api"
	"datakit/decimal"
)

func num(s string) api.Value {
	d, _ := decimal.Parse(s)
	return Num(d)
}

// fields makes a map of keys and values in turn.
func fields(kv ...any) api.Value {
	v := api.Value{Kind: api.VMap}
	for i := 0; i < len(kv); i += 2 {
		v.Fields = append(v.Fields, api.Field{Key: kv[i].(string), Val: kv[i+1].(api.Value)})
	}
	return v
}

func nested(depth int) api.Value {
	v := Null()
	for range depth - 1 {
		v = api.Value{Kind: api.VList, List: []api.Value{v}}
	}
	return v
}

// P7.1
func TestCheck(t *testing.T) {
	big := strings.Repeat("x", api.MaxText)
	date := api.Time{Kind: api.TimeDate, Day: 5}
	many := api.Value{Kind: api.VList, List: make([]api.Value, api.MaxNodes)}
	for i, c := range []struct {
		v api.Value
		e api.Errno
	}{
		{Null(), 0}, {Bool(true), 0}, {num("1.5"), 0}, {Time(date), 0}, {Text("é"), 0}, {Bytes([]byte{255}), 0}, {List(), 0}, {fields(), 0},
		{nested(api.MaxDepth), 0}, {nested(api.MaxDepth + 1), api.ErrDepth}, {nested(60000), api.ErrDepth},
		{api.Value{Kind: api.VList, List: many.List[1:]}, 0}, {many, api.ErrSize},
		{api.Value{Kind: 8}, api.ErrKind}, {api.Value{Kind: -1}, api.ErrKind}, {api.Value{Bool: true}, api.ErrKind}, {api.Value{Num: decimal.FromInt(1)}, api.ErrKind}, {api.Value{Time: date}, api.ErrKind}, {api.Value{Text: "x"}, api.ErrKind},
		{api.Value{Kind: api.VText, Bytes: []byte{1}}, api.ErrKind}, {api.Value{Kind: api.VMap, List: []api.Value{Null()}}, api.ErrKind}, {api.Value{Kind: api.VList, Fields: []api.Field{{}}}, api.ErrKind}, {api.Value{List: []api.Value{}, Bytes: []byte{}}, 0},
		{Num(api.Decimal{Digits: "10"}), api.ErrRange}, {Time(api.Time{}), api.ErrRange}, {Time(api.Time{Kind: 1, Nano: 1}), api.ErrRange},
		{Text("\xff" + big), api.ErrText}, {Text(big), 0}, {Text(big + "x"), api.ErrSize}, {Bytes([]byte(big)), 0}, {Bytes([]byte(big + "x")), api.ErrSize},
		{fields("\xff", Null()), api.ErrText}, {fields(big[:1024], Null()), 0}, {fields(big[:1025], Null()), api.ErrSize}, {fields("a", Null(), "b", Null(), "a", Null()), api.ErrExists},
		{fields("a", Text("\xff"), "a", Null()), api.ErrExists}, {List(Text("\xff"), Num(api.Decimal{Exp: 1})), api.ErrText}, {fields("a", List(Num(api.Decimal{Exp: 1})), "b", Text("\xff")), api.ErrRange}} {
		if e := Check(c.v); e != c.e {
			t.Errorf("case %d: %v, want %v", i, e, c.e)
		}
	}
}

// P7.2
func TestConstructors(t *testing.T) {
	raw := []byte{1, 2}
	b := Bytes(raw)
	raw[0] = 9
	inner := List(Text("x"))
	l := List(inner, Int(-3))
	inner.List[0].Text = "changed"
	m, e := Map(api.Field{Key: "k", Val: l})
	l.List[0].List[0].Text = "changed"
	if b.Bytes[0] != 1 || m.Fields[0].Val.List[0].List[0].Text != "x" || e != api.OK || m.Fields[0].Val.List[1].Num != decimal.FromInt(-3) {
		t.Error("a constructor shares memory")
	}
	odd := List(api.Value{Kind: 99, Text: "\xff", List: []api.Value{{Bool: true}}})
	if odd.List[0].Kind != 99 || odd.List[0].Text != "\xff" || !odd.List[0].List[0].Bool {
		t.Error("List changes its contents")
	}
	for _, c := range []struct {
		f []api.Field
		e api.Errno
	}{{[]api.Field{{Key: "\xff"}}, api.ErrText}, {[]api.Field{{Key: strings.Repeat("x", 1025)}}, api.ErrSize}, {[]api.Field{{Key: "a"}, {Key: "a"}}, api.ErrExists}, {[]api.Field{{Key: "a"}, {Key: "a"}, {Key: "\xff"}}, api.ErrExists}} {
		if v, e := Map(c.f...); e != c.e || !Same(v, api.Value{}) {
			t.Errorf("Map: %v", e)
		}
	}
	var names []string
	for k := range api.VKinds {
		names = append(names, Name(k))
	}
	if strings.Join(names, " ") != "null bool number time string binary list map" || Name(-1) != "" || Name(8) != "" {
		t.Error("Name")
	}
}

// P7.3
func TestSameEqual(t *testing.T) {
	a, b := fields("a", Int(1), "b", List(fields("x", Int(1), "y", Null()))), fields("b", List(fields("y", Null(), "x", Int(1))), "a", Int(1))
	if Same(a, b) || !Equal(a, b) || !Same(a, Copy(a)) || !Same(Sorted(a), Sorted(b)) {
		t.Error("maps in another order")
	}
	different := []api.Value{Null(), Bool(false), Bool(true), Int(1), num("1.5"), Text("1"), Text(""), Bytes(nil), Bytes([]byte{1}), List(), List(Null()), fields(), fields("a", Null()), fields("b", Null()), fields("a", Int(1))}
	for i, x := range different {
		for j, y := range different {
			if Same(x, y) != (i == j) || Equal(x, y) != (i == j) {
				t.Errorf("%d and %d", i, j)
			}
		}
	}
}

// P7.4
func TestCmp(t *testing.T) {
	at := func(nano, offset int) api.Value { return Time(api.Time{Kind: 4, Day: 9, Nano: nano, Offset: offset}) }
	ordered := []api.Value{Null(), Bool(false), Bool(true), Int(-1), Int(2), num("1e9"), Time(api.Time{Kind: 1, Day: 7}), at(0, 1), at(0, 0), at(60000000000, 1), Text(""), Text("1"), Text("10"), Text("é"), Bytes(nil), Bytes([]byte{1}), Bytes([]byte{1, 0}), Bytes([]byte{255}),
		List(), List(Int(1)), List(Int(1), Int(2)), List(Int(2)), fields(), fields("a", Int(9)), fields("b", Int(1), "a", Int(1)), fields("b", Int(0), "a", Int(2)), fields("a", Int(2), "b", Int(1)), fields("b", Int(1))}
	for i, x := range ordered {
		for j, y := range ordered {
			if got := Cmp(x, y); got != compareInts(i, j) {
				t.Errorf("Cmp of %d and %d: %d", i, j, got)
			}
		}
	}
}

// P7.5
func TestParts(t *testing.T) {
	if Truth(Null()) || Truth(Bool(false)) || !Truth(Bool(true)) || !Truth(Int(0)) || !Truth(Text("")) || !Truth(List()) {
		t.Error("Truth")
	}
	v := fields("a", List(Int(1), Int(2)))
	if Size(v) != 4 || Depth(v) != 3 || Size(List()) != 1 || Depth(fields()) != 1 || Depth(nested(48)) != 48 || Size(nested(48)) != 48 {
		t.Error("Size, Depth")
	}
	if !Scalar(Null()) || !Scalar(Bytes(nil)) || Scalar(List()) || Scalar(fields()) {
		t.Error("Scalar")
	}
	x, ok := Field(v, "a")
	if !ok || Size(x) != 3 {
		t.Error("Field")
	}
	x.List[0] = Null()
	if v.Fields[0].Val.List[0].Kind != api.VNum {
		t.Error("Field shares memory")
	}
	if x, ok := Field(v, "b"); ok || !Same(x, Null()) {
		t.Error("a field that is missing")
	}
	if _, ok := Field(List(), "b"); ok {
		t.Error("a field of a list")
	}
}

// P7.6
func TestSorted(t *testing.T) {
	v := List(fields("b", fields("d", Int(1), "c", Int(2)), "a", Null()))
	s := Sorted(v)
	if v.List[0].Fields[0].Key != "b" || !Same(s, List(fields("a", Null(), "b", fields("c", Int(2), "d", Int(1))))) {
		t.Error("Sorted")
	}
	c := Copy(v)
	c.List[0].Fields[0].Val.Fields[0].Key = "changed"
	if v.List[0].Fields[0].Val.Fields[0].Key != "d" {
		t.Error("Copy shares memory")
	}
}

func random(r *rand.Rand, depth int) api.Value {
	switch r.Intn(7) {
	case 0:
		return Bool(r.Intn(2) == 0)
	case 1:
		return Int(r.Intn(3))
	case 2:
		return Text(string(rune('a' + r.Intn(3))))
	case 3, 4:
		v := List()
		for range r.Intn(3) * min(depth, 1) {
			v.List = append(v.List, random(r, depth-1))
		}
		return v
	case 5:
		v := fields()
		for _, k := range r.Perm(3) {
			if r.Intn(2)*depth > 0 {
				v.Fields = append(v.Fields, api.Field{Key: string(rune('a' + k)), Val: random(r, depth-1)})
			}
		}
		return v
	}
	return Null()
}

// P7.7
func TestOrder(t *testing.T) {
	r := rand.New(rand.NewSource(5))
	var l []api.Value
	for range 200 {
		l = append(l, random(r, 3))
	}
	slices.SortStableFunc(l, Cmp)
	for i, a := range l {
		for j, b := range l {
			c := Cmp(a, b)
			if c != -Cmp(b, a) || (c == 0) != Equal(a, b) || Equal(a, b) != Same(Sorted(a), Sorted(b)) || i < j && c > 0 {
				t.Fatal("Cmp is no order")
			}
		}
	}
}

// R1, R13: no argument leads to a panic, or has no end.
func TestAnyArguments(t *testing.T) {
	round := make([]api.Value, 1)
	round[0] = api.Value{Kind: api.VList, List: round}
	for _, v := range []api.Value{round[0], nested(1000), {Kind: -5, Fields: []api.Field{{Key: "\xff"}}}} {
		Check(v)
		Copy(v)
		Sorted(v)
		Size(v)
		Depth(v)
		Cmp(v, round[0])
		Same(v, round[0])
		Equal(v, v)
		List(v)
		Map(api.Field{Val: v})
	}
}
