package grid

import (
	"math/rand"
	"reflect"
	"slices"
	"strings"
	"testing"

	"datakit/access"
	"datakit/api"
	"datakit/brace"
	"datakit/decimal"
	"datakit/delim"
	"datakit/limit"
	"datakit/path"
	"datakit/tree"
	"datakit/value"
)

var (
	usual = delim.Usual()
	bare  = api.Dialect{Sep: ',', Quote: '"', Typed: true}
	texts = api.Dialect{Sep: ',', Quote: '"'}
)

func want(t *testing.T, src string) api.Value {
	t.Helper()
	v, _, err := brace.Read(src, limit.Usual())
	if err != api.OK {
		t.Fatal(src, err)
	}
	return v
}

// P28.1, P28.2
func TestCells(t *testing.T) {
	num, _ := decimal.Parse("1.5")
	for s, v := range map[string]api.Value{"": {}, "true": value.Bool(true), "false": value.Bool(false), "1.50": value.Num(num), "1e999": value.Text("1e999"), "2024-02-30": value.Text("2024-02-30"), "2024-02-29": value.Time(api.Time{Kind: api.TimeDate, Day: 738944}), "null": value.Text("null"), "01": value.Text("01"), "\xff": value.Text("\xff"), " 1": value.Text(" 1")} {
		if got := Cell(s, false, api.Dialect{Typed: true}); !reflect.DeepEqual(got, v) {
			t.Errorf("Cell(%q) = %v", s, got)
		}
		if got := Cell(s, true, usual); !reflect.DeepEqual(got, value.Text(s)) {
			t.Errorf("Cell(%q) = %v", s, got)
		}
		if got := Cell(s, false, texts); !reflect.DeepEqual(got, value.Text(s)) {
			t.Errorf("Cell(%q) = %v", s, got)
		}
	}
	for _, test := range []struct {
		v    api.Value
		d    api.Dialect
		want string
		err  api.Errno
	}{
		{value.Text("1"), usual, `"1"`, 0}, {value.Text("1"), texts, "1", 0}, {value.Text("a"), usual, "a", 0}, {value.Text(""), usual, `""`, 0}, {value.Text(""), texts, "", 0}, {value.Null(), usual, "", 0}, {value.Bool(true), usual, "true", 0}, {value.Bool(false), bare, "false", 0}, {value.Num(num), usual, "1.5", 0}, {value.Text("a,\""), usual, `"a,"""`, 0}, {value.Text("1e999"), usual, "1e999", 0}, {value.Text("true"), usual, `"true"`, 0}, {value.Text("2024-02-29"), usual, `"2024-02-29"`, 0}, {value.Time(api.Time{Kind: 1}), usual, "0001-01-01", 0},
		{value.Null(), texts, "", api.ErrLoss}, {value.Int(1), texts, "", api.ErrLoss}, {value.List(), usual, "", api.ErrLoss}, {api.Value{Kind: api.VMap}, texts, "", api.ErrLoss}, {value.Bytes(nil), usual, "", api.ErrLoss}, {api.Value{Kind: 9}, usual, "", api.ErrKind}, {value.Text("\xff"), usual, "", api.ErrText}, {api.Value{Kind: 9}, api.Dialect{}, "", api.ErrArg},
	} {
		if got, err := Show(test.v, test.d); got != test.want || err != test.err {
			t.Errorf("Show(%v) = %q, %v", test.v, got, err)
		}
	}
}

// P28.3, P28.5, P28.7, P28.8
func TestRead(t *testing.T) {
	src := "a,b\n1,x\n\"1\",\n"
	v, at, err := Read(src, usual, limit.Usual())
	if err != api.OK || at != 0 || !value.Same(v, want(t, `[{a: 1, b: "x"}, {a: "1", b: null}]`)) {
		t.Error(v, err)
	}
	if v, _, _ := Read(src, texts, limit.Usual()); !value.Same(v, want(t, `[["a", "b"], ["1", "x"], ["1", ""]]`)) {
		t.Error(v)
	}
	for _, src := range []string{"", "a,b\n"} {
		if v, _, err := Read(src, usual, limit.Usual()); err != api.OK || !value.Same(v, value.List()) {
			t.Error(v, err)
		}
	}
	if v, at, err := Read("a\n\"", usual, limit.Usual()); err != api.ErrTruncated || at != 3 || !reflect.DeepEqual(v, api.Value{}) {
		t.Error(at, err)
	}
	n, _, _ := delim.Parse(src, usual, limit.Usual())
	if x, err := Value(n, usual); err != api.OK || !value.Same(x, v) {
		t.Error(err)
	}
	if l, err := Columns(n, usual); err != api.OK || !slices.Equal(l, []string{"a", "b"}) {
		t.Error(l, err)
	}
	if l, err := Columns(n, bare); err != api.OK || len(l) != 0 {
		t.Error(l, err)
	}
	for _, test := range []struct {
		p    string
		d    api.Dialect
		want []int
		err  api.Errno
	}{{".[1].a", usual, []int{2, 0, 0}, 0}, {".[1][1]", bare, []int{1, 1, 0}, 0}, {".[1]", usual, nil, api.ErrSplit}, {".", usual, nil, api.ErrSplit}, {".[2]", usual, nil, api.ErrNotFound}, {".[2]", bare, nil, api.ErrSplit}, {".a", usual, nil, api.ErrKind}, {".[0][0]", usual, nil, api.ErrKind}, {".[0].a", bare, nil, api.ErrKind}, {".[0].c", usual, nil, api.ErrNotFound}, {".[0][2]", bare, nil, api.ErrNotFound}, {".[0].a.b", usual, nil, api.ErrKind}, {".[0].c.b", usual, nil, api.ErrNotFound}} {
		p, _ := path.Parse(test.p)
		if got, err := Locate(n, test.d, p); !slices.Equal(got, test.want) || err != test.err {
			t.Errorf("%s: %v, %v", test.p, got, err)
		}
	}
	if _, err := Locate(n, usual, []api.Step{path.At(-1)}); err != api.ErrArg {
		t.Error(err)
	}
	for _, bad := range []api.Node{{}, n.Kids[0], {Kind: 99}} {
		if v, err := Value(bad, usual); err != api.ErrArg || !reflect.DeepEqual(v, api.Value{}) {
			t.Error(err)
		}
		if _, err := Locate(bad, usual, nil); err != api.ErrArg {
			t.Error(err)
		}
		if l, err := Columns(bad, usual); err != api.ErrArg || l != nil {
			t.Error(err)
		}
	}
}

// P28.4, P28.6
func TestWrite(t *testing.T) {
	for _, test := range []struct {
		v    string
		d    api.Dialect
		want string
		err  api.Errno
	}{
		{"[{a: 1, b: 2}, {b: 3, a: 4}]", usual, "a,b\n1,2\n4,3\n", 0}, {"[]", usual, "", 0}, {"[]", texts, "", 0}, {`[["a", null], [1, "1"]]`, bare, "a,\n1,\"1\"\n", 0}, {`[{"a,": "x", "": "y"}]`, texts, "", api.ErrLoss}, {`[{"a,": "x", "": "y"}]`, api.Dialect{Sep: ',', Quote: '"', Header: true}, "\"a,\",\nx,y\n", 0}, {"[[null]]", bare, "\n", 0},
		{"[{a: 1}, {b: 1}]", usual, "", api.ErrLoss}, {"[{a: 1}, {a: 1, b: 1}]", usual, "", api.ErrLoss}, {"[[1], []]", bare, "", api.ErrLoss}, {"{a: 1}", usual, "", api.ErrLoss}, {"[[]]", bare, "", api.ErrLoss}, {"[{}]", usual, "", api.ErrLoss}, {"[[1], [1, 2]]", bare, "", api.ErrLoss}, {"[1]", bare, "", api.ErrLoss}, {"[[1]]", usual, "", api.ErrLoss}, {"[{a: 1}]", bare, "", api.ErrLoss}, {"[[[]]]", bare, "", api.ErrLoss}, {"[{a: b\"\"}]", usual, "", api.ErrLoss}, {"[[1]]", texts, "", api.ErrLoss}, {"1", usual, "", api.ErrLoss}, {"[[1]]", api.Dialect{}, "", api.ErrArg},
	} {
		v := want(t, test.v)
		if got, err := Write(v, test.d); got != test.want || err != test.err {
			t.Errorf("Write(%s) = %q, %v", test.v, got, err)
		}
		if err := Able(v, test.d); err != test.err {
			t.Errorf("Able(%s) = %v", test.v, err)
		}
	}
	if _, err := Write(api.Value{Kind: 9}, usual); err != api.ErrKind {
		t.Error(err)
	}
	big := api.Value{Kind: api.VList}
	for range 16 {
		big.List = append(big.List, value.List(value.Text(strings.Repeat("x", api.MaxText-1))))
	}
	if got, err := Write(big, texts); err != api.OK || len(got) != api.MaxInput {
		t.Error(len(got), err)
	}
	big.List[0].List[0].Text += "x"
	if got, err := Write(big, texts); err != api.ErrSize || got != "" || Able(big, texts) != api.OK {
		t.Error(err)
	}
}

// P28.9, W1, W2
func TestRoundTrip(t *testing.T) {
	r := rand.New(rand.NewSource(1))
	scalars := []api.Value{{}, value.Bool(true), value.Int(-3), value.Text(""), value.Text("1"), value.Text("a,b"), value.Text("\n\""), value.Time(api.Time{Kind: 2}), value.Text("é")}
	for range 2000 {
		v := api.Value{Kind: api.VList}
		d := []api.Dialect{usual, bare, {Sep: '\t', Quote: '\'', Header: true, Typed: true}}[r.Intn(3)]
		rows, cols := r.Intn(4), 1+r.Intn(3)
		for range rows {
			x := api.Value{Kind: api.VList}
			if d.Header {
				x.Kind = api.VMap
			}
			for j := range cols {
				cell := scalars[r.Intn(len(scalars))]
				if d.Header {
					x.Fields = append(x.Fields, api.Field{Key: []string{"", "a", "x,'y"}[j], Val: cell})
				} else {
					x.List = append(x.List, cell)
				}
			}
			if d.Header {
				slices.Reverse(x.Fields[:r.Intn(cols+1)])
			}
			v.List = append(v.List, x)
		}
		src, err := Write(v, d)
		back, _, err2 := Read(src, d, limit.Usual())
		if err != api.OK || err2 != api.OK || !value.Equal(back, v) {
			t.Fatalf("%q: %v %v", src, err, err2)
		}
		n, _, _ := delim.Parse(src, d, limit.Usual())
		if tree.Print(n) != src || value.Check(back) != api.OK {
			t.Fatal(src)
		}
		for _, p := range access.Paths(back) {
			if _, err := Locate(n, d, p); (err == api.ErrSplit) != (len(p) < 2) || err != api.OK && err != api.ErrSplit {
				t.Fatal(p, err)
			}
		}
	}
}
