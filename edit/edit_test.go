package edit

import (
	"math/rand"
	"testing"

	"datakit/access"
	"datakit/api"
	"datakit/brace"
	"datakit/limit"
	"datakit/path"
	"datakit/reader"
	"datakit/span"
	"datakit/value"
	"datakit/writer"
)

var usual = reader.Usual()

func val(t *testing.T, src string) api.Value {
	t.Helper()
	v, _, err := brace.Read(src, limit.Usual())
	if err != api.OK {
		t.Fatal(src, err)
	}
	return v
}

func steps(t *testing.T, text string) []api.Step {
	t.Helper()
	p, err := path.Parse(text)
	if err != api.OK {
		t.Fatal(text)
	}
	return p
}

func doc(t *testing.T, format int, src string) api.Doc {
	t.Helper()
	d, pos, err := reader.Parse(format, src, usual)
	if err != api.OK {
		t.Fatalf("%q: %v at %v", src, err, pos)
	}
	return d
}

const (
	b = api.FmtBrace
	n = api.FmtIndent
	k = api.FmtTable
	r = api.FmtDelim
)

// P53.1 to P53.3
func TestEdits(t *testing.T) {
	for _, test := range []struct {
		format         int
		src            string
		op, p, v, want string
	}{
		{b, "{a: 1, /* b */ b: 2}", "set", ".a", "2", "{a: 2, /* b */ b: 2}"}, {b, "{a: 1, /* b */ b: 2}", "insert", ".c", "3", "{a: 1, /* b */ b: 2, c: 3}"}, {b, "{a: 1, /* b */ b: 2}", "set", ".c", "3", "{a: 1, /* b */ b: 2, c: 3}"}, {b, "{a: 1, /* b */ b: 2}", "remove", ".a", "", "{/* b */ b: 2}"}, {b, "[1, 2, 3]", "remove", ".[2]", "", "[1, 2]"}, {b, "[1, 2, 3]", "remove", ".[1]", "", "[1, 3]"}, {b, "[1]", "remove", ".[0]", "", "[]"}, {b, "[1,2]", "insert", ".[0]", "0", "[0, 1,2]"}, {b, "[1,2,]", "insert", ".[2]", "3", "[1,2, 3,]"}, {b, "[ ]", "insert", ".[0]", "{a: 1}", "[{a: 1} ]"}, {b, "{}", "insert", ".\"x y\"", "1", "{\"x y\": 1}"}, {b, "{a: {b: 1}}", "rename", ".a.b", "c d", "{a: {\"c d\": 1}}"}, {b, " 1 // x", "set", ".", "[2]", " [2] // x"}, {b, "[1, // x\n2]", "remove", ".[0]", "", "[// x\n2]"},
		{n, "a:\n  - 1\n", "insert", ".a[1]", "2", "a:\n  - 1\n  - 2\n"}, {n, "a:\n  - 1\n", "remove", ".a[0]", "", "a:\n  []\n"}, {n, "a:\n  - 1\n", "insert", ".a[0]", "0", "a:\n  - 0\n  - 1\n"}, {n, "a: 1 # x\nb: 2\n", "remove", ".b", "", "a: 1 # x\n"}, {n, "a: 1 # x\nb: 2\n", "remove", ".a", "", "b: 2\n"}, {n, "a: 1 # x\nb: 2", "insert", ".c", "[1]", "a: 1 # x\nb: 2\nc: [1]"}, {n, "a:\nb: 1", "set", ".a", "5", "a: 5\nb: 1"}, {n, "- &x 1\n- *x\n", "set", ".[1]", "2", "- &x 1\n- 2\n"}, {n, "- &x [1]\n- *x\n", "set", ".[0][0]", "2", "split"}, {n, "- &x [1]\n- *x\n", "insert", ".[1][1]", "2", "split"}, {n, "- a: 1\n  b: 2\n", "rename", ".[0].b", "c", "- a: 1\n  c: 2\n"}, {n, "- a: 1\n  b: 2\n- 3", "remove", ".[0].b", "", "- a: 1\n- 3"}, {n, "a: |\n  x\nb: 1", "set", ".a", "\"y\"", "a: y\nb: 1"}, {n, "a: 1\r\nb: 2\r\n", "remove", ".b", "", "a: 1\r\n"}, {n, "a: 1\r\n", "insert", ".c", "1", "a: 1\nc: 1\r\n"}, {n, "", "set", ".", "1", " 1"}, {n, "x: [1, 2]", "insert", ".x[1]", "5", "x: [1, 5, 2]"},
		{k, "a.b = 1\n", "set", ".a", "2", "split"}, {k, "a.b = 1\n", "set", ".a.b", "2", "a.b = 2\n"}, {k, "a.b = 1\n", "insert", ".c", "3", "a.b = 1\nc = 3\n"}, {k, "a.b = 1\n", "insert", ".a.c", "3", "split"}, {k, "[a]\n[b]\nx = 1\n", "insert", ".a.y", "2", "[a]\ny = 2\n[b]\nx = 1\n"}, {k, "[a]\n[b]\nx = 1\n", "insert", ".b.y", "2", "[a]\n[b]\nx = 1\ny = 2\n"}, {k, "[a]\n", "insert", ".y", "2", "y = 2\n[a]\n"}, {k, "", "insert", ".y", "2", "y = 2\n"}, {k, "# c\na = 1 # x\nb = 2", "remove", ".a", "", "# c\nb = 2"}, {k, "a = 1\nb = [\n1\n]", "remove", ".b", "", "a = 1\n"}, {k, "a = {x = 1, y = 2}", "remove", ".a.x", "", "a = {y = 2}"}, {k, "a = {x = 1, y = 2}", "remove", ".a.y", "", "a = {x = 1}"}, {k, "a = 1", "rename", ".a", "x y", "\"x y\" = 1"}, {k, "a.b = 1", "rename", ".a.b", "c", "split"}, {k, "a = 1", "insert", ".b", "null", "loss"}, {k, "[a]\n", "remove", ".a", "", "split"}, {k, "a = {}", "insert", ".a.b", "1", "a = {b = 1}"}, {k, "a = {x = 1}", "rename", ".a.x", "z", "a = {z = 1}"},
		{r, "a,b\n1,2", "set", ".[0].a", "5", "a,b\n5,2"}, {r, "a,b\n1,2", "insert", ".[1]", "{a: 3, b: 4}", "a,b\n1,2\n3,4"}, {r, "a,b\n1,2\n", "insert", ".[0]", "{b: 3, a: 4}", "a,b\n4,3\n1,2\n"}, {r, "a,b\n1,2\n", "insert", ".[1]", "{b: 3, a: null}", "a,b\n1,2\n,3\n"}, {r, "", "insert", ".[0]", "{x: 1}", "x\n1\n"}, {r, "a\n1\n2\n", "remove", ".[0]", "", "a\n2\n"}, {r, "a,b\n1,2", "insert", ".[1]", "{a: 3}", "loss"}, {r, "a,b\n1,2", "remove", ".[0].a", "", "split"}, {r, "a,b\n1,2", "set", ".[0]", "{a: 1, b: 3}", "split"}, {r, "a,b\n1,2", "rename", ".[0].a", "z", "split"}, {r, "a,b\n1,2", "set", ".[0].a", "[]", "loss"},
		{b, "{a: 1}", "insert", ".a", "1", "exists"}, {b, "{a: 1}", "insert", ".", "1", "argument"}, {b, "{a: 1}", "set", ".a.b", "1", "kind"}, {b, "[1]", "set", ".[1]", "1", "not found"}, {b, "[1]", "remove", ".[1]", "", "not found"}, {b, "[1]", "rename", ".[0]", "x", "argument"},
	} {
		d := doc(t, test.format, test.src)
		p := steps(t, test.p)
		var edits []api.Edit
		var err api.Errno
		switch test.op {
		case "set":
			edits, err = Set(d, p, val(t, test.v), usual)
		case "insert":
			edits, err = Insert(d, p, val(t, test.v), usual)
		case "remove":
			edits, err = Remove(d, p, usual)
		default:
			edits, err = Rename(d, p, test.v, usual)
		}
		got := err.Error()
		if err == api.OK {
			got, _ = span.Apply(test.src, edits)
			if len(edits) != 1 {
				t.Error(edits)
			}
		} else if edits != nil {
			t.Error("edits with an error")
		}
		if got != test.want {
			t.Errorf("%s %s in %q: %q, not %q", test.op, test.p, test.src, got, test.want)
		}
	}
	other := doc(t, b, "[1,/**/2]")
	other.Format = n
	changed := doc(t, b, "[1]")
	changed.Dialect = usual.Dialect
	small := usual
	small.Limits.Nodes = 1
	for i, d := range []api.Doc{other, changed, {}, {Format: b}, {Format: 9, Tree: other.Tree}} {
		if _, err := Set(d, nil, value.Int(1), usual); err != api.ErrArg {
			t.Error(i, err)
		}
	}
	for _, o := range []api.Options{{}, small} {
		if _, err := Insert(doc(t, b, "[1]"), steps(t, ".[0]"), value.Int(1), o); err != api.ErrArg {
			t.Error(err)
		}
		if _, err := Remove(doc(t, b, "[1]"), nil, o); err != api.ErrArg {
			t.Error(err)
		}
		if _, err := Rename(doc(t, b, "[1]"), nil, "", o); err != api.ErrArg {
			t.Error(err)
		}
	}
}

// P53.4
func TestApply(t *testing.T) {
	change := func(op int, p, old, new string) api.Change {
		c := api.Change{Op: op, Path: steps(t, p)}
		if old != "" {
			c.Old = val(t, old)
		}
		if new != "" {
			c.New = val(t, new)
		}
		return c
	}
	for _, test := range []struct {
		src  string
		l    []api.Change
		want string
		at   int
		err  api.Errno
	}{
		{"[1]", nil, "[1]", 0, 0}, {"{a: 1} // x", []api.Change{change(api.ChTest, ".a", "1", ""), change(api.ChReplace, ".a", "1", "2"), change(api.ChInsert, ".b", "", "[3]"), change(api.ChInsert, ".b[1]", "", "4"), change(api.ChRemove, ".a", "2", "")}, "{b: [3, 4]} // x", 0, 0}, {"{a: 1}", []api.Change{change(api.ChTest, ".a", "1", ""), change(api.ChTest, ".a", "2", "")}, "", 1, api.ErrMatch}, {"{a: 1}", []api.Change{change(api.ChRemove, ".b", "2", "")}, "", 0, api.ErrNotFound}, {"{a: 1}", []api.Change{change(9, ".b", "2", "")}, "", 0, api.ErrArg}, {"{a: 1}", []api.Change{change(api.ChReplace, ".a", "2", "3")}, "", 0, api.ErrMatch}, {"{a: 1}", []api.Change{change(api.ChInsert, ".a", "", "3")}, "", 0, api.ErrExists}, {"[", nil, "", 0, api.ErrTruncated}, {"1", make([]api.Change, api.MaxChanges+1), "", 0, api.ErrSize}, {"{a: {x: 1, y: 2}}", []api.Change{change(api.ChTest, ".a", "{y: 2, x: 1}", "")}, "{a: {x: 1, y: 2}}", 0, 0},
	} {
		got, at, err := Apply(b, test.src, test.l, usual)
		if got != test.want || at != test.at || err != test.err {
			t.Errorf("%q: %q, %d, %v", test.src, got, at, err)
		}
	}
	if _, _, err := Apply(9, "1", nil, usual); err != api.ErrArg {
		t.Error(err)
	}
}

func random(q *rand.Rand, depth int) api.Value {
	if depth == 0 || q.Intn(4) == 0 {
		return []api.Value{value.Bool(true), value.Int(q.Intn(9)), value.Text("x y")}[q.Intn(3)]
	}
	if q.Intn(2) == 0 {
		v := api.Value{Kind: api.VList}
		for range q.Intn(4) {
			v.List = append(v.List, random(q, depth-1))
		}
		return v
	}
	return randomMap(q, depth)
}

func randomMap(q *rand.Rand, depth int) api.Value {
	v := api.Value{Kind: api.VMap}
	for _, i := range q.Perm(4)[:q.Intn(5)] {
		v.Fields = append(v.Fields, api.Field{Key: []string{"a", "b", "c d", "e"}[i], Val: random(q, depth-1)})
	}
	return v
}

// P53.5, W5
func TestOnly(t *testing.T) {
	q := rand.New(rand.NewSource(1))
	done := 0
	for range 3000 {
		format := 1 + q.Intn(3)
		v := randomMap(q, 3)
		style := writer.Usual()
		style.Width = q.Intn(40)
		src, err := writer.Write(format, v, style)
		if err != api.OK {
			t.Fatal(err)
		}
		d := doc(t, format, src)
		v, _, _ = reader.Read(format, src, usual)
		paths := access.Paths(v)
		p := paths[q.Intn(len(paths))]
		x := random(q, 2)
		var edits []api.Edit
		var want api.Value
		var err2 api.Errno
		switch q.Intn(4) {
		case 0:
			want, err2 = access.Set(v, p, x)
			edits, err = Set(d, p, x, usual)
			if err == api.OK {
				at, _ := reader.Span(d, p)
				if edits[0].At != at {
					t.Fatal(src, p)
				}
			}
		case 1:
			p = path.Join(p, []api.Step{path.Key("new"), path.At(0), path.At(1)}[q.Intn(3)])
			want, err2 = access.Insert(v, p, x)
			edits, err = Insert(d, p, x, usual)
		case 2:
			want, err2 = access.Remove(v, p)
			edits, err = Remove(d, p, usual)
		default:
			want, err2 = access.Rename(v, p, "other")
			edits, err = Rename(d, p, "other", usual)
		}
		if err2 != api.OK && err != err2 || err2 == api.OK && err != api.OK && err != api.ErrSplit {
			t.Fatal(src, p, err, err2)
		}
		if err != api.OK {
			if format == api.FmtBrace && err == api.ErrSplit {
				t.Fatal(src, p)
			}
			continue
		}
		done++
		after, err := span.Apply(src, edits)
		got, _, err2 := reader.Read(format, after, usual)
		if err != api.OK || err2 != api.OK || !value.Equal(got, want) {
			t.Fatalf("%q: %q", src, after)
		}
	}
	if done < 1000 {
		t.Error(done)
	}
}
