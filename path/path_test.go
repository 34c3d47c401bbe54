package path

import (
	"math/rand"
	"slices"
	"strings"
	"testing"

	"datakit/api"
)

type steps = []api.Step

// P8.1, P8.2
func TestValid(t *testing.T) {
	if Key("a") != (api.Step{Key: "a"}) || At(-3) != (api.Step{ByIndex: true, Index: -3}) {
		t.Error("Key, At")
	}
	long := strings.Repeat("x", api.MaxKey)
	for i, c := range []struct {
		p    steps
		want bool
	}{{nil, true}, {steps{Key(""), At(0), At(api.MaxNodes)}, true}, {steps{At(-1)}, false}, {steps{At(api.MaxNodes + 1)}, false}, {steps{{Key: "a", Index: 1}}, false}, {steps{{ByIndex: true, Key: "a"}}, false},
		{steps{Key(long)}, true}, {steps{Key(long + "x")}, false}, {steps{Key("\xff")}, false}, {make(steps, api.MaxSteps), true}, {make(steps, api.MaxSteps+1), false}} {
		if Valid(c.p) != c.want {
			t.Errorf("case %d", i)
		}
	}
}

// P8.3, P8.4
func TestText(t *testing.T) {
	for _, c := range []struct {
		p    steps
		want string
	}{{nil, "."}, {steps{Key("a"), At(0), Key("x y")}, `.a[0]."x y"`}, {steps{At(3)}, ".[3]"}, {steps{At(3), At(4), Key("_9")}, ".[3][4]._9"}, {steps{Key("")}, `.""`}, {steps{Key("9")}, `."9"`}, {steps{Key("é")}, `."é"`},
		{steps{Key("\"\\\n\t\r\x00\x1f\x7f/")}, `."\"\\\n\t\r\u{0}\u{1f}\u{7f}/"`}, {steps{Key(".[")}, `.".["`}} {
		if got := Text(c.p); got != c.want {
			t.Errorf("Text: %s, want %s", got, c.want)
		}
		if p, e := Parse(c.want); !slices.Equal(p, c.p) || e != api.OK {
			t.Errorf("Parse(%s): %v, %v", c.want, p, e)
		}
	}
	for _, s := range []string{"", "a", `."a"`, ".[01]", ".[-1]", ".[+1]", ".[65537]", ".[]", ".[1", "[1]", "..", ".a.", ".a.[1]", `."a b`, `."a\`, `."\x"`, `."\u{20}"`, `."\u{00}"`, `."\u{1F}"`, `."\u{}"`, `."\u{100}"`, "." + "a b", ".a\n", `."` + "\n" + `"`, `.""x`, ".a[1]b", ". ", ".é", strings.Repeat(".a", 49), `."` + strings.Repeat("é", 513) + `"`} {
		if p, e := Parse(s); p != nil || e != api.ErrSyntax {
			t.Errorf("Parse(%q): %v, %v", s, p, e)
		}
	}
	if p, e := Parse("a\xff"); p != nil || e != api.ErrText {
		t.Error("Parse of an invalid string")
	}
	if p, e := Parse(strings.Repeat(".a", 48)); len(p) != 48 || e != api.OK {
		t.Error("Parse of a long path")
	}
}

// P8.5
func TestCmp(t *testing.T) {
	ordered := []steps{nil, {At(0)}, {At(0), Key("a")}, {At(2)}, {At(10)}, {Key("")}, {Key("a")}, {Key("a"), At(1)}, {Key("a"), Key("a")}, {Key("aa")}, {Key("b")}}
	for i, a := range ordered {
		for j, b := range ordered {
			want := 0
			if i < j {
				want = -1
			}
			if i > j {
				want = 1
			}
			if Cmp(a, b) != want || Equal(a, b) != (i == j) {
				t.Errorf("%s and %s", Text(a), Text(b))
			}
		}
	}
	if !Under(ordered[7], ordered[6]) || !Under(ordered[6], ordered[6]) || Under(ordered[6], ordered[7]) || !Under(ordered[6], nil) || Under(ordered[9], ordered[6]) {
		t.Error("Under")
	}
}

// P8.6
func TestJoinParent(t *testing.T) {
	base := append(make(steps, 0, 8), Key("a"))
	p := Join(base, At(1), At(-1))
	q := Join(base, At(2))
	if !Equal(p, steps{Key("a"), At(1), At(-1)}) || !Equal(q, steps{Key("a"), At(2)}) || base[:2][1] != (api.Step{}) {
		t.Error("Join")
	}
	parent, ok := Parent(p)
	if !Equal(parent, steps{Key("a"), At(1)}) || !ok {
		t.Error("Parent")
	}
	parent[0] = Key("changed")
	if p[0] != Key("a") {
		t.Error("Parent shares memory")
	}
	if parent, ok := Parent(nil); parent != nil || ok {
		t.Error("Parent of the root")
	}
}

// P8.7
func TestRoundTrip(t *testing.T) {
	r := rand.New(rand.NewSource(6))
	for range 2000 {
		var p steps
		for range r.Intn(4) {
			if r.Intn(2) == 0 {
				p = append(p, At(r.Intn(100)))
				continue
			}
			key := ""
			for range r.Intn(4) {
				key += string([]rune("ab9_\"\\\n\x01\x7fé .[]u{}")[r.Intn(17)])
			}
			p = append(p, Key(key))
		}
		if q, e := Parse(Text(p)); !Equal(p, q) || e != api.OK {
			t.Fatalf("%s: %v", Text(p), e)
		}
		if len(p) > 0 && (Cmp(p[:len(p)-1], p) != -1 || !Under(p, p[:len(p)-1])) {
			t.Fatal("a path under another one")
		}
	}
}
