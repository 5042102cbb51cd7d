package guard_test

import (
	"slices"
	"strings"
	"testing"

	"sondage/api"
	"sondage/cong"
	"sondage/env"
	"sondage/eval"
	. "sondage/guard"
	"sondage/look"
	"sondage/mem"
	"sondage/names"
	"sondage/parse"
	"sondage/print"
	"sondage/span"
	"sondage/value"
)

func between(lo, hi int) api.Value { return value.Int(span.Of(lo, hi), cong.All()) }

func ptr(null bool, l ...string) api.Value { return value.Ptr(names.Of(null, l...)) }

func known(name string, v api.Value) api.Side {
	return api.Side{Key: api.Key{Name: name, Node: -1}, State: api.State{Val: v}}
}

func world() look.Room {
	return look.Room{
		P:     api.Program{Globals: []api.Global{{Name: "g"}, {Name: "h"}, {Name: "u"}, {Name: "w"}, {Name: "a", Size: 2}}},
		Env:   api.Env{Live: true, Binds: []api.Bind{{Name: "y", V: between(3, 6)}, {Name: "x", V: between(0, 9)}, {Name: "p", V: ptr(true, "g", "h")}, {Name: "q", V: ptr(false, "g")}, {Name: "r", V: ptr(true, "a")}}},
		Known: []api.Side{known("g", between(2, 4)), known("h", value.Num(0)), known("a", between(0, 1))},
	}
}

func expr(text string) api.Expr {
	e, _, err := parse.Text([]byte(text))
	if err != api.OK {
		panic(text)
	}
	return e
}

func gets(l Left) string {
	var s []string
	for _, k := range l.Gets {
		s = append(s, k.Name)
	}
	if l.Wants {
		s = append(s, "wants", l.Want.Name)
	}
	return strings.Join(s, " ")
}

type binds map[string]api.Value

// P24.1: what has changed, or nil if nothing remains.
func TestExamples(t *testing.T) {
	same := binds{}
	for _, x := range []struct {
		text    string
		yes, no binds
		gets    string
	}{
		{"x < 5", binds{"x": between(0, 4)}, binds{"x": between(5, 9)}, ""},
		{"5 < x", binds{"x": between(6, 9)}, binds{"x": between(0, 5)}, ""},
		{"x <= y", binds{"x": between(0, 6)}, binds{"x": between(4, 9)}, ""},
		{"x < y", binds{"x": between(0, 5)}, binds{"x": between(3, 9)}, ""},
		{"y <= x - 4", binds{"y": between(3, 5)}, same, ""},
		{"x == 4", binds{"x": value.Num(4)}, same, ""}, {"x == 0", binds{"x": value.Num(0)}, binds{"x": between(1, 9)}, ""}, {"x != 9", binds{"x": between(0, 8)}, binds{"x": value.Num(9)}, ""},
		{"x", binds{"x": between(1, 9)}, binds{"x": value.Num(0)}, ""}, {"!x", binds{"x": value.Num(0)}, binds{"x": between(1, 9)}, ""}, {"!!x", binds{"x": between(1, 9)}, binds{"x": value.Num(0)}, ""}, {"x + 1", same, nil, ""}, {"y", same, nil, ""}, {"0", nil, same, ""}, {"-7", same, nil, ""}, {"x - x", same, same, ""},
		{"x < 20", same, nil, ""}, {"20 <= x", nil, same, ""},
		{"2 < x && x < 5", binds{"x": between(3, 4)}, same, ""}, {"x < 3 && y == 4", binds{"x": between(0, 2), "y": value.Num(4)}, same, ""}, {"x < 3 && x < 1", binds{"x": value.Num(0)}, binds{"x": between(1, 9)}, ""},
		{"x < 2 || x < 4", binds{"x": between(0, 3)}, binds{"x": between(4, 9)}, ""}, {"x < 2 || 7 < x", same, binds{"x": between(2, 7)}, ""}, {"x == 1 || x == 3", binds{"x": value.Int(span.Of(1, 3), cong.Of(2, 1))}, same, ""}, {"!(x < 2 || y < 4)", binds{"x": between(2, 9), "y": between(4, 6)}, same, ""},
		{"x < 2 && 5 < x", nil, same, ""}, {"(x < 3) + 0", same, same, ""}, {"(x < 3) == 1", same, same, ""},
		{"x == g", binds{"x": between(2, 4)}, same, "g"}, {"g < 3", same, same, "g"}, {"x < g + g && g < y", binds{"x": between(0, 7)}, same, "g"}, {"h", nil, same, "h"}, {"g == 9", nil, same, "g"}, {"g && h", nil, same, "g h"}, {"u", nil, nil, "wants u"}, {"g + u", nil, nil, "g wants u"}, {"g < u && w", nil, nil, "g wants u"}, {"x < 3 || g == u", nil, nil, "g wants u"}, {"u == w", nil, nil, "wants u"},
		{"p == null", binds{"p": ptr(true)}, binds{"p": ptr(false, "g", "h")}, ""}, {"p != q", binds{"p": ptr(true, "h")}, binds{"p": ptr(false, "g")}, ""}, {"null == q", nil, same, ""}, {"q", nil, nil, ""}, {"r == &a[0]", binds{"r": ptr(false, "a")}, same, ""}, {"q == &g", same, nil, ""}, {"p == &h", binds{"p": ptr(false, "h")}, binds{"p": ptr(true, "g")}, ""},
		{"*q < 3", same, same, "g"}, {"*q == a[0]", nil, same, "g a"},
		{"zz", nil, nil, ""}, {"x == zz", nil, nil, ""}, {"x < x", binds{"x": between(1, 9)}, binds{"x": between(0, 9)}, ""}, {"x < x + 1", same, binds{"x": between(1, 9)}, ""},
	} {
		for _, truth := range []bool{true, false} {
			want := x.no
			if truth {
				want = x.yes
			}
			got := Test(world(), expr(x.text), truth)
			if g := gets(got); g != x.gets {
				t.Error(x.text, truth, "gets", g)
			}
			if got.Env.Live != (want != nil) {
				t.Error(x.text, truth, got)
				continue
			}
			for _, b := range world().Env.Binds {
				v, ok := want[b.Name]
				if !ok {
					v = b.V
				}
				if want != nil && !value.Same(env.Get(got.Env, b.Name), v) {
					t.Error(x.text, truth, b.Name, env.Get(got.Env, b.Name), v)
				}
			}
			if c := env.Clean(got.Env); got.Env.Live && len(c.Binds) != len(world().Env.Binds) || len(c.Binds) != len(got.Env.Binds) || got.Env.Live && !slices.IsSortedFunc(got.Env.Binds, func(a, b api.Bind) int { return strings.Compare(a.Name, b.Name) }) {
				t.Error("not clean", got)
			}
		}
	}
}

// P24.1: nothing is read where the env is not live, or where nothing remains of the first kid.
func TestNotLive(t *testing.T) {
	for _, text := range []string{"u", "g", "u && g", "g || u", "!u", "u == w", "1"} {
		for _, truth := range []bool{true, false} {
			r := world()
			r.Env.Live = false
			if l := Test(r, expr(text), truth); l.Env.Live || len(l.Env.Binds) > 0 || gets(l) != "" {
				t.Error(text, truth, l)
			}
		}
	}
	if l := Test(world(), expr("0 && u"), true); l.Wants || l.Env.Live {
		t.Error(l)
	}
	if l := Test(world(), expr("1 || u"), false); l.Wants || l.Env.Live {
		t.Error(l)
	}
	if l := Test(world(), expr("0 && g"), false); !l.Env.Live || gets(l) != "g" {
		t.Error(l)
	}
	if l := Test(world(), expr("0 && u"), false); !l.Wants || l.Env.Live || len(l.Env.Binds) > 0 {
		t.Error(l)
	}
}

// P24.1: what can hold by the bounds alone may leave nothing of one side.
func TestNothingLeft(t *testing.T) {
	r := world()
	r.Env = api.Env{Live: true, Binds: []api.Bind{{Name: "x", V: api.Value{Span: span.Of(0, 4), Cong: cong.Of(4, 3)}}, {Name: "y", V: between(0, 4)}}}
	for _, text := range []string{"x < 2", "2 == x", "y < 4 && x < y - 1"} {
		if l := Test(r, expr(text), true); l.Env.Live || len(l.Env.Binds) > 0 {
			t.Error(text, l)
		}
	}
	if l := Test(r, expr("x < 4"), true); !value.Same(env.Get(l.Env, "x"), value.Num(3)) {
		t.Error(l)
	}
}

// P24.1: expressions with the wrong number of kids have no value.
func TestStrangeExpressions(t *testing.T) {
	x := api.Expr{Op: api.ExpVar, Name: "x"}
	g := api.Expr{Op: api.ExpVar, Name: "g"}
	for _, e := range []api.Expr{{}, {Op: api.ExpNot}, {Op: api.ExpNot, Kids: []api.Expr{x, g}}, {Op: api.ExpAnd, Kids: []api.Expr{x}}, {Op: api.ExpOr, Kids: []api.Expr{x, g, x}}, {Op: api.ExpLt, Kids: []api.Expr{g}}, {Op: api.ExpEq, Kids: []api.Expr{x, g, x}}, {Op: 99, Kids: []api.Expr{x}}} {
		for _, truth := range []bool{true, false} {
			if l := Test(world(), e, truth); l.Env.Live || gets(l) != "" {
				t.Error(e, truth, l)
			}
		}
	}
}

// P24.2: the words of a run remain in what is left.
func TestContains(t *testing.T) {
	r := world()
	r.Env = api.Env{Live: true, Binds: []api.Bind{{Name: "x", V: between(-3, 3)}, {Name: "y", V: between(-2, 4)}}}
	atoms := []string{"x", "y < 2", "x <= y", "x == 1", "x != y", "!y", "x * y", "x % 2 == 1", "g < x"}
	var texts []string
	for _, a := range atoms {
		texts = append(texts, a, "!("+a+")")
		for _, b := range atoms {
			texts = append(texts, "("+a+") && ("+b+")", "("+a+") || !("+b+")", "!(("+a+") && ("+b+"))")
		}
	}
	m := mem.New(r.P)
	m.Set(api.Cell{Name: "g"}, api.Word{N: 2})
	for _, text := range texts {
		e := expr(text)
		for x := -3; x <= 3; x++ {
			for y := -2; y <= 4; y++ {
				f := eval.New(api.Graph{Vars: []api.Var{{Name: "x"}, {Name: "y"}}, Many: 2}, []api.Word{{N: x}, {N: y}})
				w, err := eval.Expr(m, f, e)
				if err != api.OK {
					t.Fatal(text, err)
				}
				l := Test(r, e, w.N != 0)
				if !value.HasInt(env.Get(l.Env, "x"), x) || !value.HasInt(env.Get(l.Env, "y"), y) {
					t.Error(print.Expr(e), x, y, l)
				}
			}
		}
	}
}
