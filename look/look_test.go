package look_test

import (
	"slices"
	"strings"
	"testing"

	"sondage/api"
	"sondage/cong"
	"sondage/eval"
	"sondage/flow"
	. "sondage/look"
	"sondage/mem"
	"sondage/names"
	"sondage/parse"
	"sondage/print"
	"sondage/sample"
	"sondage/span"
	"sondage/value"
)

func from(lo, hi int) api.Value { return value.Int(span.Of(lo, hi), cong.All()) }

func ptr(null bool, l ...string) api.Value { return value.Ptr(names.Of(null, l...)) }

func known(name string, v api.Value) api.Side {
	return api.Side{Key: api.Key{Name: name, Node: -1}, State: api.State{Val: v}}
}

// world has the variables x and p, and globals of all kinds, of which those of known are known.
func world() Room {
	return Room{
		P:     api.Program{Globals: []api.Global{{Name: "g"}, {Name: "h"}, {Name: "gp", Ptr: true}, {Name: "a", Size: 3}, {Name: "g", Size: 9}, {Name: "x"}, {Name: "u"}, {Name: "odd", Ptr: true, Size: 2}}},
		Env:   api.Env{Live: true, Binds: []api.Bind{{Name: "x", V: from(1, 3)}, {Name: "p", V: ptr(true, "g", "a", "no")}, {Name: "x", V: from(7, 9)}, {Name: "q", V: ptr(false, "u", "g")}, {Name: "n", V: api.Value{}}}},
		Known: []api.Side{known("g", from(5, 6)), known("gp", ptr(true, "h")), known("a", from(0, 2)), known("g", from(50, 60)), known("h", api.Value{Span: span.One(9), Cong: api.Cong{Some: true, M: 4, R: 9}}), {Key: api.Key{Name: "u", Node: -2}}, known("odd", ptr(true))},
	}
}

// gets writes the names of globals that were read, and the one that is wanted.
func gets(s Seen) string {
	var l []string
	for _, k := range s.Gets {
		if k.Node != -1 {
			l = append(l, "?")
		}
		l = append(l, k.Name)
	}
	if s.Wants {
		l = append(l, "wants", s.Want.Name)
	}
	return strings.Join(l, " ")
}

func equal(a, b api.Value) bool {
	return a.Span == b.Span && a.Cong == b.Cong && a.Set.Null == b.Set.Null && slices.Equal(a.Set.Names, b.Set.Names)
}

// P23.3
func TestExpr(t *testing.T) {
	none, bit := api.Value{}, from(0, 1)
	h := api.Value{Span: span.One(9), Cong: cong.Of(4, 1)}
	for _, x := range []struct {
		text string
		v    api.Value
		gets string
	}{
		{"7", value.Num(7), ""}, {"null", ptr(true), ""}, {"x", from(1, 3), ""}, {"n", none, ""}, {"g", from(5, 6), "g"}, {"h", h, "h"}, {"zz", none, ""}, {"u", none, "wants u"}, {"x + g", from(6, 9), "g"},
		{"a[x]", from(0, 2), "a"}, {"a[x + 2]", none, ""}, {"a[x + 1]", from(0, 2), "a"}, {"a[g]", none, "g"}, {"a[-1]", none, ""}, {"g[0]", from(5, 6), "g"}, {"g[1]", none, ""}, {"g[x]", none, ""}, {"zz[0]", none, ""}, {"a[p]", none, ""}, {"a[u]", none, "wants u"}, {"u[0]", none, "wants u"}, {"a[2 * x - 3]", from(0, 2), "a"}, {"odd[1]", ptr(true), "odd"}, {"odd[2]", none, ""},
		{"*p", from(0, 6), "a g"}, {"*gp", h, "gp h"}, {"*q", none, "g wants u"}, {"*n", none, ""}, {"*x", none, ""}, {"*zz", none, ""}, {"*u", none, "wants u"}, {"*g", none, "g"},
		{"&g", ptr(false, "g"), ""}, {"&u", ptr(false, "u"), ""}, {"&p", none, ""}, {"&x", ptr(false, "x"), ""}, {"&a[x]", ptr(false, "a"), ""}, {"&a[x + 2]", none, ""}, {"&zz[0]", none, ""}, {"&g[0]", ptr(false, "g"), ""}, {"&a[u]", none, "wants u"},
		{"-x", from(-3, -1), ""}, {"!x", value.Num(0), ""}, {"-zz", none, ""}, {"!p", none, ""}, {"x / 0", none, ""}, {"x < 4", value.Num(1), ""}, {"x == 2", bit, ""}, {"x && g", value.Num(1), "g"}, {"x || g", value.Num(1), "g"}, {"x * g", from(5, 18), "g"}, {"p == null", bit, ""}, {"&a[0] == &a[0]", bit, ""}, {"&g == &g", value.Num(1), ""}, {"&g != &h", value.Num(1), ""}, {"p + 1", none, ""},
		{"g + h + g", value.Int(span.Of(19, 21), cong.All()), "g h"}, {"h + g + h", value.Int(span.Of(23, 24), cong.All()), "h g"}, {"g + u + h", none, "g wants u"}, {"u + x", none, "wants u"}, {"zz + g", none, "g"}, {"zz + u", none, "wants u"}, {"0 && g", value.Num(0), "g"}, {"&odd[0] == &odd[0]", bit, ""},
	} {
		e, _, err := parse.Text([]byte(x.text))
		if err != api.OK {
			t.Fatal(x.text)
		}
		if s := Expr(world(), e); !equal(s.V, x.v) || gets(s) != x.gets || s.Wants != strings.Contains(x.gets, "wants") {
			t.Error(x.text, s)
		}
		dead := world()
		dead.Env.Live = false
		if s := Expr(dead, e); !equal(s.V, none) || gets(s) != "" || s.Wants {
			t.Error("not live", x.text, s)
		}
	}
}

// P23.3
func TestStrangeExpressions(t *testing.T) {
	g := api.Expr{Op: api.ExpVar, Name: "g"}
	h := api.Expr{Op: api.ExpVar, Name: "h"}
	for _, x := range []struct {
		e    api.Expr
		v    api.Value
		gets string
	}{
		{api.Expr{}, api.Value{}, ""}, {api.Expr{Op: 21, Kids: []api.Expr{g, g}}, api.Value{}, ""}, {api.Expr{Op: api.ExpAdd, Kids: []api.Expr{g}}, api.Value{}, ""}, {api.Expr{Op: api.ExpVar, Name: "g", Kids: []api.Expr{h}}, api.Value{}, ""}, {api.Expr{Op: api.ExpNeg}, api.Value{}, ""}, {api.Expr{Op: api.ExpIndex, Name: "a", Kids: []api.Expr{g, g}}, api.Value{}, ""}, {api.Expr{Op: api.ExpOr, Kids: []api.Expr{g, g, g}}, api.Value{}, ""},
		{api.Expr{Op: api.ExpAdd, Kids: []api.Expr{{Op: 99, Kids: []api.Expr{g}}, h}}, api.Value{}, "h"},
	} {
		if s := Expr(world(), x.e); !equal(s.V, x.v) || gets(s) != x.gets || s.Wants {
			t.Error(x, s)
		}
	}
}

// P23.2
func TestName(t *testing.T) {
	for _, x := range []struct {
		name string
		v    api.Value
		gets string
	}{{"x", from(1, 3), ""}, {"p", ptr(true, "a", "g", "no"), ""}, {"n", api.Value{}, ""}, {"g", from(5, 6), "g"}, {"gp", ptr(true, "h"), "gp"}, {"u", api.Value{}, "wants u"}, {"zz", api.Value{}, ""}, {"", api.Value{}, ""}} {
		if s := Name(world(), x.name); !equal(s.V, x.v) || gets(s) != x.gets {
			t.Error(x, s)
		}
		dead := world()
		dead.Env.Live = false
		if s := Name(dead, x.name); !equal(s.V, api.Value{}) || gets(s) != "" {
			t.Error("not live", x.name, s)
		}
	}
}

// P23.1
func TestKnownArraysPlaces(t *testing.T) {
	r := world()
	if s, ok := Known(r.Known, api.Key{Name: "g", Node: -1}); !ok || !equal(s.Val, from(5, 6)) {
		t.Error(s, ok)
	}
	for _, k := range []api.Key{{Name: "u", Node: -1}, {Name: "g", Node: -2}, {Name: "g"}, {}} {
		if s, ok := Known(r.Known, k); ok || !equal(s.Val, api.Value{}) {
			t.Error(k, s, ok)
		}
	}
	if _, ok := Known(r.Known, api.Key{Name: "u", Node: -2}); !ok {
		t.Error("exactly this key")
	}
	if l := Arrays(r.P); !slices.Equal(l, []string{"a", "odd"}) {
		t.Error(l)
	}
	if l := Arrays(api.Program{Globals: []api.Global{{Name: "b", Size: 1}, {Name: "a", Size: 2}, {Name: "b", Size: 3}, {Name: "c", Size: -1}}}); !slices.Equal(l, []string{"b", "a"}) {
		t.Error(l)
	}
	for _, x := range []struct {
		name string
		v    api.Value
		ok   bool
	}{
		{"a", from(0, 0), true}, {"a", from(2, 9), true}, {"a", from(3, 9), false}, {"a", from(-5, -1), false}, {"a", from(-5, 0), true}, {"a", value.Int(span.Of(-5, 9), cong.Of(8, 3)), false}, {"a", value.Int(span.Of(-5, 9), cong.Of(7, 1)), true}, {"a", ptr(true), false}, {"a", api.Value{}, false},
		{"a", api.Value{Span: span.Of(0, 9), Cong: api.Cong{Some: true, M: 5, R: -1}}, false}, {"g", from(-1, 1), true}, {"g", from(1, 1), false}, {"g", value.Int(span.Of(-1, 1), cong.Of(2, 1)), false}, {"zz", from(0, 0), false}, {"odd", from(1, 1), true}, {"odd", from(2, 2), false},
	} {
		if ok := Places(r.P, x.name, x.v); ok != x.ok {
			t.Error(x, ok)
		}
	}
}

// P23.4: what was not read does not matter.
func TestOnlyWhatIsRead(t *testing.T) {
	e, _, _ := parse.Text([]byte("x + g"))
	r := world()
	r.Known = []api.Side{known("a", from(5, 5)), known("g", from(5, 6))}
	if s := Expr(r, e); !equal(s.V, from(6, 9)) || gets(s) != "g" {
		t.Error(s)
	}
}

// word returns a word of a type, chosen by n; pointers go to places of the globals of sample programs.
func word(ptr bool, n int) api.Word {
	if !ptr {
		return api.Word{N: []int{0, 1, 2, -1, 5, -7, 1 << 62, -1 << 63}[n%8]}
	}
	return api.Word{Ptr: true, To: []api.Cell{{}, {Name: "g"}, {Name: "h"}, {Name: "a"}, {Name: "a", At: 2}}[n%5]}
}

// around returns a value that contains a word, and others if n is odd.
func around(w api.Word, n int) api.Value {
	v := value.Num(w.N)
	if w.Ptr {
		v = ptr(w.To.Name == "", strings.Fields(w.To.Name)...)
	}
	if n%2 == 1 {
		v = value.Join(v, around(word(w.Ptr, n+3), 0))
	}
	return v
}

func has(v api.Value, w api.Word) bool {
	if w.Ptr {
		return value.HasPtr(v, w.To.Name)
	}
	return value.HasInt(v, w.N)
}

// P23.4: what an expression evaluates to in a run is contained in its value.
func TestContains(t *testing.T) {
	many := 0
	for seed := range 400 {
		p := sample.Program(seed, sample.Full())
		m := mem.New(p)
		var l []api.Side
		for i, h := range m.All() {
			w := word(h.W.Ptr, seed*3+i)
			m.Set(h.C, w)
			s, _ := Known(l, api.Key{Name: h.C.Name, Node: -1})
			l = append([]api.Side{known(h.C.Name, value.Join(s.Val, around(w, seed+i)))}, l...)
		}
		for _, f := range p.Funcs {
			g := flow.Graph(f)
			frame := eval.New(g, nil)
			e := api.Env{Live: true}
			for i, v := range g.Vars {
				w := word(v.Ptr, seed*5+i)
				frame.Set(v.Name, w)
				e.Binds = append(e.Binds, api.Bind{Name: v.Name, V: around(w, seed/2+i)})
			}
			for _, x := range g.Edges {
				for _, exp := range x.Exps {
					w, err := eval.Expr(m, frame, exp)
					s := Expr(Room{P: p, Env: e, Known: l}, exp)
					if s.Wants || err == api.OK && !has(s.V, w) {
						t.Fatal(seed, print.Expr(exp), w, s)
					}
					if err == api.OK {
						many++
					}
				}
			}
		}
	}
	if many < 2000 {
		t.Error("few expressions", many)
	}
}
