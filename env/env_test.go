package env_test

import (
	"reflect"
	"testing"

	"sondage/api"
	"sondage/cong"
	. "sondage/env"
	"sondage/names"
	"sondage/span"
	"sondage/value"
)

func in(lo, hi int) api.Value { return value.Int(span.Of(lo, hi), cong.All()) }

func bind(name string, v api.Value) api.Bind { return api.Bind{Name: name, V: v} }

func live(l ...api.Bind) api.Env { return api.Env{Live: true, Binds: l} }

// equal compares envs part by part; nil and empty lists are the same.
func equal(a, b api.Env) bool {
	if a.Live != b.Live || len(a.Binds) != len(b.Binds) {
		return false
	}
	for i := range a.Binds {
		x, y := a.Binds[i], b.Binds[i]
		sets := x.V.Set.Null == y.V.Set.Null && (len(x.V.Set.Names)+len(y.V.Set.Names) == 0 || reflect.DeepEqual(x.V.Set.Names, y.V.Set.Names))
		if x.Name != y.Name || x.V.Span != y.V.Span || x.V.Cong != y.V.Cong || !sets {
			return false
		}
	}
	return true
}

// envs has clean envs and others.
func envs() []api.Env {
	odd := api.Value{Span: api.Span{Some: true, Lo: 4, Hi: 1}, Set: api.Set{Names: []string{"b", "a", "a"}}}
	return []api.Env{
		{}, {Binds: []api.Bind{bind("x", value.Num(1))}}, live(), live(bind("x", value.Num(1))), live(bind("x", value.Num(3))), live(bind("x", in(0, 9)), bind("y", value.Zero(true))), live(bind("y", value.Num(2)), bind("x", value.Num(1)), bind("y", value.Num(5))),
		live(bind("x", value.Ints()), bind("z", in(2, 1<<63-1))), live(bind("x", api.Value{})), live(bind("", value.Num(7)), bind("p", odd)), live(bind("x", value.Ints()), bind("y", value.Ints())),
	}
}

// P22.1
func TestMaking(t *testing.T) {
	g := api.Graph{Vars: []api.Var{{Name: "n"}, {Name: "a", Ptr: true}, {Name: "q", Ptr: true}, {Name: "b"}}, Many: 2}
	null, zero := value.Zero(true), value.Zero(false)
	five := api.Value{Span: span.One(5), Cong: api.Cong{Some: true, M: -1}}
	for _, x := range []struct {
		g    api.Graph
		l    []api.Value
		want api.Env
	}{
		{g, []api.Value{five, value.Ptr(names.Of(false, "g"))}, live(bind("a", value.Ptr(names.Of(false, "g"))), bind("b", zero), bind("n", value.Clean(five)), bind("q", null))},
		{g, []api.Value{value.Num(5)}, live(bind("a", null), bind("b", zero), bind("n", value.Num(5)), bind("q", null))},
		{g, []api.Value{value.Num(5), null, value.Num(6), value.Num(6)}, live(bind("a", null), bind("b", zero), bind("n", value.Num(5)), bind("q", null))},
		{api.Graph{Vars: g.Vars, Many: -1}, []api.Value{value.Num(5)}, live(bind("a", null), bind("b", zero), bind("n", zero), bind("q", null))},
		{api.Graph{Vars: g.Vars[:1], Many: 7}, []api.Value{value.Num(5), value.Num(6)}, live(bind("n", value.Num(5)))},
		{api.Graph{Vars: []api.Var{{Name: "n"}, {Name: "n", Ptr: true}}, Many: 2}, []api.Value{value.Num(5), value.Num(6)}, live(bind("n", value.Num(5)))},
		{api.Graph{}, nil, live()},
	} {
		got := Of(x.g, x.l)
		if !equal(got, x.want) {
			t.Error(x, got)
		}
	}
}

// P22.1
func TestBinding(t *testing.T) {
	for _, e := range envs() {
		c := Clean(e)
		if !equal(Clean(c), c) || c.Live != e.Live || !c.Live && len(c.Binds) > 0 {
			t.Error("clean", e, c)
		}
		for i, b := range c.Binds {
			if i > 0 && c.Binds[i-1].Name >= b.Name {
				t.Error("order", c)
			}
			if !equal(live(b), live(bind(b.Name, value.Clean(b.V)))) {
				t.Error("not clean", b)
			}
		}
		for _, name := range []string{"", "p", "x", "y", "z", "w"} {
			want := api.Value{}
			for i := len(e.Binds) - 1; e.Live && i >= 0; i-- {
				if e.Binds[i].Name == name {
					want = value.Clean(e.Binds[i].V)
				}
			}
			if got := Get(e, name); !equal(live(bind("", got)), live(bind("", want))) {
				t.Error("get", e, name, got)
			}
			s := Set(e, name, api.Value{Span: span.One(8), Cong: api.Cong{Some: true, M: 5, R: 13}})
			if !e.Live {
				if !equal(s, api.Env{}) {
					t.Error("set", e, s)
				}
				continue
			}
			if v := Get(s, name); v.Span != span.One(8) || v.Cong != cong.Of(5, 3) || !equal(Clean(s), s) {
				t.Error("set", e, name, s)
			}
			for _, other := range []string{"", "p", "x", "y", "z"} {
				if other != name && !equal(live(bind("", Get(s, other))), live(bind("", Get(e, other)))) {
					t.Error("set changed", other, e, s)
				}
			}
		}
		d := Drop(e, "x", "y", "nothing")
		if d.Live != e.Live || !equal(live(bind("", Get(d, "x"))), live(bind("", Get(e, "x")))) || !value.None(Get(d, "z")) || !value.None(Get(d, "p")) || !equal(Clean(d), d) {
			t.Error("drop", e, d)
		}
		if none := Drop(e); len(none.Binds) > 0 || none.Live != e.Live {
			t.Error("drop all", e, none)
		}
	}
}

// P22.2 to P22.4
func TestLattice(t *testing.T) {
	ladder := []int{-1, 0, 20}
	for _, a := range envs() {
		for _, b := range envs() {
			leq := !a.Live || b.Live
			join, widen, narrow := Join(a, b), Widen(a, b, ladder), Narrow(a, b)
			for _, name := range []string{"", "p", "x", "y", "z"} {
				x, y := Get(a, name), Get(b, name)
				leq = leq && (!a.Live || value.Leq(x, y))
				if !value.Same(Get(join, name), value.Join(x, y)) {
					t.Error("join", a, b, join)
				}
				if a.Live && b.Live && !value.Same(Get(widen, name), value.Widen(x, y, ladder)) {
					t.Error("widen", a, b, widen)
				}
			}
			if Leq(a, b) != leq || Same(a, b) != (Leq(a, b) && Leq(b, a)) {
				t.Error("leq, same", a, b)
			}
			for _, e := range []api.Env{join, widen, narrow} {
				if !equal(Clean(e), e) {
					t.Error("not clean", a, b, e)
				}
			}
			if !Leq(a, join) || !Leq(b, join) || !Leq(a, widen) || !Leq(b, widen) || !equal(join, Join(b, a)) {
				t.Error("laws", a, b)
			}
			if !a.Live && (!equal(widen, Clean(b)) || !equal(narrow, Clean(b))) || a.Live && !b.Live && (!equal(widen, Clean(a)) || !equal(narrow, api.Env{})) {
				t.Error("not live", a, b, widen, narrow)
			}
			if a.Live && b.Live && !leqBack(a, b, narrow) {
				t.Error("narrow", a, b, narrow)
			}
		}
	}
	if e := Join(live(bind("x", value.Num(1))), live(bind("x", value.Num(3)))); !equal(e, live(bind("x", value.Int(span.Of(1, 3), cong.Of(2, 1))))) {
		t.Error("the example", e)
	}
}

// leqBack reports whether narrow is a, or has the narrowed values of a where b is Leq a.
func leqBack(a, b, narrow api.Env) bool {
	if !Leq(b, a) {
		return equal(narrow, Clean(a))
	}
	for _, name := range []string{"", "p", "x", "y", "z"} {
		if !value.Same(Get(narrow, name), value.Narrow(Get(a, name), Get(b, name))) {
			return false
		}
	}
	return Leq(b, narrow) && Leq(narrow, a)
}

// P22.3
func TestNarrowAll(t *testing.T) {
	a := live(bind("x", value.Ints()), bind("y", in(0, 1<<63-1)))
	b := live(bind("x", in(1, 5)), bind("y", in(2, 7)))
	if e := Narrow(a, b); !equal(e, live(bind("x", in(1, 5)), bind("y", in(0, 7)))) {
		t.Error(e)
	}
	// One value that has grown keeps all others.
	if e := Narrow(a, live(bind("x", in(1, 5)), bind("y", in(-1, 7)))); !equal(e, a) {
		t.Error(e)
	}
	if e := Narrow(a, live(bind("x", in(1, 5)))); !equal(e, live(bind("x", in(1, 5)), bind("y", api.Value{}))) {
		t.Error(e)
	}
}
