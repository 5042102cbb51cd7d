package rhs_test

import (
	"slices"
	"strings"
	"testing"

	"sondage/api"
	"sondage/cell"
	"sondage/cong"
	"sondage/env"
	"sondage/key"
	"sondage/names"
	. "sondage/rhs"
	"sondage/sample"
	"sondage/span"
	"sondage/value"
)

var (
	program = sample.Lines
	k       = sample.Key
	texts   = sample.Show
)

func live(l ...api.Bind) api.State { return api.State{Env: env.Clean(api.Env{Live: true, Binds: l})} }

func bind(name string, v api.Value) api.Bind { return api.Bind{Name: name, V: v} }

func result(v api.Value) api.State { return live(bind("", v)) }

func known(text string, s api.State) api.Side { return api.Side{Key: k(text), State: s} }

func between(lo, hi int) api.Value { return value.Int(span.Of(lo, hi), cong.All()) }

// P28.1
func TestBase(t *testing.T) {
	q := New(program("int g;", "int *p;", "int a[3];", "int main() { int x; int *y; return 3; }", "int f(int n) { }"))
	main := live(bind("x", value.Num(0)), bind("y", value.Zero(true)))
	for _, x := range []struct {
		k    api.Key
		want api.State
		ok   bool
	}{
		{k("g"), api.State{Val: value.Num(0)}, true}, {k("p"), api.State{Val: value.Zero(true)}, true}, {k("a"), api.State{Val: value.Num(0)}, true}, {api.Key{Name: "g", Node: -9}, api.State{Val: value.Num(0)}, true},
		{k("main.0"), main, true}, {k("main.1"), api.State{}, true}, {k("main.2"), api.State{}, true}, {k("main.3"), api.State{}, false}, {k("f.0"), api.State{}, true}, {k("f.1"), api.State{}, true}, {k("f.2"), api.State{}, false}, {k("f"), api.State{}, false}, {k("g.0"), api.State{}, false}, {k("zz"), api.State{}, false}, {k("zz.0"), api.State{}, false},
	} {
		if s, ok := q.Base(x.k); ok != x.ok || !cell.Same(s, x.want) || s.Env.Live != x.want.Env.Live {
			t.Error(x, s, ok)
		}
	}
	if l := texts(q.Keys()); l != "a f.0 f.1 g main.0 main.1 main.2 p" {
		t.Error(l)
	}
	if s, _ := New(program("int main(int n) { }")).Base(k("main.0")); s.Env.Live {
		t.Error("main with parameters", s)
	}
	if l := New(api.Program{}).Keys(); len(l) != 0 {
		t.Error(l)
	}
}

// P28.1: the first function and the first global with a name count.
func TestTwins(t *testing.T) {
	p := program("int f() { return 1; }", "int f(int n) { n = 2; n = 3; n = 4; return 5; }", "int main() { }", "int main(int n) { }", "int g;", "int *g;")
	q := New(p)
	if l := texts(q.Keys()); l != "f.0 f.1 f.2 g main.0 main.1" {
		t.Error(l)
	}
	if s, _ := q.Base(k("g")); !value.Same(s.Val, value.Num(0)) {
		t.Error(s)
	}
	if s, _ := q.Base(k("main.0")); !s.Env.Live {
		t.Error(s)
	}
	if r := q.Eval([]api.Side{known("f.0", live()), known("f.2", api.State{})}, k("f.1")); texts(r.Gets) != "f.0 f.2" || !value.Same(env.Get(r.State.Env, ""), value.Num(1)) {
		t.Error(r)
	}
}

// P28.2
func TestEval(t *testing.T) {
	p := program("int g;", "int *p;", "int a[3];", "int h;",
		"int main() { int x; x = g; if (x < 2) { x = f(x, p); } else { a[x] = x; *p = 7; } return x; }",
		"int f(int n, int *q) { g = n; g = n + 2; return h; }",
		"int loop() { int i; while (i < g) { i = i + 1; } }")
	x := func(v api.Value) api.State { return live(bind("x", v)) }
	n := func(v api.Value) api.State { return live(bind("n", v), bind("q", value.Zero(true))) }
	i := func(v api.Value) api.State { return live(bind("i", v)) }
	val := func(v api.Value) api.State { return api.State{Val: v} }
	for at, c := range []struct {
		k     string
		known []api.Side
		gets  string
		state api.State
		sides []api.Side
	}{
		{"main.0", nil, "", live(bind("x", value.Num(0))), nil},
		{"f.0", nil, "", api.State{}, nil},
		{"g", nil, "", val(value.Num(0)), nil}, {"p", nil, "", val(value.Zero(true)), nil},
		{"main.2", nil, "wants main.0", api.State{}, nil},
		{"main.2", []api.Side{known("main.0", api.State{})}, "main.0", api.State{}, nil},
		{"main.2", []api.Side{known("main.0", x(value.Num(0)))}, "main.0 wants g", api.State{}, nil},
		{"main.2", []api.Side{known("main.0", x(value.Num(0))), known("g", val(between(4, 6))), known("g", val(value.Num(1)))}, "main.0 g", x(between(4, 6)), nil},
		{"main.3", []api.Side{known("main.2", x(between(0, 9)))}, "main.2", x(between(0, 1)), nil},
		{"main.4", []api.Side{known("main.2", x(between(0, 9)))}, "main.2", x(between(2, 9)), nil},
		{"main.5", []api.Side{known("main.3", x(value.Num(1)))}, "main.3 wants p", api.State{}, nil},
		{"main.5", []api.Side{known("main.3", x(value.Num(1))), known("p", val(value.Zero(true)))}, "main.3 p wants f.1", api.State{}, nil},
		{"main.5", []api.Side{known("main.3", x(value.Num(1))), known("p", val(value.Zero(true))), known("f.1", api.State{})}, "main.3 p f.1", api.State{}, []api.Side{known("f.0", n(value.Num(1)))}},
		{"main.5", []api.Side{known("main.3", x(value.Num(1))), known("p", val(value.Zero(true))), known("f.1", result(value.Num(8)))}, "main.3 p f.1", x(value.Num(8)), []api.Side{known("f.0", n(value.Num(1)))}},
		{"main.6", []api.Side{known("main.5", x(value.Num(1))), known("main.8", x(value.Num(5)))}, "main.5 main.8", x(value.Int(span.Of(1, 5), cong.Of(4, 1))), nil},
		{"main.6", []api.Side{known("main.5", x(value.Num(1)))}, "main.5 wants main.8", api.State{}, nil},
		{"main.7", []api.Side{known("main.4", x(between(2, 9)))}, "main.4", x(between(2, 9)), []api.Side{known("a", val(between(2, 9)))}},
		{"main.8", []api.Side{known("main.7", x(value.Num(2))), known("p", val(value.Ptr(names.Of(true, "h", "g"))))}, "main.7 p", x(value.Num(2)), []api.Side{known("g", val(value.Num(7))), known("h", val(value.Num(7)))}},
		{"f.2", []api.Side{known("f.0", n(value.Num(5)))}, "f.0", n(value.Num(5)), []api.Side{known("g", val(value.Num(5)))}},
		{"f.1", []api.Side{known("f.3", n(value.Num(5))), known("f.4", n(value.Num(5))), known("h", val(value.Num(2)))}, "f.3 h f.4", result(value.Int(span.Of(0, 2), cong.Of(2, 0))), nil},
		{"loop.2", []api.Side{known("loop.0", i(value.Num(0))), known("loop.5", i(value.Num(1)))}, "loop.0 loop.5", i(between(0, 1)), nil},
		{"zz.0", nil, "", api.State{}, nil}, {"main.99", nil, "", api.State{}, nil}, {"zz", nil, "", api.State{}, nil},
	} {
		r := New(p).Eval(c.known, k(c.k))
		got := texts(r.Gets)
		if r.Wants {
			got = strings.TrimSpace(got + " wants " + key.Text(r.Want))
		} else if r.Want != (api.Key{}) {
			t.Error(at, "want", r)
		}
		if got != c.gets || !cell.Same(r.State, c.state) || r.State.Env.Live != c.state.Env.Live {
			t.Error(at, c.k, got, r.State)
		}
		if !slices.EqualFunc(r.Sides, c.sides, func(a, b api.Side) bool { return a.Key == b.Key && cell.Same(a.State, b.State) }) {
			t.Error(at, c.k, r.Sides)
		}
	}
	if r := New(p).Eval(nil, api.Key{Name: "g", Node: -5}); !value.Same(r.State.Val, value.Num(0)) {
		t.Error("a key that is not clean", r)
	}
}

// P28.2: the sides are in increasing order of keys, and a wish leaves nothing of the edges before it.
func TestSides(t *testing.T) {
	p := program("int a;", "int z;", "int f() { }", "int main() { a = f(); z = f(); if (a) { return a; } return z; }")
	l := []api.Side{known("main.0", live()), known("main.2", live()), known("f.1", result(value.Num(7)))}
	for _, x := range []struct{ k, sides string }{{"main.2", "a f.0"}, {"main.3", "f.0 z"}} {
		var keys []api.Key
		for _, s := range New(p).Eval(l, k(x.k)).Sides {
			keys = append(keys, s.Key)
		}
		if texts(keys) != x.sides {
			t.Error(x, texts(keys))
		}
	}
	l = []api.Side{known("main.4", live()), known("main.7", live()), known("main.8", live()), known("a", api.State{Val: value.Num(1)})}
	if r := New(p).Eval(l, k("main.1")); !r.Wants || r.Want != k("z") || texts(r.Gets) != "main.4 a main.7" || len(r.Sides) > 0 || r.State.Env.Live {
		t.Error(r)
	}
}

// P28.2: each unknown is among the Gets once, where it was first read.
func TestGetsOnce(t *testing.T) {
	p := program("int g;", "int h;", "int main() { if (g) { return h + g; } return g + h; }")
	l := []api.Side{known("main.2", live()), known("main.5", live()), known("main.6", live()), known("g", api.State{Val: value.Num(1)}), known("h", api.State{Val: value.Num(2)})}
	if r := New(p).Eval(l, k("main.1")); texts(r.Gets) != "main.2 h g main.5 main.6" || r.Wants {
		t.Error(texts(r.Gets), r.Want)
	}
}

// P28.3: the result depends only on what was read.
func TestOnlyWhatIsRead(t *testing.T) {
	p := program("int g;", "int main() { int x; x = g; return x; }")
	l := []api.Side{known("main.0", live(bind("x", value.Num(0)))), known("g", api.State{Val: between(4, 6)})}
	a := New(p).Eval(l, k("main.2"))
	b := New(p).Eval(append([]api.Side{known("main.1", live()), known("main.2", live())}, l...), k("main.2"))
	if !cell.Same(a.State, b.State) || !slices.Equal(a.Gets, b.Gets) {
		t.Error(a, b)
	}
}

// P28.2
func TestNil(t *testing.T) {
	var q *Plan
	r := q.Eval(nil, k("main.0"))
	s, ok := q.Base(k("main.0"))
	if ok || s.Env.Live || len(q.Keys()) > 0 || r.Wants || len(r.Gets)+len(r.Sides) > 0 || r.State.Env.Live {
		t.Error(r, s, ok)
	}
}
