package edge_test

import (
	"slices"
	"strings"
	"testing"

	"sondage/api"
	"sondage/cong"
	. "sondage/edge"
	"sondage/env"
	"sondage/flow"
	"sondage/grammar"
	"sondage/look"
	"sondage/names"
	"sondage/parse"
	"sondage/run"
	"sondage/sample"
	"sondage/span"
	"sondage/value"
)

func between(lo, hi int) api.Value { return value.Int(span.Of(lo, hi), cong.All()) }

func ptr(null bool, l ...string) api.Value { return value.Ptr(names.Of(null, l...)) }

func known(name string, v api.Value) api.Side {
	return api.Side{Key: api.Key{Name: name, Node: -1}, State: api.State{Val: v}}
}

func function(text string) api.Func {
	f, _, err := grammar.FuncText([]byte(text))
	if err != api.OK {
		panic(text)
	}
	return f
}

func live(l ...api.Bind) api.Env { return env.Clean(api.Env{Live: true, Binds: l}) }

func bind(name string, v api.Value) api.Bind { return api.Bind{Name: name, V: v} }

// world has variables, globals and functions; u, w and lost.1 are not known, and dead.1 is not live.
func world() look.Room {
	end := func(name string, e api.Env) api.Side {
		return api.Side{Key: api.Key{Name: name, Node: 1}, State: api.State{Env: e}}
	}
	return look.Room{
		P: api.Program{
			Globals: []api.Global{{Name: "g"}, {Name: "h"}, {Name: "a", Size: 3}, {Name: "u"}, {Name: "w"}, {Name: "gp", Ptr: true}},
			Funcs:   []api.Func{function("int f(int n, int *q) { int i; return n; }"), function("int dead() { }"), function("int lost() { }"), function("int odd() { }"), function("int f() { }")},
		},
		Env:   api.Env{Live: true, Binds: []api.Bind{bind("x", between(0, 9)), bind("p", ptr(true, "h", "g", "no")), bind("none", ptr(true)), bind("void", api.Value{}), bind("bad", ptr(false, "no"))}},
		Known: []api.Side{known("g", between(2, 4)), known("h", value.Num(7)), known("a", between(0, 1)), known("gp", ptr(false, "h")), end("f", live(bind("", between(5, 6)))), end("dead", api.Env{}), end("odd", live()), end("nowhere", live(bind("", value.Num(1))))},
	}
}

func expr(text string) api.Expr {
	e, _, err := parse.Text([]byte(text))
	if err != api.OK {
		panic(text)
	}
	return e
}

func edge(kind int, name string, texts ...string) api.Edge {
	x := api.Edge{Kind: kind, Name: name}
	for _, text := range texts {
		x.Exps = append(x.Exps, expr(text))
	}
	return x
}

func call(f, name string, texts ...string) api.Edge {
	x := edge(api.EdgeCall, name, texts...)
	x.Func = f
	return x
}

func keyText(k api.Key) string {
	if k.Node < 0 {
		return k.Name
	}
	return k.Name + "." + string(rune('0'+k.Node))
}

func gets(o Out) string {
	var s []string
	for _, k := range o.Gets {
		s = append(s, keyText(k))
	}
	if o.Wants {
		s = append(s, "wants", keyText(o.Want))
	}
	return strings.Join(s, " ")
}

func sameSides(a, b []api.Side) bool {
	if len(a) != len(b) {
		return false
	}
	for i := range a {
		if a[i].Key != b[i].Key || !env.Same(a[i].State.Env, b[i].State.Env) || a[i].State.Env.Live != b[i].State.Env.Live || !value.Same(a[i].State.Val, b[i].State.Val) {
			return false
		}
	}
	return true
}

// P25.1
func TestPass(t *testing.T) {
	e := env.Clean(world().Env)
	none := api.Env{}
	begin := func(n, q api.Value) api.Side {
		return api.Side{Key: api.Key{Name: "f"}, State: api.State{Env: live(bind("n", n), bind("q", q), bind("i", value.Num(0)))}}
	}
	with := func(name string, v api.Value) api.Env { return env.Set(e, name, v) }
	result := func(v api.Value) api.Env { return live(bind("", v)) }
	for i, x := range []struct {
		x     api.Edge
		env   api.Env
		gets  string
		sides []api.Side
	}{
		{edge(api.EdgeSkip, ""), e, "", nil}, {edge(api.EdgeSkip, "", "1"), none, "", nil}, {edge(-1, ""), none, "", nil}, {edge(10, "x", "1"), none, "", nil},
		{edge(api.EdgeTrue, "", "x < 5"), with("x", between(0, 4)), "", nil}, {edge(api.EdgeFalse, "", "x < 5"), with("x", between(5, 9)), "", nil}, {edge(api.EdgeTrue, "", "x < g"), with("x", between(0, 3)), "g", nil}, {edge(api.EdgeTrue, "", "g < u"), none, "g wants u", nil}, {edge(api.EdgeTrue, "", "g < 0"), none, "g", nil}, {edge(api.EdgeTrue, ""), none, "", nil}, {edge(api.EdgeFalse, "", "1", "2"), none, "", nil},
		{edge(api.EdgeInput, "x"), with("x", value.Ints()), "", nil}, {edge(api.EdgeInput, "g"), e, "", []api.Side{known("g", value.Ints())}}, {edge(api.EdgeInput, "zz"), none, "", nil}, {edge(api.EdgeInput, "x", "1"), none, "", nil},
		{edge(api.EdgeAssign, "x", "x + 1"), with("x", between(1, 10)), "", nil}, {edge(api.EdgeAssign, "x", "g"), with("x", between(2, 4)), "g", nil}, {edge(api.EdgeAssign, "g", "3"), e, "", []api.Side{known("g", value.Num(3))}}, {edge(api.EdgeAssign, "u", "g + g"), e, "g", []api.Side{known("u", between(4, 8))}}, {edge(api.EdgeAssign, "zz", "3"), none, "", nil}, {edge(api.EdgeAssign, "x", "1 / 0"), none, "", nil}, {edge(api.EdgeAssign, "g", "1 / 0"), none, "", nil}, {edge(api.EdgeAssign, "g", "zz + g"), none, "g", nil}, {edge(api.EdgeAssign, "x", "u"), none, "wants u", nil}, {edge(api.EdgeAssign, "x"), none, "", nil}, {edge(api.EdgeAssign, "x", "1", "2"), none, "", nil}, {edge(api.EdgeAssign, "void", "1"), with("void", value.Num(1)), "", nil},
		{edge(api.EdgeAssert, "", "g < x"), e, "g", nil}, {edge(api.EdgeAssert, "", "0"), e, "", nil}, {edge(api.EdgeAssert, "", "1 / 0"), none, "", nil}, {edge(api.EdgeAssert, ""), none, "", nil}, {edge(api.EdgeAssert, "", "u"), none, "wants u", nil},
		{edge(api.EdgeReturn, "x", "x + g"), result(between(2, 13)), "g", nil}, {edge(api.EdgeReturn, "", "1 % 0"), none, "", nil}, {edge(api.EdgeReturn, ""), none, "", nil},
		{edge(api.EdgePut, "a", "x", "g"), e, "g", []api.Side{known("a", between(2, 4))}}, {edge(api.EdgePut, "a", "x + 3", "g"), none, "g", nil}, {edge(api.EdgePut, "a", "x + 2", "1"), e, "", []api.Side{known("a", value.Num(1))}}, {edge(api.EdgePut, "zz", "0", "1"), none, "", nil}, {edge(api.EdgePut, "g", "0", "1"), e, "", []api.Side{known("g", value.Num(1))}}, {edge(api.EdgePut, "a", "1 / 0", "g"), none, "g", nil}, {edge(api.EdgePut, "a", "0", "void"), none, "", nil}, {edge(api.EdgePut, "a", "h", "u"), none, "h wants u", nil}, {edge(api.EdgePut, "a", "0"), none, "", nil},
		{edge(api.EdgeStore, "p", "x"), e, "", []api.Side{known("g", between(0, 9)), known("h", between(0, 9))}}, {edge(api.EdgeStore, "gp", "g"), e, "g gp", []api.Side{known("h", between(2, 4))}}, {edge(api.EdgeStore, "none", "g"), none, "g", nil}, {edge(api.EdgeStore, "bad", "g"), none, "g", nil}, {edge(api.EdgeStore, "x", "1"), none, "", nil}, {edge(api.EdgeStore, "zz", "1"), none, "", nil}, {edge(api.EdgeStore, "gp", "1 / 0"), none, "", nil}, {edge(api.EdgeStore, "u", "g"), none, "g wants u", nil}, {edge(api.EdgeStore, "p", "1", "2"), none, "", nil},
		{call("f", "x", "x", "p"), with("x", between(5, 6)), "f.1", []api.Side{begin(between(0, 9), ptr(true, "g", "h", "no"))}}, {call("f", "", "g", "null"), e, "g f.1", []api.Side{begin(between(2, 4), ptr(true))}}, {call("f", "g", "1", "null"), e, "f.1", []api.Side{begin(value.Num(1), ptr(true)), known("g", between(5, 6))}}, {call("f", "zz", "1", "null"), none, "f.1", []api.Side{begin(value.Num(1), ptr(true))}}, {call("f", "x"), with("x", between(5, 6)), "f.1", []api.Side{begin(value.Num(0), ptr(true))}},
		{call("f", "x", "1 / 0", "g"), none, "g", nil}, {call("f", "x", "u", "g"), none, "wants u", nil}, {call("lost", "x", "g"), none, "g wants lost.1", nil}, {call("dead", "x"), none, "dead.1", []api.Side{{Key: api.Key{Name: "dead"}, State: api.State{Env: live()}}}}, {call("dead", ""), none, "dead.1", []api.Side{{Key: api.Key{Name: "dead"}, State: api.State{Env: live()}}}}, {call("odd", "x"), none, "odd.1", []api.Side{{Key: api.Key{Name: "odd"}, State: api.State{Env: live()}}}}, {call("odd", ""), e, "odd.1", []api.Side{{Key: api.Key{Name: "odd"}, State: api.State{Env: live()}}}}, {call("nowhere", "x"), none, "nowhere.1", nil}, {call("zz", "x", "g"), none, "g wants zz.1", nil},
	} {
		out := Pass(world(), x.x)
		if g := gets(out); g != x.gets || out.Wants != strings.Contains(x.gets, "wants") {
			t.Error(i, x.x, "gets", g)
		}
		if out.Env.Live != x.env.Live || !env.Same(out.Env, x.env) || len(out.Env.Binds) != len(x.env.Binds) {
			t.Error(i, x.x, out.Env)
		}
		if !slices.IsSortedFunc(out.Env.Binds, func(a, b api.Bind) int { return strings.Compare(a.Name, b.Name) }) {
			t.Error(i, x.x, "not clean", out.Env)
		}
		if !sameSides(out.Sides, x.sides) {
			t.Error(i, x.x, out.Sides)
		}
		dead := world()
		dead.Env.Live = false
		if out := Pass(dead, x.x); out.Env.Live || len(out.Env.Binds)+len(out.Gets)+len(out.Sides) > 0 || out.Wants {
			t.Error("not live", i, out)
		}
	}
}

// P25.1: each unknown is read once, in the order of the first time.
func TestGetsOnce(t *testing.T) {
	if out := Pass(world(), edge(api.EdgePut, "a", "h - 7", "g + h")); gets(out) != "h g" {
		t.Error(out)
	}
	if out := Pass(world(), call("f", "x", "h + g", "gp")); gets(out) != "h g gp f.1" {
		t.Error(out)
	}
}

// of returns the value that contains only a word.
func of(w api.Word) api.Value {
	if w.Ptr {
		return ptr(w.To.Name == "", strings.Fields(w.To.Name)...)
	}
	return value.Num(w.N)
}

// state returns what a run has in the globals, each as one value, and in the variables of its last call.
func state(r *run.Run, p api.Program, g api.Graph) ([]api.Side, api.Env) {
	var l []api.Side
	for _, x := range p.Globals {
		v := api.Value{}
		for i := range max(x.Size, 1) {
			w, _ := r.Global(api.Cell{Name: x.Name, At: i})
			v = value.Join(v, of(w))
		}
		l = append(l, known(x.Name, v))
	}
	e := api.Env{Live: true}
	for _, v := range g.Vars {
		w, _ := r.Local(v.Name)
		e.Binds = append(e.Binds, bind(v.Name, of(w)))
	}
	return l, env.Clean(e)
}

// P25.2: the effect of each step that is not a call is contained in what Pass returns.
func TestSteps(t *testing.T) {
	many := 0
	for seed := range 300 {
		p := sample.Program(seed, sample.Full())
		graphs := map[string]api.Graph{}
		for _, f := range p.Funcs {
			graphs[f.Name] = flow.Graph(f)
		}
		r, _ := run.New(p, []int{seed, -3, 7})
		for range 200 {
			name, node := r.Where()
			before, e := state(r, p, graphs[name])
			deep := r.Deep()
			if r.Step() != api.OK || r.Deep() == 0 {
				break
			}
			_, to := r.Where()
			if r.Deep() != deep {
				continue
			}
			for _, x := range graphs[name].Edges {
				if x.From == node && x.To == to {
					checkStep(t, r, p, graphs[name], before, Pass(look.Room{P: p, Env: e, Known: before}, x))
					many++
				}
			}
		}
	}
	if many < 3000 {
		t.Error("few steps", many)
	}
}

func checkStep(t *testing.T, r *run.Run, p api.Program, g api.Graph, before []api.Side, out Out) {
	t.Helper()
	after, e := state(r, p, g)
	if w, ok := r.Local(""); ok {
		e = live(bind("", of(w)))
	}
	if !env.Leq(e, out.Env) {
		t.Fatal("variables", e, out)
	}
	for i, s := range after {
		v := before[i].State.Val
		for _, add := range out.Sides {
			if add.Key == s.Key {
				v = value.Join(v, add.State.Val)
			}
		}
		if !value.Leq(s.State.Val, v) {
			t.Fatal("globals", s, out)
		}
	}
}
