package eval_test

import (
	"slices"
	"testing"

	"sondage/api"
	. "sondage/eval"
	"sondage/mem"
	"sondage/parse"
)

func num(n int) api.Word                     { return api.Word{N: n} }
func ptr(name string, i int) api.Word        { return api.Word{Ptr: true, To: api.Cell{Name: name, At: i}} }
func graph(many int, l ...api.Var) api.Graph { return api.Graph{Vars: l, Many: many} }

// P20.1
func TestFrame(t *testing.T) {
	a, p, i, q := api.Var{Name: "a"}, api.Var{Name: "p", Ptr: true}, api.Var{Name: "i"}, api.Var{Name: "q", Ptr: true}
	null := api.Word{Ptr: true}
	for _, x := range []struct {
		g    api.Graph
		l    []api.Word
		want []api.Word
	}{
		{graph(2, a, p, i, q), []api.Word{num(3), ptr("g", 0)}, []api.Word{num(3), ptr("g", 0), num(0), null}},
		{graph(2, a, p, i, q), []api.Word{num(3), ptr("g", 0), num(9)}, []api.Word{num(3), ptr("g", 0), num(0), null}},
		{graph(2, a, p, i, q), []api.Word{num(3)}, []api.Word{num(3), null, num(0), null}},
		{graph(2, a, p, i, q), nil, []api.Word{num(0), null, num(0), null}},
		{graph(-1, a), []api.Word{num(3)}, []api.Word{num(0)}}, {graph(5, a), []api.Word{num(3), num(4)}, []api.Word{num(3)}}, {graph(0), nil, nil},
	} {
		if got := New(x.g, x.l).All(); !slices.Equal(got, x.want) {
			t.Error(x, got)
		}
	}
	f := New(graph(2, a, p, i, q, p, api.Var{Name: "i", Ptr: true}), []api.Word{num(3), ptr("g", 0)})
	for _, x := range []struct {
		name string
		w    api.Word
		ok   bool
	}{{"a", num(7), true}, {"a", null, false}, {"p", null, true}, {"p", num(0), false}, {"i", null, false}, {"i", num(4), true}, {"q", ptr("g", 1), true}, {"zz", num(1), false}, {"", num(1), false}} {
		before, has := f.Get(x.name)
		if ok := f.Set(x.name, x.w); ok != x.ok {
			t.Error(x, ok)
		}
		want := before
		if x.ok {
			want = x.w
		}
		if w, ok := f.Get(x.name); w != want || ok != has || has != (x.name != "zz" && x.name != "") {
			t.Error(x, w, ok)
		}
	}
	want := []api.Word{num(7), null, num(4), ptr("g", 1), null, null}
	l := f.All()
	if !slices.Equal(l, want) {
		t.Error(l)
	}
	l[0] = num(99)
	if w, _ := f.Get("a"); w.N != 7 {
		t.Error("a frame's words were handed out")
	}
	var none *Frame
	if w, ok := none.Get("a"); w != (api.Word{}) || ok || none.Set("a", num(1)) || len(none.All()) != 0 {
		t.Error("nil")
	}
}

func world() (*mem.Mem, *Frame) {
	m := mem.New(api.Program{Globals: []api.Global{{Name: "g"}, {Name: "gp", Ptr: true}, {Name: "a", Size: 3}, {Name: "x", Size: 2}}})
	m.Set(api.Cell{Name: "g"}, num(6))
	m.Set(api.Cell{Name: "a", At: 1}, num(7))
	m.Set(api.Cell{Name: "gp"}, ptr("a", 1))
	f := New(graph(0, api.Var{Name: "x"}, api.Var{Name: "p", Ptr: true}, api.Var{Name: "n", Ptr: true}), nil)
	f.Set("x", num(5))
	f.Set("p", ptr("g", 0))
	return m, f
}

// P20.2, P20.3
func TestExpr(t *testing.T) {
	m, f := world()
	cells, vars := m.All(), f.All()
	for _, x := range []struct {
		text string
		w    api.Word
		err  api.Errno
	}{
		{"a[1] + x", num(12), 0}, {"x", num(5), 0}, {"g", num(6), 0}, {"gp", ptr("a", 1), 0}, {"a", num(0), 0}, {"zz", num(0), api.ErrNone}, {"p", ptr("g", 0), 0},
		{"a[x - 3]", num(0), 0}, {"a[x]", num(0), api.ErrIndex}, {"a[-1]", num(0), api.ErrIndex}, {"zz[9]", num(0), api.ErrNone}, {"x[1]", num(0), 0}, {"g[0]", num(6), 0}, {"g[1]", num(0), api.ErrIndex}, {"a[p]", num(0), api.ErrType}, {"zz[p]", num(0), api.ErrType}, {"a[zz]", num(0), api.ErrNone},
		{"*p", num(6), 0}, {"*gp", num(7), 0}, {"*n", num(0), api.ErrNull}, {"*x", num(0), api.ErrType}, {"*zz", num(0), api.ErrNone}, {"*g", num(0), api.ErrType},
		{"null", api.Word{Ptr: true}, 0}, {"&g", ptr("g", 0), 0}, {"&a", ptr("a", 0), 0}, {"&zz", num(0), api.ErrNone}, {"&p", num(0), api.ErrNone}, {"&a[2]", ptr("a", 2), 0}, {"&a[3]", num(0), api.ErrIndex}, {"&zz[3]", num(0), api.ErrNone}, {"&a[null]", num(0), api.ErrType}, {"&a[1/0]", num(0), api.ErrZero},
		{"-x", num(-5), 0}, {"!x", num(0), 0}, {"!0", num(1), 0}, {"-p", num(0), api.ErrType}, {"!null", num(0), api.ErrType},
		{"x / 0", num(0), api.ErrZero}, {"x % 0", num(0), api.ErrZero}, {"9223372036854775807 + 1", num(-1 << 63), 0}, {"x * x - 1", num(24), 0}, {"x < 6", num(1), 0}, {"x <= 4", num(0), 0}, {"x == 5", num(1), 0}, {"x != 5", num(0), 0}, {"x && 0", num(0), 0}, {"x || 0", num(1), 0}, {"0 && 1 / 0", num(0), api.ErrZero},
		{"p == &g", num(1), 0}, {"p != &g", num(0), 0}, {"p == null", num(0), 0}, {"n == null", num(1), 0}, {"gp == &a[1]", num(1), 0}, {"gp == &a[2]", num(0), 0}, {"gp != &a[2]", num(1), 0}, {"p == x", num(0), api.ErrType}, {"x != p", num(0), api.ErrType}, {"p < p", num(0), api.ErrType}, {"p + 1", num(0), api.ErrType}, {"1 || p", num(0), api.ErrType}, {"p && 1", num(0), api.ErrType},
		{"zz + a[9]", num(0), api.ErrNone}, {"a[9] + zz", num(0), api.ErrIndex}, {"p + zz", num(0), api.ErrNone},
	} {
		e, _, err := parse.Text([]byte(x.text))
		if err != api.OK {
			t.Fatal(x.text)
		}
		if w, err := Expr(m, f, e); w != x.w || err != x.err {
			t.Error(x.text, w, err)
		}
	}
	if !slices.Equal(cells, m.All()) || !slices.Equal(vars, f.All()) {
		t.Error("something has changed")
	}
}

func TestStrangeExpressions(t *testing.T) {
	m, f := world()
	one := api.Expr{Op: api.ExpNum, N: 1}
	for _, e := range []api.Expr{
		{}, {Op: -1}, {Op: 21}, {Op: 21, Kids: []api.Expr{{Op: api.ExpVar, Name: "zz"}, one}}, {Op: -1, Kids: []api.Expr{{Op: api.ExpVar, Name: "zz"}, one}}, {Op: 0, Kids: []api.Expr{{Op: api.ExpNull}, one}}, {Op: api.ExpNum, Kids: []api.Expr{one}}, {Op: api.ExpVar, Name: "zz", Kids: []api.Expr{one}}, {Op: api.ExpIndex, Name: "zz"}, {Op: api.ExpIndex, Name: "a", Kids: []api.Expr{one, one}}, {Op: api.ExpNeg}, {Op: api.ExpAdd, Kids: []api.Expr{one}}, {Op: api.ExpEq, Kids: []api.Expr{one, one, one}}, {Op: api.ExpAddrAt, Name: "a"}, {Op: api.ExpNot, Kids: []api.Expr{{Op: 99}}},
	} {
		if w, err := Expr(m, f, e); w != (api.Word{}) || err != api.ErrArg {
			t.Error(e, w, err)
		}
	}
	if w, err := Expr(nil, nil, api.Expr{Op: api.ExpVar, Name: "x"}); w != (api.Word{}) || err != api.ErrNil {
		t.Error(w, err)
	}
	if w, err := Expr(nil, f, api.Expr{Op: api.ExpVar, Name: "x"}); w.N != 5 || err != api.OK {
		t.Error(w, err)
	}
	if _, err := Expr(nil, f, api.Expr{Op: api.ExpLoad, Name: "n"}); err != api.ErrNull {
		t.Error(err)
	}
	// A pointer whose place is gone from memory.
	f.Set("p", ptr("a", 7))
	if _, err := Expr(m, f, api.Expr{Op: api.ExpLoad, Name: "p"}); err != api.ErrIndex {
		t.Error(err)
	}
}
