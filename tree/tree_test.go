package tree_test

import (
	"reflect"
	"slices"
	"testing"

	"sondage/api"
	. "sondage/tree"
)

func num(n int) api.Expr         { return api.Expr{Op: api.ExpNum, N: n, At: n + 1} }
func variable(s string) api.Expr { return api.Expr{Op: api.ExpVar, Name: s, At: 7} }
func op(k int, kids ...api.Expr) api.Expr {
	return api.Expr{Op: k, Kids: kids, At: 9}
}

// sum is 1 + x * 2.
func sum() api.Expr { return op(api.ExpAdd, num(1), op(api.ExpMul, variable("x"), num(2))) }

// body is: x = 1 + x * 2; if (y) { f(z[3]); } else { while (-5) { g = h(4); q = 1; } }
func body() []api.Stmt {
	index := api.Expr{Op: api.ExpIndex, Name: "z", Kids: []api.Expr{num(3)}, At: 3}
	loop := api.Stmt{Op: api.StWhile, Exps: []api.Expr{op(api.ExpNeg, num(5))}, At: 4, Kids: []api.Stmt{
		{Op: api.StCall, Name: "g", Func: "h", Exps: []api.Expr{num(4)}, At: 6},
		{Op: api.StAssign, Name: "q", Exps: []api.Expr{num(1)}, At: 7},
	}}
	return []api.Stmt{
		{Op: api.StAssign, Name: "x", Exps: []api.Expr{sum()}, At: 1},
		{Op: api.StIf, Exps: []api.Expr{variable("y")}, Kids: []api.Stmt{{Op: api.StCall, Func: "f", Exps: []api.Expr{index}, At: 5}}, Else: []api.Stmt{loop}, At: 2},
	}
}

// P11.1
func TestSizes(t *testing.T) {
	if e := sum(); Size(e) != 5 || Deep(e) != 3 || Size(num(1)) != 1 || Deep(num(1)) != 1 {
		t.Error(Size(e), Deep(e))
	}
	if n := Sizes(body()); n != 6+5+1+2+2+1+1 {
		t.Error("sizes", n)
	}
	if Sizes(nil) != 0 || Deeps(nil) != 0 {
		t.Error("nothing")
	}
	for _, x := range []struct {
		l    []api.Stmt
		want int
	}{
		{body(), 4}, {body()[:1], 4}, {body()[1:], 4}, {[]api.Stmt{{}}, 1}, {[]api.Stmt{{Exps: []api.Expr{num(1)}}}, 2},
		{[]api.Stmt{{Kids: []api.Stmt{{}}}}, 2}, {[]api.Stmt{{Else: []api.Stmt{{Kids: []api.Stmt{{}}}}}}, 3}, {[]api.Stmt{{}, {Exps: []api.Expr{num(1), sum()}}, {}}, 4},
	} {
		if n := Deeps(x.l); n != x.want {
			t.Error("deeps", x.l, n, x.want)
		}
	}
}

// P11.2
func TestSame(t *testing.T) {
	a := body()
	if !SameAll(a, Bare(a)) || !SameAll(nil, []api.Stmt{}) || SameAll(a, a[:1]) || SameAll(a[:1], a) {
		t.Error("same")
	}
	e := sum()
	for _, b := range []api.Expr{num(1), {Op: e.Op, N: 1, Kids: e.Kids}, {Op: e.Op, Name: "x", Kids: e.Kids}, op(api.ExpSub, e.Kids...), op(e.Op, e.Kids[0]), op(e.Op, e.Kids[1], e.Kids[0])} {
		if Same(e, b) || Same(b, e) {
			t.Error(b)
		}
	}
	if far := sum(); !Same(e, api.Expr{Op: e.Op, Kids: far.Kids, At: 99}) {
		t.Error("positions count")
	}
	for i, change := range []func(s *api.Stmt){
		func(s *api.Stmt) { s.Op++ }, func(s *api.Stmt) { s.Name = "n" }, func(s *api.Stmt) { s.Func = "n" }, func(s *api.Stmt) { s.Exps = nil }, func(s *api.Stmt) { s.Kids = nil }, func(s *api.Stmt) { s.Else = nil },
		func(s *api.Stmt) { s.Else[0].Kids[1].Name = "r" }, func(s *api.Stmt) { s.Kids[0].Exps[0].Kids[0].N = 8 },
	} {
		b := body()
		change(&b[1])
		if SameAll(a, b) || SameAll(b, a) {
			t.Error("change", i)
		}
		if SameFunc(api.Func{Body: a}, api.Func{Body: b}) {
			t.Error("change of a function", i)
		}
	}
	f := api.Func{Name: "f", Params: []api.Var{{Name: "p", Ptr: true}}, Locals: []api.Var{{Name: "i"}}, Body: a, At: 3}
	g := f
	g.At, g.Body = 8, Bare(a)
	if !SameFunc(f, g) {
		t.Error("function")
	}
	for i, change := range []func(f *api.Func){
		func(f *api.Func) { f.Name = "g" }, func(f *api.Func) { f.Params = nil }, func(f *api.Func) { f.Locals = nil }, func(f *api.Func) { f.Body = nil }, func(f *api.Func) { f.Params = []api.Var{{Name: "p"}} }, func(f *api.Func) { f.Locals = []api.Var{{Name: "j"}} },
	} {
		h := f
		change(&h)
		if SameFunc(f, h) {
			t.Error("function", i)
		}
	}
}

// P11.3
func TestCollecting(t *testing.T) {
	l := body()
	if n := Names(l); !slices.Equal(n, []string{"g", "q", "x", "y", "z"}) {
		t.Error(n)
	}
	if n := Calls(l); !slices.Equal(n, []string{"f", "h"}) {
		t.Error(n)
	}
	if n := Nums(append(l, api.Stmt{Exps: []api.Expr{num(-3), {Op: api.ExpVar, N: 77}, num(0)}})); !slices.Equal(n, []int{-3, 0, 1, 2, 3, 4, 5}) {
		t.Error(n)
	}
	if len(Names(nil)) != 0 || len(Calls([]api.Stmt{{}})) != 0 || len(Nums(nil)) != 0 {
		t.Error("nothing")
	}
}

func bareStmts(l []api.Stmt) bool {
	for _, s := range l {
		if s.At != 0 || !bareExprs(s.Exps) || !bareStmts(s.Kids) || !bareStmts(s.Else) {
			return false
		}
	}
	return true
}

func bareExprs(l []api.Expr) bool {
	for _, e := range l {
		if e.At != 0 || !bareExprs(e.Kids) {
			return false
		}
	}
	return true
}

// P11.4, P11.5
func TestBare(t *testing.T) {
	l := body()
	bare := Bare(l)
	if !bareStmts(bare) {
		t.Error("a position", bare)
	}
	if Sizes(bare) != Sizes(l) || Deeps(bare) != Deeps(l) || !SameAll(bare, l) || !SameAll(l, bare) {
		t.Error("not the same")
	}
	if !reflect.DeepEqual(l, body()) {
		t.Error("the argument has changed")
	}
	bare[0].Exps[0].Kids[1].Kids[0].Name, bare[1].Else[0].Kids[0].Exps[0].N, bare[0].Name = "w", 99, "w"
	if !reflect.DeepEqual(l, body()) {
		t.Error("not new memory")
	}
}
