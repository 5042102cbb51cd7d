package check_test

import (
	"strconv"
	"strings"
	"testing"

	"sondage/api"
	. "sondage/check"
	"sondage/grammar"
	"sondage/parse"
)

func function(text string) api.Func {
	f, at, err := grammar.FuncText([]byte(text))
	if err != api.OK {
		panic(text[at:])
	}
	return f
}

// world has globals of all kinds, and functions to call.
func world() api.Program {
	return api.Program{
		Globals: []api.Global{{Name: "g"}, {Name: "gp", Ptr: true}, {Name: "ga", Size: 3}, {Name: "odd", Ptr: true, Size: 4}, {Name: "g", Size: 9}, {Name: "one1", Size: 1}},
		Funcs:   []api.Func{function("int one(int a) { }"), function("int two(int *p, int a) { }"), function("int none() { }"), function("int one(int *p) { }")},
	}
}

const frame = "int f(int x, int *p) { int i; int *q; "

// P15.1: the position is that of #.
func TestType(t *testing.T) {
	for _, x := range []struct {
		text string
		kind int
		err  api.Errno
	}{
		{"1", Int, 0}, {"null", Ptr, 0}, {"x", Int, 0}, {"p", Ptr, 0}, {"i", Int, 0}, {"q", Ptr, 0}, {"g", Int, 0}, {"gp", Ptr, 0}, {"odd", Ptr, 0}, {"#ga", 0, api.ErrType}, {"#zz", 0, api.ErrNone}, {"#one", 0, api.ErrNone},
		{"ga[x]", Int, 0}, {"one1[x]", Int, 0}, {"#one1", 0, api.ErrType}, {"#g[x]", 0, api.ErrType}, {"#x[1]", 0, api.ErrType}, {"#p[1]", 0, api.ErrType}, {"#odd[1]", 0, api.ErrType}, {"#zz[1]", 0, api.ErrNone}, {"ga[#p]", 0, api.ErrType}, {"zz[#p]", 0, api.ErrType}, {"zz[#ga]", 0, api.ErrType},
		{"*p", Int, 0}, {"*gp", Int, 0}, {"*odd", Int, 0}, {"#*x", 0, api.ErrType}, {"#*g", 0, api.ErrType}, {"#*ga", 0, api.ErrType}, {"#*zz", 0, api.ErrNone},
		{"&g", Ptr, 0}, {"#&x", 0, api.ErrType}, {"#&p", 0, api.ErrType}, {"#&gp", 0, api.ErrType}, {"#&ga", 0, api.ErrType}, {"#&odd", 0, api.ErrType}, {"#&zz", 0, api.ErrNone},
		{"&ga[x]", Ptr, 0}, {"#&g[0]", 0, api.ErrType}, {"#&x[0]", 0, api.ErrType}, {"#&zz[0]", 0, api.ErrNone}, {"&ga[#null]", 0, api.ErrType},
		{"-x", Int, 0}, {"-#p", 0, api.ErrType}, {"!x", Int, 0}, {"!#null", 0, api.ErrType}, {"--#p", 0, api.ErrType},
		{"x + 1", Int, 0}, {"x + #null", 0, api.ErrType}, {"#p + x", 0, api.ErrType}, {"#p * q", 0, api.ErrType}, {"#p < q", 0, api.ErrType}, {"x <= #q", 0, api.ErrType}, {"#p && 1", 0, api.ErrType}, {"1 || #p", 0, api.ErrType}, {"x / 1 % 2 - 3", Int, 0},
		{"p == null", Int, 0}, {"p != q", Int, 0}, {"x == 1", Int, 0}, {"x == #p", 0, api.ErrType}, {"p != #x", 0, api.ErrType}, {"p == #-1", 0, api.ErrType}, {"(p == q) + 1", Int, 0}, {"p == #(q == p)", 0, api.ErrType},
		{"#zz + yy", 0, api.ErrNone}, {"x + #zz + p", 0, api.ErrNone}, {"(p + #zz)", 0, api.ErrNone}, {"(-p == #zz)", 0, api.ErrType},
	} {
		at := max(strings.Index(x.text, "#"), 0)
		if strings.Contains(x.text, "#(q == p)") {
			at = strings.Index(x.text, "p)") - 4
		}
		if x.text == "(-p == #zz)" {
			at = 2
		}
		e, _, err := parse.Text([]byte(strings.Replace(x.text, "#", "", 1)))
		if err != api.OK {
			t.Fatal(x.text)
		}
		if kind, got, err := Type(world(), function(frame+"}"), e); kind != x.kind || got != at || err != x.err {
			t.Error(x.text, kind, got, err, at)
		}
	}
}

// P15.1
func TestStrangeExpressions(t *testing.T) {
	num := api.Expr{Op: api.ExpNum, At: 5}
	two := []api.Expr{num, num}
	for _, e := range []api.Expr{
		{}, {Op: -1}, {Op: 21}, {Op: 21, Kids: two}, {Op: -1, Kids: two}, {Op: 99, Kids: two}, {Op: api.ExpNum, Kids: two[:1]}, {Op: api.ExpVar, Name: "zz", Kids: two}, {Op: api.ExpIndex, Name: "ga"}, {Op: api.ExpIndex, Name: "ga", Kids: two}, {Op: api.ExpLoad, Name: "p", Kids: two[:1]}, {Op: api.ExpNeg}, {Op: api.ExpNot, Kids: two},
		{Op: api.ExpAdd, Kids: two[:1]}, {Op: api.ExpOr, Kids: append(two, num)}, {Op: api.ExpNull, Kids: two[:1]}, {Op: api.ExpAddr, Name: "g", Kids: two}, {Op: api.ExpAddrAt, Name: "ga"}, {Op: api.ExpEq}, {Op: api.ExpMul, Kids: []api.Expr{{Op: 99, At: 1}}},
	} {
		e.At = 42
		if kind, at, err := Type(world(), api.Func{}, e); kind != 0 || at != 42 || err != api.ErrArg {
			t.Error(e, kind, at, err)
		}
	}
	inner := api.Expr{Op: api.ExpAdd, At: 3, Kids: []api.Expr{num, {Op: 99, At: 8}}}
	if _, at, err := Type(world(), api.Func{}, inner); at != 8 || err != api.ErrArg {
		t.Error(at, err)
	}
}

// P15.2: the position is that of #, and that of the function without it.
func TestFunc(t *testing.T) {
	for _, x := range []struct {
		text string
		err  api.Errno
	}{
		{frame + "x = 1; p = null; g = x; gp = &g; q = gp; ga[1] = 2; *p = 3; x = one(1); g = two(p, 2); none(); x = input(); g = input(); if (x) { while (1) { } } else { assert(0); } return 1; }", 0},
		{"int f(int x) { int x; }", api.ErrTwice}, {"int f(int x, int *x) { }", api.ErrTwice}, {"int f() { int x; int *x; }", api.ErrTwice}, {"int f(int g) { }", api.ErrTwice}, {"int f() { int ga; zz = 1; }", api.ErrTwice}, {"int f(int one) { }", 0},
		{frame + "#zz = 1; }", api.ErrNone}, {frame + "#ga = 1; }", api.ErrType}, {frame + "#x = null; }", api.ErrType}, {frame + "#p = 1; }", api.ErrType}, {frame + "#odd = 1; }", api.ErrType}, {frame + "odd = p; }", 0}, {frame + "zz = #yy; }", api.ErrNone}, {frame + "#zz = null; }", api.ErrNone},
		{frame + "#zz[1] = 1; }", api.ErrNone}, {frame + "#x[1] = 1; }", api.ErrType}, {frame + "#odd[1] = 1; }", api.ErrType}, {frame + "ga[#p] = q; }", api.ErrType}, {frame + "ga[1] = #q; }", api.ErrType}, {frame + "zz[#p] = 1; }", api.ErrType}, {frame + "ga[p] = #yy; }", api.ErrNone},
		{frame + "#*zz = 1; }", api.ErrNone}, {frame + "#*x = 1; }", api.ErrType}, {frame + "#*ga = 1; }", api.ErrType}, {frame + "*p = #q; }", api.ErrType}, {frame + "*x = #q; }", api.ErrType},
		{frame + "#zz = input(); }", api.ErrNone}, {frame + "#p = input(); }", api.ErrType}, {frame + "#ga = input(); }", api.ErrType},
		{frame + "if (#p) { } }", api.ErrType}, {frame + "while (#null) { } }", api.ErrType}, {frame + "return #p; }", api.ErrType}, {frame + "assert(#p); }", api.ErrType}, {frame + "assert(p == null); }", 0},
		{frame + "#zz(1); }", api.ErrNone}, {frame + "#g(1); }", api.ErrNone}, {frame + "#one(); }", api.ErrArg}, {frame + "#one(1, 2); }", api.ErrArg}, {frame + "one(#p); }", api.ErrType}, {frame + "two(#1, p); }", api.ErrType}, {frame + "two(p, #p); }", api.ErrType}, {frame + "zz = two(p, #p); }", api.ErrType}, {frame + "yy(#zz); }", api.ErrNone}, {frame + "#one(p, p); }", api.ErrArg},
		{frame + "#zz = one(1); }", api.ErrNone}, {frame + "#p = one(1); }", api.ErrType}, {frame + "#ga = one(1); }", api.ErrType}, {frame + "x = f(1, p); }", api.ErrNone},
		{frame + "if (x) { x = #zz; } else { x = yy; } }", api.ErrNone}, {frame + "if (x) { x = 1; } else { x = #yy; } zz = 1; }", api.ErrNone}, {frame + "if (#p) { zz = 1; } }", api.ErrType}, {frame + "while (x) { while (1) { #p = 1; } } x = zz; }", api.ErrType},
	} {
		at := max(strings.Index(x.text, "#"), 0)
		if strings.Contains(x.text, "x = f(1") {
			at = strings.Index(x.text, "x = f")
		}
		f := function(strings.Replace(x.text, "#", "", 1))
		if got, err := Func(world(), f); got != at || err != x.err {
			t.Error(x.text, got, err, at)
		}
	}
	f := function("int f(int x) { int x; }")
	f.At = 17
	if at, err := Func(api.Program{}, f); at != 17 || err != api.ErrTwice {
		t.Error(at, err)
	}
}

// P15.2
func TestStrangeStatements(t *testing.T) {
	one := api.Expr{Op: api.ExpNum, At: 5}
	wrong := api.Expr{Op: 77, At: 6}
	for _, s := range []api.Stmt{
		{}, {Op: -1}, {Op: 10}, {Op: api.StAssign, Name: "zz"}, {Op: api.StAssign, Name: "g", Exps: []api.Expr{one, wrong}}, {Op: api.StPut, Name: "ga", Exps: []api.Expr{wrong}}, {Op: api.StStore, Name: "gp"}, {Op: api.StInput, Name: "g", Exps: []api.Expr{one}}, {Op: api.StIf}, {Op: api.StWhile, Exps: []api.Expr{one, one}}, {Op: api.StReturn}, {Op: api.StAssert},
	} {
		s.At = 42
		if at, err := Func(world(), api.Func{Body: []api.Stmt{s}}); at != 42 || err != api.ErrArg {
			t.Error(s, at, err)
		}
	}
	// The blocks of every statement are checked, behind the statement itself.
	bad := []api.Stmt{{Op: 99, At: 8}}
	for _, s := range []api.Stmt{{Op: api.StReturn, Exps: []api.Expr{one}, Kids: bad}, {Op: api.StInput, Name: "g", Else: bad}, {Op: api.StIf, Exps: []api.Expr{one}, Else: bad}} {
		if at, err := Func(world(), api.Func{Body: []api.Stmt{s}}); at != 8 || err != api.ErrArg {
			t.Error(s, at, err)
		}
	}
}

// P15.3
func TestProgram(t *testing.T) {
	many := func(globals, funcs int) api.Program {
		var p api.Program
		for i := range globals {
			p.Globals = append(p.Globals, api.Global{Name: "g" + strconv.Itoa(i), At: 3})
		}
		for i := range funcs {
			p.Funcs = append(p.Funcs, api.Func{Name: "f" + strconv.Itoa(i), At: 4})
		}
		return p
	}
	bad := function("int bad() { x = 1; }")
	globals := []api.Global{{Name: "a", At: 1}, {Name: "b", At: 2}}
	for _, x := range []struct {
		p     api.Program
		i, at int
		err   api.Errno
	}{
		{api.Program{}, 0, 0, api.OK}, {many(24, 24), 0, 0, api.OK}, {many(25, 0), 0, 0, api.ErrMany}, {many(0, 25), 0, 0, api.ErrMany},
		{api.Program{Globals: append(many(25, 0).Globals, globals[0], globals[0])}, 0, 0, api.ErrMany},
		{api.Program{Globals: append(globals, globals[0])}, 2, 0, api.ErrTwice},
		{api.Program{Globals: globals, Funcs: []api.Func{bad, {Name: "b", At: 9}}}, 3, 0, api.ErrTwice},
		{api.Program{Globals: globals, Funcs: []api.Func{bad, {Name: "f", At: 9}, {Name: "f", At: 9}}}, 4, 0, api.ErrTwice},
		{api.Program{Globals: globals, Funcs: []api.Func{{Name: "f"}, bad, bad}}, 4, 0, api.ErrTwice},
		{api.Program{Globals: globals, Funcs: []api.Func{{Name: "f"}, bad}}, 3, 12, api.ErrNone},
		{api.Program{Funcs: []api.Func{bad}}, 0, 12, api.ErrNone},
		{api.Program{Globals: globals, Funcs: []api.Func{function("int f() { a = h(1); }"), function("int h(int x) { x = f(); }")}}, 0, 0, api.OK},
	} {
		if i, at, err := Program(x.p); i != x.i || at != x.at || err != x.err {
			t.Error(x, i, at, err)
		}
	}
}
