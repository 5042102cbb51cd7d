package change_test

import (
	"slices"
	"strings"
	"testing"

	"sondage/api"
	. "sondage/change"
	"sondage/sample"
)

var program = sample.Lines

func row(l []string) string { return strings.Join(l, " ") }

var base = []string{"int a;", "int *b;", "int c[4];", "int f() { a = 1; g(); }", "int g() { b = null; x = h(); }", "int h() { return c[2]; }", "int m() { x = f(); g(); }"}

// with replaces line i of the base.
func with(i int, line string) api.Program {
	l := slices.Clone(base)
	l[i] = line
	return program(l...)
}

// P18.1, P18.2, P18.4
func TestDiff(t *testing.T) {
	p := program(base...)
	for _, x := range []struct {
		q                       api.Program
		funcs, globals, touched string
	}{
		{p, "", "", ""},
		{program("int *b;", "int c[4];", "int m() { x = f(); g(); }", "int h() { return c[2]; }", "int a;", "int g() { b = null; x = h(); }", "int   f() { a = 1; g(); }"), "", "", ""},
		{with(3, "int f() { a = 2; g(); }"), "f", "", "f"},
		{with(3, "int f(int y) { a = 1; g(); }"), "f", "", "f"},
		{with(0, "int *a;"), "", "a", "f"},
		{with(0, "int a[1];"), "", "a", "f"},
		{with(2, "int c[5];"), "", "c", "h"},
		{with(1, "int bb;"), "", "b bb", "g"},
		{with(3, "int ff() { c[1] = 2; }"), "f ff", "", "f ff"},
		{program(base[:6]...), "m", "", "m"},
		{program(base[3:]...), "", "a b c", "f g h"},
		{api.Program{}, "f g h m", "a b c", "f g h m"},
		{program("int a;", "int *b;", "int c[4];", "int f() { a = 1; g(); }", "int g() { b = null; x = h(); }", "int h() { return d; }", "int m() { x = f(); g(); }", "int d;"), "h", "d", "h"},
		{with(6, "int m() { x = f(); g(); if (1) { y = &zz; } }"), "m", "", "m"},
	} {
		for range 2 {
			d := Of(p, x.q)
			if row(d.Funcs) != x.funcs || row(d.Globals) != x.globals || row(Touched(p, x.q)) != x.touched {
				t.Error(x.q, d, Touched(p, x.q))
			}
			p, x.q = x.q, p
		}
		p = program(base...)
	}
	nameless := api.Program{Funcs: []api.Func{{}}, Globals: []api.Global{{}}}
	if d := Of(nameless, api.Program{}); len(d.Funcs) != 1 || len(d.Globals) != 1 {
		t.Error("what has no name exists too", d)
	}
	twin := api.Program{Funcs: []api.Func{{Name: "f"}, {Name: "f", Locals: []api.Var{{Name: "x"}}}}, Globals: []api.Global{{Name: "a"}, {Name: "a", Size: 3}}}
	single := api.Program{Funcs: twin.Funcs[:1], Globals: twin.Globals[:1]}
	if d := Of(twin, single); len(d.Funcs)+len(d.Globals) != 0 {
		t.Error("the first one counts", d)
	}
	single = api.Program{Funcs: twin.Funcs[1:], Globals: twin.Globals[1:]}
	if d := Of(single, twin); row(d.Funcs) != "f" || row(d.Globals) != "a" {
		t.Error("the first one counts", d)
	}
}

// A global that is only mentioned within an expression or a block counts too, and an address.
func TestTouchedByMention(t *testing.T) {
	old := []string{"int f() { while (1) { x = 2 + -a; } }", "int g() { x = &a; }", "int h() { a = input(); }", "int i() { ab = 1; }", "int j() { *a = 1; }"}
	p := program(append(old, "int a;")...)
	q := program(append(old, "int *a;")...)
	if got := row(Touched(p, q)); got != "f g h j" {
		t.Error(got)
	}
}

// P18.3
func TestCalls(t *testing.T) {
	p := program(append(base, "int r() { if (r) { x = r(); } else { nowhere(); } }")...)
	for _, x := range []struct{ name, callers, reach string }{
		{"f", "m", "f g h"}, {"g", "f m", "g h"}, {"h", "g", "h"}, {"m", "", "f g h m"}, {"r", "r", "r"}, {"nowhere", "r", ""}, {"a", "", ""}, {"", "", ""},
	} {
		if c, r := row(Callers(p, x.name)), row(Reach(p, x.name)); c != x.callers || r != x.reach {
			t.Error(x, c, "/", r)
		}
	}
	cycle := program("int a() { b(); }", "int b() { c(); }", "int c() { a(); d(); }", "int d() { }")
	if row(Reach(cycle, "b")) != "a b c d" || row(Reach(cycle, "d")) != "d" {
		t.Error("cycle")
	}
}
