package print_test

import (
	"strings"
	"testing"

	"sondage/api"
	"sondage/grammar"
	"sondage/parse"
	. "sondage/print"
	"sondage/tree"
)

func num(n int) api.Expr      { return api.Expr{Op: api.ExpNum, N: n} }
func ident(s string) api.Expr { return api.Expr{Op: api.ExpVar, Name: s} }
func op(k int, kids ...api.Expr) api.Expr {
	return api.Expr{Op: k, Kids: kids}
}

// P14.1: the text of what is parsed from the first text is the second one, or the same one.
func TestExpr(t *testing.T) {
	for _, x := range [][2]string{
		{"a - (b - c)"}, {"a - b - c"}, {"(a-b)-c", "a - b - c"}, {"(a + b) * c"}, {"a * b + c"}, {"(a*b)+c", "a * b + c"}, {"a * (b * c)"}, {"a / (b % c)"}, {"a % b / c"}, {"a + (b - c)"},
		{"-a"}, {"--a"}, {"!-a"}, {"-(a + b)"}, {"!(a || b)"}, {"-(a * b)"}, {"-a * b"}, {"(-a)*(!b)", "-a * !b"}, {"a - -b"}, {"a * (b || c)"},
		{"a || b && c"}, {"(a || b) && c"}, {"a && (b || c)"}, {"(a == b) == c", "a == b == c"}, {"a == (b != c)"}, {"a < b == c"}, {"a < (b == c)"}, {"(a < b) <= c", "a < b <= c"}, {"a < (b <= c)"}, {"a || (b || c)"}, {"a && (b && c)"}, {"a + b < c"}, {"(a < b) + c"},
		{"*p"}, {"*p * *q"}, {"&g"}, {"&a[i + 1]"}, {"a[(i)]", "a[i]"}, {"a[b[1]] + 2"}, {"null"}, {"p == null"}, {"9223372036854775807"},
	} {
		want := x[1]
		if want == "" {
			want = x[0]
		}
		e, _, err := parse.Text([]byte(x[0]))
		if got := Expr(e); err != api.OK || got != want {
			t.Errorf("%q: %q, not %q", x[0], got, want)
		}
		if again, _, _ := parse.Text([]byte(want)); !tree.Same(again, e) {
			t.Errorf("%q is another expression", want)
		}
	}
	for _, x := range []struct {
		e    api.Expr
		want string
	}{
		{num(-5), "-5"}, {num(-1 << 63), "-9223372036854775808"}, {op(api.ExpNeg, num(-5)), "--5"}, {op(api.ExpSub, num(1), num(-5)), "1 - -5"},
		{api.Expr{}, "?"}, {op(21, num(1), num(2)), "?"}, {op(-1), "?"}, {op(api.ExpAdd), "?"}, {op(api.ExpAdd, num(1)), "?"}, {op(api.ExpNeg), "?"}, {op(api.ExpNot), "?"}, {op(api.ExpIndex), "?"}, {op(api.ExpAddrAt), "?"},
		{op(api.ExpAdd, num(1), num(2), num(3)), "1 + 2"}, {op(api.ExpNeg, num(1), num(2)), "-1"}, {op(api.ExpMul, op(99), op(api.ExpOr, op(0), num(2))), "? * (? || 2)"}, {api.Expr{Op: api.ExpVar, Name: "x", Kids: []api.Expr{num(1)}}, "x"},
	} {
		if got := Expr(x.e); got != x.want {
			t.Errorf("%v: %q, not %q", x.e, got, x.want)
		}
	}
}

// Parentheses stand where the text would be another expression without them, and nowhere else.
func TestParentheses(t *testing.T) {
	a, b, c := ident("a"), ident("b"), ident("c")
	for k := api.ExpMul; k <= api.ExpOr; k++ {
		for l := api.ExpMul; l <= api.ExpOr; l++ {
			for _, e := range []api.Expr{op(k, op(l, a, b), c), op(k, a, op(l, b, c))} {
				text := Expr(e)
				again, _, err := parse.Text([]byte(text))
				if err != api.OK || !tree.Same(e, again) {
					t.Error(k, l, text, err)
				}
				bare, _, _ := parse.Text([]byte(strings.NewReplacer("(", "", ")", "").Replace(text)))
				if strings.Contains(text, "(") == tree.Same(e, bare) {
					t.Error(k, l, text)
				}
			}
		}
		for _, e := range []api.Expr{op(api.ExpNeg, op(k, a, b)), op(api.ExpNot, op(k, a, b))} {
			if text := Expr(e); !strings.HasSuffix(text, "b)") {
				t.Error(text)
			}
		}
	}
}

const text = `int f(int a, int *p) {
	int i;
	int *q;
	x = a - (1 - b);
	a[i] = 2;
	*p = -3;
	x = g(1, a + 2);
	h();
	x = input();
	if (x < 3) {
		y = 1;
		while (!x) {
			x = 1;
		}
	}
	if (x) {
		return 1;
	} else {
		if (y) {
		} else {
			assert(x == 2);
		}
	}
	while (1) {
	}
	return *p;
}
`

// P14.2, P14.3
func TestFunc(t *testing.T) {
	f, _, err := grammar.FuncText([]byte(text))
	if got := Func(f); err != api.OK || got != text {
		t.Error(got, err)
	}
	for _, x := range []string{"int f() {\n}\n", "int f(int *p) {\n\treturn *p;\n}\n"} {
		f, _, err := grammar.FuncText([]byte(x))
		again, _, err2 := grammar.FuncText([]byte(Func(f)))
		if Func(f) != x || err != api.OK || err2 != api.OK || !tree.SameFunc(f, again) {
			t.Error(Func(f), err, err2)
		}
	}
	one := []api.Expr{num(1)}
	block := []api.Stmt{{Op: api.StInput, Name: "x"}}
	for _, x := range []struct {
		s    api.Stmt
		want string
	}{
		{api.Stmt{}, "?;"}, {api.Stmt{Op: 10, Exps: one}, "?;"}, {api.Stmt{Op: -1}, "?;"},
		{api.Stmt{Op: api.StAssign, Name: "x"}, "?;"}, {api.Stmt{Op: api.StPut, Name: "x", Exps: one}, "?;"}, {api.Stmt{Op: api.StStore, Name: "x"}, "?;"}, {api.Stmt{Op: api.StIf, Kids: block}, "?;"}, {api.Stmt{Op: api.StWhile, Kids: block}, "?;"}, {api.Stmt{Op: api.StReturn}, "?;"}, {api.Stmt{Op: api.StAssert}, "?;"},
		{api.Stmt{Op: api.StAssign, Name: "x", Exps: []api.Expr{num(1), num(2)}}, "x = 1;"},
		{api.Stmt{Op: api.StCall, Func: "g", Exps: []api.Expr{ident("y")}}, "g(y);"},
		{api.Stmt{Op: api.StWhile, Exps: one, Kids: block, Else: block}, "while (1) {\n\t\tx = input();\n\t}"},
		{api.Stmt{Op: api.StIf, Exps: one, Else: block}, "if (1) {\n\t} else {\n\t\tx = input();\n\t}"},
		{api.Stmt{Op: api.StReturn, Exps: []api.Expr{{}}}, "return ?;"},
	} {
		if got := Func(api.Func{Name: "f", Body: []api.Stmt{x.s}}); got != "int f() {\n\t"+x.want+"\n}\n" {
			t.Errorf("%v: %q", x.s, got)
		}
	}
}

// P14.2, P14.3
func TestGlobal(t *testing.T) {
	for _, x := range []struct {
		g    api.Global
		want string
	}{
		{api.Global{Name: "g"}, "int g;\n"}, {api.Global{Name: "p", Ptr: true}, "int *p;\n"}, {api.Global{Name: "a", Size: 7}, "int a[7];\n"}, {api.Global{Name: "a", Size: 1}, "int a[1];\n"}, {api.Global{Name: "g", Size: -1}, "int g;\n"}, {api.Global{Name: "p", Ptr: true, Size: 3}, "int *p;\n"},
	} {
		if got := Global(x.g); got != x.want {
			t.Errorf("%v: %q", x.g, got)
		}
	}
	for _, text := range []string{"int g;\n", "int *p;\n", "int a[7];\n"} {
		if g, _, err := grammar.GlobalText([]byte(text)); err != api.OK || Global(g) != text {
			t.Error(text, g, err)
		}
	}
}
