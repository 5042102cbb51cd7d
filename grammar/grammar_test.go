package grammar_test

import (
	"strconv"
	"strings"
	"testing"

	"sondage/api"
	. "sondage/grammar"
	"sondage/parse"
	"sondage/token"
	"sondage/tree"
)

func expr(text string) api.Expr {
	e, _, err := parse.Text([]byte(text))
	if err != api.OK {
		panic(text)
	}
	return e
}

func exprs(texts ...string) []api.Expr {
	var l []api.Expr
	for _, text := range texts {
		l = append(l, expr(text))
	}
	return l
}

// P13.1, P13.2
func TestGlobals(t *testing.T) {
	for _, x := range []struct {
		text string
		g    api.Global
		at   int
		err  api.Errno
	}{
		{"int g;", api.Global{Name: "g"}, 0, api.OK},
		{" int *p ;", api.Global{Name: "p", Ptr: true, At: 1}, 0, api.OK},
		{"int a[1000];", api.Global{Name: "a", Size: 1000}, 0, api.OK},
		{"int a[1];", api.Global{Name: "a", Size: 1}, 0, api.OK},
		{"int a[0];", api.Global{}, 6, api.ErrRange}, {"int a[1001]", api.Global{}, 6, api.ErrRange}, {"int a[x];", api.Global{}, 6, api.ErrForm}, {"int a[-1];", api.Global{}, 6, api.ErrForm}, {"int a[1;", api.Global{}, 7, api.ErrForm},
		{"int *p[3];", api.Global{}, 6, api.ErrForm}, {"int g", api.Global{}, 5, api.ErrForm}, {"int", api.Global{}, 3, api.ErrForm}, {"int ;", api.Global{}, 4, api.ErrForm}, {"g;", api.Global{}, 0, api.ErrForm}, {"", api.Global{}, 0, api.ErrForm}, {"int int;", api.Global{}, 4, api.ErrForm}, {"int g; int", api.Global{}, 7, api.ErrForm}, {"int g = 3;", api.Global{}, 6, api.ErrForm},
		{"int a[0] #", api.Global{}, 9, api.ErrForm},
	} {
		if g, at, err := GlobalText([]byte(x.text)); g != x.g || at != x.at || err != x.err {
			t.Error(x.text, g, at, err)
		}
	}
}

// P13.1, P13.2
func TestFunction(t *testing.T) {
	text := " int f ( int a, int *p ) { int i; int *q; x = a - 1; a[i] = 2; *p = 3; x = g(1, a+2); h(); x = h(); x = input(); if (x) { y = 1; } if (x) { } else { return 7; } while (!x) { assert(x < 3); } return *p; }"
	f, at, err := FuncText([]byte(text))
	want := api.Func{Name: "f", Params: []api.Var{{Name: "a"}, {Name: "p", Ptr: true}}, Locals: []api.Var{{Name: "i"}, {Name: "q", Ptr: true}}, Body: []api.Stmt{
		{Op: api.StAssign, Name: "x", Exps: exprs("a - 1")},
		{Op: api.StPut, Name: "a", Exps: exprs("i", "2")},
		{Op: api.StStore, Name: "p", Exps: exprs("3")},
		{Op: api.StCall, Name: "x", Func: "g", Exps: exprs("1", "a+2")},
		{Op: api.StCall, Func: "h"},
		{Op: api.StCall, Name: "x", Func: "h"},
		{Op: api.StInput, Name: "x"},
		{Op: api.StIf, Exps: exprs("x"), Kids: []api.Stmt{{Op: api.StAssign, Name: "y", Exps: exprs("1")}}},
		{Op: api.StIf, Exps: exprs("x"), Else: []api.Stmt{{Op: api.StReturn, Exps: exprs("7")}}},
		{Op: api.StWhile, Exps: exprs("!x"), Kids: []api.Stmt{{Op: api.StAssert, Exps: exprs("x < 3")}}},
		{Op: api.StReturn, Exps: exprs("*p")},
	}}
	if at != 0 || err != api.OK || f.At != 1 || !tree.SameFunc(f, want) {
		t.Fatal(f, at, err)
	}
	for i, begin := range []string{"x = a", "a[i]", "*p = 3", "x = g", "h();", "x = h", "x = input", "if (x) { y", "if (x) { }", "while", "return *p"} {
		if f.Body[i].At != strings.Index(text, begin) {
			t.Error(begin, f.Body[i].At)
		}
	}
	if e := f.Body[0].Exps[0]; e.At != strings.Index(text, "- 1") {
		t.Error(e)
	}
	if f, _, err := FuncText([]byte("int f(int *p) { return *p; }")); err != api.OK || len(f.Params) != 1 || len(f.Body) != 1 {
		t.Error(f, err)
	}
}

// P13.1: the first error from left to right; the offset is where # stands.
func TestForms(t *testing.T) {
	for _, text := range []string{
		"#", "#f() { }", "int f(#a) { }", "int f() { *#= 1; }", "int f() { *#if (x) { } }", "int f() { x #3; }", "int f() { x #y = 3; }", "int f() { if (x) #else { } }", "int f() { while (x) #y = 1; }", "int #", "int #3", "int f #", "int f#;", "int f(#", "int f(#,)", "int f(int #)", "int f(int a #", "int f(int a,#) {}", "int f(int a #int b) {}", "int f() #", "int f() #;", "int f() {#", "int f() {} #int",
		"int f() { int #; }", "int f() { int x #= 3; }", "int f() { int x; x = 1; #int y; }", "int f() { int *#*x; }", "int f() { #; }", "int f() { x #; }", "int f() { x = #; }", "int f() { x = 1 #}", "int f() { x = y z; }"[:16] + " #z; }",
		"int f() { x[#] = 1; }", "int f() { x[1 #= 1; }", "int f() { x[1] #; }", "int f() { x[1] = 1 #}", "int f() { *#3 = 1; }", "int f() { *x #; }", "int f() { *x = #; }", "int f() { *x#[1] = 2; }",
		"int f() { g(#; }", "int f() { g(1 #; }", "int f() { g(1, #) ; }", "int f() { g() #}", "int f() { x = g(1#; }", "int f() { x = g() #+ 1; }", "int f() { x = 1 + g#(); }", "int f() { x = input #; }", "int f() { x = input(#1); }", "int f() { x = input() #}", "int f() { #input(); }",
		"int f() { if #x { } }", "int f() { if (#) { } }", "int f() { if (x #{ } }", "int f() { if (x) #x = 1; }", "int f() { if (x) { } else #if (x) { } }", "int f() { #else { } }", "int f() { while #{ } }", "int f() { while (x) #; }", "int f() { while (x) { } #else { } }",
		"int f() { return #; }", "int f() { return 1 #}", "int f() { assert #x; }", "int f() { assert(x) #}", "int f() { assert(x #; }", "int f() { { x = 1; } }"[:10] + "#{ x = 1; } }", "int f() { x = 1;#", "int f() { (#",
	} {
		at := strings.Index(text, "#")
		plain := strings.Replace(text, "#", "", 1)
		if strings.HasSuffix(text, "(#") && strings.Contains(text, "{ (") {
			at--
		}
		if f, got, err := FuncText([]byte(plain)); got != at || err != api.ErrForm || f.Name != "" || f.At != 0 || len(f.Params)+len(f.Locals)+len(f.Body) > 0 {
			t.Errorf("%s: %d, not %d %v", plain, got, at, err)
		}
	}
}

func vars(n int, sep string) string {
	l := make([]string, n)
	for i := range l {
		l[i] = "int v" + strconv.Itoa(i)
	}
	return strings.Join(l, sep)
}

// P13.1: the limits.
func TestLimits(t *testing.T) {
	deep := func(n int) string {
		return "int f() {" + strings.Repeat("if(x){", n-1) + strings.Repeat("}", n)
	}
	sum := "x" + strings.Repeat("+x", 19)
	size := func(n int) string { // each line has 40 statements and expressions
		return "int f() {" + strings.Repeat("x="+sum+";", n/40) + strings.Repeat("h();", n%40) + "}"
	}
	for _, x := range []struct {
		text, at string
		err      api.Errno
	}{
		{"int f(" + vars(16, ",") + ") { }", "", api.OK},
		{"int f(" + vars(17, ",") + ") { }", "v16", api.ErrMany},
		{"int f(" + vars(17, ","), "v16", api.ErrMany},
		{"int f(" + vars(16, ",") + ") { int y; }", "y", api.ErrMany},
		{"int f(" + vars(16, ",") + ") { int 7; }", "7;", api.ErrForm},
		{"int f(" + vars(10, ",") + ") {" + vars(6, ";") + "; x = 1; }", "", api.OK},
		{"int f() {" + vars(17, ";") + "; }", "v16", api.ErrMany},
		{deep(24), "", api.OK},
		{"int f() {" + strings.Repeat("if (x) { } else { } while (x) { }", 30) + "}", "", api.OK},
		{deep(25), strings.Repeat("{if(x)", 24)[1:], api.ErrDeep},
		{"int f() { x = " + strings.Repeat("-", 24) + "y; }", "-", api.ErrDeep},
		{size(800), "", api.OK},
		{size(801), "f", api.ErrMany},
		{size(801) + " int", "f", api.ErrMany},
		{size(801)[:len(size(801))-1], "end", api.ErrForm},
		{size(790) + " int", "end", api.ErrForm},
	} {
		at := 0
		if x.err != api.OK {
			at = strings.Index(x.text, x.at)
		}
		if x.err == api.ErrDeep && x.at != "-" {
			at = strings.Index(x.text, x.at) + len(x.at)
		}
		if x.at == "end" {
			at = len(strings.TrimSuffix(x.text, "int"))
		}
		if _, got, err := FuncText([]byte(x.text)); got != at || err != x.err {
			t.Errorf("%.70s: %d %d, not %d %d", x.text, got, err, at, x.err)
		}
	}
}

// P13.1
func TestAmongTokens(t *testing.T) {
	l, _, _ := token.Read([]byte("int g; int f() { return 1; } int *p;"))
	if g, i, err := Global(l, 0); g.Name != "g" || i != 3 || err != api.OK {
		t.Error(g, i, err)
	}
	if f, i, err := Func(l, 3); f.Name != "f" || i != 12 || err != api.OK || f.At != 7 {
		t.Error(f, i, err)
	}
	if g, i, err := Global(l, 12); g.Name != "p" || !g.Ptr || i != 16 || err != api.OK {
		t.Error(g, i, err)
	}
	for _, i := range []int{-1, len(l) + 1} {
		if _, at, err := Func(l, i); at != 0 || err != api.ErrArg {
			t.Error(i, at, err)
		}
		if _, at, err := Global(l, i); at != 0 || err != api.ErrArg {
			t.Error(i, at, err)
		}
	}
	for _, i := range []int{len(l) - 1, len(l)} {
		if _, at, err := Func(l, i); at != i || err != api.ErrForm {
			t.Error(i, at, err)
		}
		if _, at, err := Global(l, i); at != i || err != api.ErrForm {
			t.Error(i, at, err)
		}
	}
	bad, _, _ := token.Read([]byte("int a[1;"))
	if _, at, err := Global(bad, 0); at != 4 || err != api.ErrForm {
		t.Error(at, err)
	}
	call, _, _ := token.Read([]byte("int f() { g(); x = g(); }"))
	for i := range len(call) - 1 {
		if _, at, err := Func(call[:i], 0); at != i || err != api.ErrForm {
			t.Error(i, at, err)
		}
	}
	if _, at, err := Func(l, 0); at != 2 || err != api.ErrForm {
		t.Error(at, err)
	}
	if _, at, err := Func(l[:10], 3); at != 10 || err != api.ErrForm {
		t.Error(at, err)
	}
}

// P13.3
func TestEveryInput(t *testing.T) {
	text := "int f(int a, int *p) { int i; a[i] = -1; if (a) { g(1); } else { while (1) { *p = input; } } return 3; }"
	for i := range len(text) {
		for _, s := range []string{"", ";", "int", "{", "]", "99999999999999999999", "x"} {
			for _, b := range []string{text[:i] + s, text[:i] + s + text[i:], text[:i] + s + text[i+1:]} {
				if f, at, err := FuncText([]byte(b)); at < 0 || at > len(b) || err == api.OK && f.Name == "" {
					t.Error(b, f, at, err)
				}
				GlobalText([]byte(b))
			}
		}
	}
}
