package store_test

import (
	"slices"
	"strconv"
	"strings"
	"testing"

	"sondage/api"
	"sondage/check"
	"sondage/grammar"
	"sondage/print"
	"sondage/sample"
	. "sondage/store"
	"sondage/tree"
)

// edit does one edit: a text that begins with - drops, one with ( is a function.
func edit(s *Store, text string) (int, api.Errno) {
	if name, ok := strings.CutPrefix(text, "-"); ok {
		return 0, s.Drop(name)
	}
	if strings.Contains(text, "(") {
		return s.Func([]byte(text))
	}
	return s.Global([]byte(text))
}

// equal compares programs with their positions; nil and empty lists are the same.
func equal(p, q api.Program) bool {
	return slices.Equal(p.Globals, q.Globals) && slices.EqualFunc(p.Funcs, q.Funcs, func(f, g api.Func) bool {
		return tree.SameFunc(f, g) && f.At == g.At && slices.EqualFunc(f.Body, g.Body, func(a, b api.Stmt) bool { return a.At == b.At })
	})
}

// P36.2, P36.3: # tells the position of an error.
func TestEdits(t *testing.T) {
	s := New()
	for i, x := range []struct {
		text string
		err  api.Errno
		has  string // the names of the program
	}{
		{"int g;", 0, "g"}, {"int main() { return g; }", 0, "g main"}, {"-g", api.ErrNone, "g main"}, {"-zz", api.ErrNone, "g main"}, {"-", api.ErrNone, "g main"},
		{"int #;", api.ErrForm, "g main"}, {"int f() { return #zz; }", api.ErrNone, "g main"}, {"int f() { x = 1 #}", api.ErrForm, "g main"}, {"  #int f(int g) { }", api.ErrTwice, "g main"}, {"#int g() { }", api.ErrTwice, "g main"}, {"#int main;", api.ErrTwice, "g main"},
		{"#int *g;", api.ErrType, "g main"}, {"#int g[3];", api.ErrType, "g main"}, {"int f() { int x; x = main(); return x; }", 0, "g main f"}, {"-main", api.ErrNone, "g main f"}, {"#int main(int n) { return g; }", api.ErrArg, "g main f"}, {"int main() { int x; #f(1); return x; }", api.ErrArg, "g main f"},
		{"int main() { f(); return 2; }", 0, "g main f"}, {"int *g;", 0, "g main f"}, {"int h; #int", api.ErrForm, "g main f"}, {"int h[#0];", api.ErrRange, "g main f"}, {"int h[3];", 0, "g h main f"}, {"-g", 0, "h main f"}, {"-f", api.ErrNone, "h main f"}, {"int main() { return h[1]; }", 0, "h main f"}, {"-f", 0, "h main"}, {"-h", api.ErrNone, "h main"}, {"-main", 0, "h"}, {"-h", 0, ""},
	} {
		at := max(strings.Index(x.text, "#"), 0)
		before := s.Program()
		got, err := edit(s, strings.Replace(x.text, "#", "", 1))
		if got != at || err != x.err {
			t.Error(i, x.text, got, err, at)
		}
		p := s.Program()
		var names []string
		for _, g := range p.Globals {
			names = append(names, g.Name)
		}
		for _, f := range p.Funcs {
			names = append(names, f.Name)
		}
		if strings.Join(names, " ") != x.has {
			t.Error(i, x.text, names)
		}
		if err != api.OK && !equal(before, p) {
			t.Error(i, "an edit with an error changed something", x.text)
		}
		if _, _, err := check.Program(p); err != api.OK {
			t.Error(i, "not valid", err)
		}
	}
}

// P36.2: what is replaced keeps its place; too much is refused.
func TestOrderAndLimits(t *testing.T) {
	s := New()
	for _, text := range []string{"int a;", "int b;", "int f() { }", "int g() { }", "int a[2];", "int f() { return 1; }", "int f() { return 2; }"} {
		if at, err := edit(s, text); at != 0 || err != api.OK {
			t.Error(text, at, err)
		}
	}
	if text := s.Text(); text != "int a[2];\nint b;\nint f() {\n\treturn 2;\n}\nint g() {\n}\n" {
		t.Error(text)
	}
	for i := range api.MaxGlobs - 2 {
		s.Global([]byte("int v" + strconv.Itoa(i) + ";"))
	}
	for i := range api.MaxFuncs - 2 {
		s.Func([]byte("int w" + strconv.Itoa(i) + "() { }"))
	}
	for _, text := range []string{" int last;", " int last() { }"} {
		if at, err := edit(s, text); at != 0 || err != api.ErrMany {
			t.Error(text, at, err)
		}
	}
	if p := s.Program(); len(p.Globals) != api.MaxGlobs || len(p.Funcs) != api.MaxFuncs {
		t.Error(len(p.Globals), len(p.Funcs))
	}
}

// P36.1
func TestOf(t *testing.T) {
	bad := api.Program{Globals: []api.Global{{Name: "g"}}, Funcs: []api.Func{{Name: "f"}, {Name: "h", Body: []api.Stmt{{Op: api.StReturn, At: 7}}}}}
	if s, i, at, err := Of(bad); s != nil || i != 2 || at != 7 || err != api.ErrArg {
		t.Error(s, i, at, err)
	}
	for seed := range 50 {
		p := sample.Program(seed, sample.Full())
		s, i, at, err := Of(p)
		if s == nil || i != 0 || at != 0 || err != api.OK || !equal(s.Program(), p) {
			t.Fatal(seed, i, at, err)
		}
		again, _, _, _ := Of(s.Program())
		if again.Text() != s.Text() {
			t.Error(seed, "text")
		}
		for _, f := range p.Funcs {
			if g, _, err := grammar.FuncText([]byte(print.Func(f))); err != api.OK || !tree.SameFunc(f, g) {
				t.Error(seed, f.Name, err)
			}
		}
	}
	if s := New(); s.Text() != "" || len(s.Program().Globals)+len(s.Program().Funcs) != 0 {
		t.Error("new")
	}
}

// P36.4: the program is new memory.
func TestNewMemory(t *testing.T) {
	p := sample.Program(3, sample.Full())
	s, _, _, _ := Of(p)
	text := s.Text()
	for _, q := range []api.Program{p, s.Program()} {
		q.Globals[0].Name = "changed"
		for i := range q.Funcs {
			f := &q.Funcs[i]
			f.Locals[0].Name = "changed"
			if len(f.Params) > 0 {
				f.Params[0].Name = "changed"
			}
			spoil(f.Body)
		}
		if s.Text() != text {
			t.Fatal("shared")
		}
	}
}

func spoil(l []api.Stmt) {
	for i := range l {
		l[i].Name = "changed"
		spoil(l[i].Kids)
		spoil(l[i].Else)
		spoilExprs(l[i].Exps)
	}
}

func spoilExprs(l []api.Expr) {
	for i := range l {
		l[i].N, l[i].Name = 99, "changed"
		spoilExprs(l[i].Kids)
	}
}

// P36.4
func TestNil(t *testing.T) {
	var s *Store
	at, err := s.Func([]byte("int f() { }"))
	at2, err2 := s.Global([]byte("int g;"))
	if at != 0 || err != api.ErrNil || at2 != 0 || err2 != api.ErrNil || s.Drop("g") != api.ErrNil || s.Text() != "" || len(s.Program().Globals)+len(s.Program().Funcs) != 0 {
		t.Error("nil")
	}
}
