package scratch_test

import (
	"slices"
	"strings"
	"testing"

	"sondage/api"
	"sondage/cell"
	"sondage/flow"
	"sondage/post"
	"sondage/query"
	"sondage/run"
	"sondage/sample"
	. "sondage/scratch"
	"sondage/session"
	"sondage/tree"
	"sondage/value"
)

var program = sample.Lines

// P41.1
func TestScript(t *testing.T) {
	p := program("int g;", "int *p;", "int a[3];", "int f(int n, int *q) { int x; x = h(n); return x; }", "int h(int n) { return n; }")
	want := []api.Command{
		{Kind: api.CmdGlobal, Text: "int g;\n"}, {Kind: api.CmdGlobal, Text: "int *p;\n"}, {Kind: api.CmdGlobal, Text: "int a[3];\n"},
		{Kind: api.CmdFunc, Text: "int f(int n, int *q) {\n}\n"}, {Kind: api.CmdFunc, Text: "int h(int n) {\n}\n"},
		{Kind: api.CmdFunc, Text: "int f(int n, int *q) {\n\tint x;\n\tx = h(n);\n\treturn x;\n}\n"}, {Kind: api.CmdFunc, Text: "int h(int n) {\n\treturn n;\n}\n"},
	}
	if got := Script(p); !slices.Equal(got, want) {
		t.Error(got)
	}
	if got := Script(program("int g;", "int main() { return g; }")); len(got) != 3 {
		t.Error(got)
	}
	if len(Script(api.Program{})) != 0 {
		t.Error("nothing")
	}
}

// same compares answers; nil and empty lists are the same.
func same(a, b api.Answer) bool {
	return a.Err == b.Err && a.At == b.At && a.Say == b.Say && a.Evals == b.Evals && value.Same(a.Value, b.Value)
}

// P41.2
func TestAsk(t *testing.T) {
	p := program("int main() { return 3; }")
	c := api.Command{Kind: api.CmdValue, Func: "main", Node: 1}
	want := api.Answer{Say: api.SayYes, Value: value.Num(3), Evals: 5}
	if a := Ask(p, c); a.Err != api.OK || a.Say != want.Say || a.Evals != want.Evals || !value.Same(a.Value, want.Value) {
		t.Error(a)
	}
	if a := Ask(program("int main() { return x; }"), c); !same(a, api.Answer{Err: api.ErrNone}) {
		t.Error(a)
	}
	if a := Ask(program("int main() { }", "int main() { }"), api.Command{Kind: 99}); !same(a, api.Answer{Err: api.ErrTwice}) {
		t.Error(a)
	}
	if a := Ask(p, api.Command{Kind: 99}); !same(a, api.Answer{Err: api.ErrArg}) {
		t.Error(a)
	}
	s, _ := session.Of(p)
	s.Do(c)
	if a := Fresh(s, c); a.Evals != 5 || !value.Same(a.Value, value.Num(3)) {
		t.Error(a)
	}
	s.Do(api.Command{Kind: api.CmdBudget, N: 1})
	if a := Fresh(s, c); a.Err != api.OK {
		t.Error("a fresh session has its own budget", a)
	}
	if a := Fresh(s, api.Command{Kind: api.CmdFunc, Text: "int f() { }"}); a.Err != api.OK || len(s.Program().Funcs) != 1 {
		t.Error("a fresh session has its own program", a)
	}
	if a := Fresh(nil, c); !same(a, api.Answer{Err: api.ErrNil}) {
		t.Error(a)
	}
}

func samePrograms(p, q api.Program) bool {
	if len(p.Globals) != len(q.Globals) || len(p.Funcs) != len(q.Funcs) {
		return false
	}
	for i, g := range p.Globals {
		h := q.Globals[i]
		if g.Name != h.Name || g.Ptr != h.Ptr || g.Size != h.Size {
			return false
		}
	}
	for i, f := range p.Funcs {
		if !tree.SameFunc(f, q.Funcs[i]) {
			return false
		}
	}
	return true
}

// queries returns queries of all kinds, with and without errors.
func queries(p api.Program) []api.Command {
	l := []api.Command{{Kind: api.CmdWhole, Name: "zz"}, {Kind: api.CmdReach, Func: "zz"}}
	for _, f := range p.Funcs {
		n := flow.Graph(f).Nodes
		l = append(l, api.Command{Kind: api.CmdReach, Func: f.Name, Node: n - 1}, api.Command{Kind: api.CmdReach, Func: f.Name, Node: n}, api.Command{Kind: api.CmdValue, Func: f.Name, Node: 1}, api.Command{Kind: api.CmdValue, Func: f.Name, Node: n / 2, Name: "x"}, api.Command{Kind: api.CmdAssert, Func: f.Name, Node: n / 3})
	}
	for _, g := range p.Globals {
		l = append(l, api.Command{Kind: api.CmdWhole, Name: g.Name})
	}
	return l
}

// P41.3
func TestPerformed(t *testing.T) {
	for seed := range 40 {
		p := sample.Program(seed, sample.Full())
		s := session.New()
		for _, c := range Script(p) {
			if a := s.Do(c); a.Err != api.OK {
				t.Fatal(seed, c, a)
			}
		}
		if !samePrograms(p, s.Program()) {
			t.Fatal(seed)
		}
		l := queries(p)
		c := l[seed*3%len(l)]
		a, b := s.Do(c), Ask(p, c)
		if a.Err != b.Err || a.Say != b.Say || a.Evals != b.Evals || !value.Same(a.Value, b.Value) {
			t.Error(seed, c, a, b)
		}
	}
}

// T3: the answers of an edited session and of a fresh one both hold, and have the same errors.
func TestBothHold(t *testing.T) {
	for seed := range 25 {
		s, _ := session.Of(sample.Program(seed, sample.Full()))
		for round := range 4 {
			p := s.Program()
			for i, c := range queries(p) {
				if (i+seed+round)%3 > 0 {
					continue
				}
				a, b := s.Do(c), Fresh(s, c)
				if a.Err != b.Err {
					t.Fatal(seed, round, c, a, b)
				}
				if a.Err == api.OK && (outside(p, c, a) || outside(p, c, b)) {
					t.Fatal(seed, round, c, a, b)
				}
			}
			table := s.Table()
			if domain, ok := post.Domain(p, table, query.Needs(p, table, queries(p)[2])); ok && !post.Holds(p, table, domain) {
				t.Fatal(seed, round)
			}
			lines := sample.Texts(seed*7+round+900, sample.Full())
			for _, text := range lines[4:] {
				s.Do(api.Command{Kind: api.CmdFunc, Text: text})
			}
		}
	}
}

// outside reports whether a run contradicts an answer about a node or a global.
func outside(p api.Program, c api.Command, a api.Answer) bool {
	for input := range 3 {
		r, err := run.New(p, []int{input, -input, 100, 7})
		if err != api.OK {
			return false
		}
		for range 60 {
			name, node := r.Where()
			at := name == c.Func && node == c.Node && r.Deep() > 0
			if at && c.Kind != api.CmdWhole && c.Kind != api.CmdAssert && a.Say != api.SayYes {
				return true
			}
			if w, ok := r.Local(c.Name); ok && at && c.Kind == api.CmdValue && !value.HasInt(a.Value, w.N) {
				return true
			}
			if w, err := r.Global(api.Cell{Name: c.Name}); err == api.OK && c.Kind == api.CmdWhole && !w.Ptr && !value.HasInt(a.Value, w.N) {
				return true
			}
			failed := r.Failed()
			stop := r.Step() != api.OK
			if at && c.Kind == api.CmdAssert && r.Failed() > failed && a.Say != api.SayYes {
				return true
			}
			if stop {
				break
			}
		}
	}
	return false
}

// T5: an edit that is rejected leaves no trace.
func TestRejected(t *testing.T) {
	p := sample.Program(4, sample.Full())
	a, _ := session.Of(p)
	b, _ := session.Of(p)
	for i, c := range queries(p) {
		for _, text := range []string{"int f0(", "int g() { }", "int main() { return zz; }", "int *h;", strings.Repeat("x", 30)} {
			kind := api.CmdFunc
			if strings.HasPrefix(text, "int *") {
				kind = api.CmdGlobal
			}
			if x := a.Do(api.Command{Kind: kind, Text: text}); x.Err == api.OK {
				t.Error(i, text)
			}
		}
		if x, y := a.Do(c), b.Do(c); !same(x, y) {
			t.Error(i, c, x, y)
		}
	}
	tables := slices.EqualFunc(a.Table(), b.Table(), func(x, y api.Side) bool { return x.Key == y.Key && cell.Same(x.State, y.State) })
	if !tables || !slices.Equal(a.Stable(), b.Stable()) || !samePrograms(a.Program(), b.Program()) {
		t.Error("a trace")
	}
}
