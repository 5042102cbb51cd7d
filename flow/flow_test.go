package flow_test

import (
	"slices"
	"strconv"
	"strings"
	"testing"

	"sondage/api"
	. "sondage/flow"
	"sondage/grammar"
	"sondage/print"
)

func function(text string) api.Func {
	f, at, err := grammar.FuncText([]byte(text))
	if err != api.OK {
		panic(text[at:])
	}
	return f
}

// show writes an edge: from, to, kind, names and expressions.
func show(e api.Edge) string {
	s := []string{strconv.Itoa(e.From) + ">" + strconv.Itoa(e.To) + ":" + strconv.Itoa(e.Kind), e.Name, e.Func}
	for _, x := range e.Exps {
		s = append(s, print.Expr(x))
	}
	return strings.Join(s, "|")
}

// P17.1, P17.2
func TestGraph(t *testing.T) {
	for _, x := range []struct {
		text   string
		nodes  int
		edges  string
		places []int
	}{
		{"int f() { }", 2, "0>1:8|||0", nil},
		{"int f() { return 3; }", 3, "0>1:8|||3 2>1:8|||0", []int{0}},
		{"int f() { x = 1; a[2] = 3; *p = 4; x = g(5, 6); h(); x = input(); assert(x); }", 9,
			"0>2:1|x||1 2>3:2|a||2|3 3>4:3|p||4 4>5:4|x|g|5|6 5>6:4||h 6>7:5|x| 7>8:9|||x 8>1:8|||0", []int{0, 2, 3, 4, 5, 6, 7}},
		{"int f() { if (x) { y = 1; } else { return 2; } z = 3; }", 8,
			"0>2:6|||x 0>3:7|||x 2>4:1|y||1 4>5:0|| 3>1:8|||2 6>5:0|| 5>7:1|z||3 7>1:8|||0", []int{0, 2, 3, 5}},
		{"int f() { if (x) { } }", 5, "0>2:6|||x 0>3:7|||x 2>4:0|| 3>4:0|| 4>1:8|||0", []int{0}},
		{"int f() { while (x) { y = 1; } z = 2; }", 7, "0>2:0|| 2>3:6|||x 2>4:7|||x 3>5:1|y||1 5>2:0|| 4>6:1|z||2 6>1:8|||0", []int{0, 3, 4}},
		{"int f() { while (x) { if (y) { return 1; } } }", 9,
			"0>2:0|| 2>3:6|||x 2>4:7|||x 3>5:6|||y 3>6:7|||y 5>1:8|||1 7>8:0|| 6>8:0|| 8>2:0|| 4>1:8|||0", []int{0, 3, 5}},
	} {
		g := Graph(function(x.text))
		var l []string
		for _, e := range g.Edges {
			l = append(l, show(e))
		}
		if got := strings.Join(l, " "); g.Nodes != x.nodes || got != x.edges || g.Func != "f" {
			t.Errorf("%s: %d %s, not %d %s", x.text, g.Nodes, got, x.nodes, x.edges)
		}
		if got := Places(function(x.text)); !slices.Equal(got, x.places) {
			t.Error(x.text, got, x.places)
		}
	}
}

func TestVariables(t *testing.T) {
	f := function("int f(int a, int *p) { int i; int *q; }")
	g := Graph(f)
	if want := []api.Var{{Name: "a"}, {Name: "p", Ptr: true}, {Name: "i"}, {Name: "q", Ptr: true}}; !slices.Equal(g.Vars, want) || g.Many != 2 {
		t.Error(g)
	}
	if last := g.Edges[0]; len(g.Edges) != 1 || len(last.Exps) != 1 || last.Exps[0].Op != api.ExpNum || last.Exps[0].N != 0 || last.Exps[0].At != 0 {
		t.Error(g)
	}
}

// Other kinds do nothing, but have places; blocks of other statements are not visited.
func TestStrangeStatements(t *testing.T) {
	inner := []api.Stmt{{Op: api.StInput, Name: "y"}}
	one := []api.Expr{{Op: api.ExpNum, N: 1}}
	f := api.Func{Body: []api.Stmt{{Op: 77, Kids: inner}, {Op: api.StAssign, Name: "x", Func: "h", Exps: one, Kids: inner, Else: inner}, {Op: api.StWhile, Name: "n", Func: "h", Exps: one, Else: inner}, {}, {Op: api.StReturn, Name: "n", Func: "h", Exps: one}}}
	g := Graph(f)
	var l []string
	for _, e := range g.Edges {
		l = append(l, show(e))
	}
	if got := strings.Join(l, " "); got != "0>2:1|x|h|1 2>3:0|| 3>4:6|||1 3>5:7|||1 4>3:0|| 5>1:8|||1 6>1:8|||0" {
		t.Error(got)
	}
	if got := Places(f); !slices.Equal(got, []int{0, 0, 2, 5, 5}) {
		t.Error(got)
	}
}

// P17.3
func TestShape(t *testing.T) {
	f := function("int f() { while (x) { if (y) { return 1; } else { while (z) { x = 1; } } h(); } return 2; x = 3; }")
	g := Graph(f)
	out := map[int][]int{}
	for _, e := range g.Edges {
		if e.From < 0 || e.From >= g.Nodes || e.To < 0 || e.To >= g.Nodes || e.From == 1 {
			t.Error(e)
		}
		out[e.From] = append(out[e.From], e.Kind)
	}
	for n := range g.Nodes {
		kinds := out[n]
		one := len(kinds) == 1 && kinds[0] != api.EdgeTrue && kinds[0] != api.EdgeFalse
		if n != 1 && !one && !slices.Equal(kinds, []int{api.EdgeTrue, api.EdgeFalse}) {
			t.Error(n, kinds)
		}
	}
	if g.Nodes > 2+3*len(Places(f)) {
		t.Error(g.Nodes)
	}
}
