package query_test

import (
	"slices"
	"testing"

	"sondage/api"
	"sondage/cong"
	"sondage/names"
	. "sondage/query"
	"sondage/sample"
	"sondage/span"
	"sondage/value"
)

var (
	program = sample.Lines
	k       = sample.Key
	texts   = sample.Show
)

// world: f has the nodes 0, 1, 2 (after the first assertion), 3 and 4; b and odd are shadowed or strange.
func world() api.Program {
	p := program("int g;", "int *gp;", "int a[3];", "int b;", "int f(int x, int *p) { int y; assert(x < g); assert(a[y] == *gp); return x; }", "int main() { }")
	p.Globals = append(p.Globals, api.Global{Name: "odd", Ptr: true, Size: 4}, api.Global{Name: "g", Size: 4}, api.Global{Name: "y", Ptr: true}, api.Global{Name: "single", Size: 1})
	p.Funcs = append(p.Funcs, api.Func{Name: "f"}, api.Func{Name: "odd", Body: []api.Stmt{{Op: api.StAssert}}})
	return p
}

// command reads: kind, node and name.
func command(kind int, node, name string) api.Command {
	c := api.Command{Kind: kind, Name: name}
	if node != "" {
		c.Func, c.Node = k(node).Name, k(node).Node
	}
	return c
}

func between(lo, hi int) api.Value { return value.Int(span.Of(lo, hi), cong.All()) }

func ptr(null bool, l ...string) api.Value { return value.Ptr(names.Of(null, l...)) }

func live(l ...api.Bind) api.State { return api.State{Env: api.Env{Live: true, Binds: l}} }

func bind(name string, v api.Value) api.Bind { return api.Bind{Name: name, V: v} }

func side(text string, s api.State) api.Side { return api.Side{Key: k(text), State: s} }

func val(v api.Value) api.State { return api.State{Val: v} }

// same compares answers; nil and empty lists are the same.
func same(a, b api.Answer) bool {
	return a.Err == b.Err && a.At == b.At && a.Say == b.Say && a.Evals == b.Evals && value.Same(a.Value, b.Value)
}

// P38.1
func TestKeys(t *testing.T) {
	for _, x := range []struct {
		c    api.Command
		want string
		err  api.Errno
	}{
		{command(api.CmdWhole, "", "g"), "g", 0}, {command(api.CmdWhole, "zz.5", "a"), "a", 0}, {command(api.CmdWhole, "", "x"), "", api.ErrNone}, {command(api.CmdWhole, "", ""), "", api.ErrNone},
		{command(0, "f.0", "x"), "", api.ErrArg}, {command(api.CmdFunc, "f.0", "x"), "", api.ErrArg}, {command(api.CmdBudget, "zz.0", "x"), "", api.ErrArg}, {command(99, "f.0", "x"), "", api.ErrArg}, {command(-1, "f.0", "x"), "", api.ErrArg}, {command(api.CmdDrop, "", "g"), "", api.ErrArg},
		{command(api.CmdReach, "f.0", ""), "f.0", 0}, {command(api.CmdReach, "f.4", "zz"), "f.4", 0}, {command(api.CmdReach, "f.5", ""), "", api.ErrRange}, {api.Command{Kind: api.CmdReach, Func: "f", Node: -1}, "", api.ErrRange}, {command(api.CmdReach, "zz.0", ""), "", api.ErrNone}, {command(api.CmdReach, "g.0", ""), "", api.ErrNone},
		{command(api.CmdAssert, "f.0", ""), "f.0", 0}, {command(api.CmdAssert, "f.2", "zz"), "f.2", 0}, {command(api.CmdAssert, "f.3", ""), "", api.ErrNone}, {command(api.CmdAssert, "odd.0", ""), "", api.ErrNone}, {command(api.CmdValue, "f.1", "single"), "", api.ErrType}, {command(api.CmdWhole, "", "single"), "single", 0}, {command(api.CmdAssert, "f.1", ""), "", api.ErrNone}, {command(api.CmdAssert, "f.9", ""), "", api.ErrRange}, {command(api.CmdAssert, "zz.9", ""), "", api.ErrNone},
		{command(api.CmdValue, "f.1", ""), "f.1", 0}, {command(api.CmdValue, "f.0", ""), "", api.ErrNone}, {command(api.CmdValue, "f.9", ""), "", api.ErrRange},
		{command(api.CmdValue, "f.0", "x"), "f.0", 0}, {command(api.CmdValue, "f.2", "p"), "f.2", 0}, {command(api.CmdValue, "f.2", "y"), "f.2", 0}, {command(api.CmdValue, "f.1", "x"), "", api.ErrNone}, {command(api.CmdValue, "f.1", "y"), "", api.ErrNone}, {command(api.CmdValue, "f.0", "zz"), "", api.ErrNone}, {command(api.CmdValue, "f.9", "zz"), "", api.ErrRange}, {command(api.CmdValue, "main.0", "x"), "", api.ErrNone},
		{command(api.CmdValue, "f.0", "g"), "f.0 g", 0}, {command(api.CmdValue, "f.1", "g"), "f.1 g", 0}, {command(api.CmdValue, "f.2", "gp"), "f.2 gp", 0}, {command(api.CmdValue, "f.2", "a"), "", api.ErrType}, {command(api.CmdValue, "f.2", "odd"), "f.2 odd", 0}, {command(api.CmdValue, "main.1", "y"), "main.1 y", 0},
		{command(api.CmdPoints, "f.0", "p"), "f.0", 0}, {command(api.CmdPoints, "f.0", "x"), "", api.ErrType}, {command(api.CmdPoints, "f.0", "y"), "", api.ErrType}, {command(api.CmdPoints, "f.1", "p"), "", api.ErrNone}, {command(api.CmdPoints, "f.1", "x"), "", api.ErrNone}, {command(api.CmdPoints, "f.0", ""), "", api.ErrNone}, {command(api.CmdPoints, "f.1", ""), "", api.ErrNone}, {command(api.CmdPoints, "f.1", "gp"), "f.1 gp", 0}, {command(api.CmdPoints, "f.1", "g"), "", api.ErrType}, {command(api.CmdPoints, "f.1", "a"), "", api.ErrType}, {command(api.CmdPoints, "f.1", "odd"), "f.1 odd", 0}, {command(api.CmdPoints, "main.1", "y"), "main.1 y", 0},
	} {
		l, err := Keys(world(), x.c)
		if texts(l) != x.want || err != x.err {
			t.Error(x, texts(l), err)
		}
		if x.c.Kind != api.CmdAssert && texts(Needs(world(), nil, x.c)) != x.want {
			t.Error("needs", x)
		}
		if a := Tell(world(), nil, x.c); !same(a, api.Answer{Err: x.err}) && !(x.err == api.OK && same(a, api.Answer{Err: api.ErrOpen})) {
			t.Error("tell", x, a)
		}
	}
}

// P38.2
func TestNeeds(t *testing.T) {
	in := live(bind("x", between(0, 9)), bind("y", between(0, 5)))
	g, a, gp := side("g", val(between(3, 4))), side("a", val(value.Num(1))), side("gp", val(ptr(true, "b", "g")))
	for _, x := range []struct {
		table []api.Side
		node  string
		want  string
	}{
		{nil, "f.0", "f.0"}, {[]api.Side{side("f.0", api.State{})}, "f.0", "f.0"}, {[]api.Side{side("f.0", in)}, "f.0", "f.0 g"}, {[]api.Side{side("f.0", in), g}, "f.0", "f.0 g"},
		{[]api.Side{side("f.0", in)}, "f.2", "f.2"}, {[]api.Side{side("f.2", in)}, "f.2", "f.2 a"}, {[]api.Side{side("f.2", in), a}, "f.2", "f.2 a gp"}, {[]api.Side{side("f.2", in), a, gp}, "f.2", "f.2 a gp b"}, {[]api.Side{side("f.2", in), gp, a, side("b", val(value.Num(0)))}, "f.2", "f.2 a gp b g"}, {[]api.Side{side("f.2", in), gp, a, side("b", val(value.Num(0))), g}, "f.2", "f.2 a gp b g"},
		{[]api.Side{side("f.0", in)}, "f.3", ""},
	} {
		c := command(api.CmdAssert, x.node, "")
		if got := texts(Needs(world(), x.table, c)); got != x.want {
			t.Error(x, got)
		}
		open := false
		for _, need := range Needs(world(), x.table, c) {
			has := false
			for _, s := range x.table {
				has = has || s.Key == need
			}
			open = open || !has
		}
		if a := Tell(world(), x.table, c); open != (a.Err == api.ErrOpen) {
			t.Error("open", x, a)
		}
	}
}

// P38.3, P38.4
func TestTell(t *testing.T) {
	odd := api.Value{Span: span.One(7), Cong: api.Cong{Some: true, M: 4, R: 7}, Set: api.Set{Null: true, Names: []string{"g", "b"}}}
	in := live(bind("x", between(0, 9)), bind("y", value.Num(1)), bind("p", odd))
	clean := value.Clean(odd)
	table := []api.Side{side("f.0", in), side("f.1", live(bind("", between(2, 3)))), side("f.2", live(bind("x", value.Num(1)), bind("y", value.Num(5)), bind("p", ptr(true)))), side("f.3", api.State{}), side("g", val(between(10, 12))), side("gp", val(odd)), side("a", val(value.Num(1))), side("b", val(value.Num(1))), side("main.0", api.State{}), side("y", val(ptr(true, "b"))), side("g", val(value.Num(0)))}
	yes := func(v api.Value) api.Answer { return api.Answer{Say: api.SayYes, Value: v} }
	no := api.Answer{Say: api.SayNo}
	for _, x := range []struct {
		c    api.Command
		want api.Answer
	}{
		{command(api.CmdWhole, "", "g"), api.Answer{Value: between(10, 12)}}, {command(api.CmdWhole, "", "gp"), api.Answer{Value: clean}}, {command(api.CmdWhole, "", "odd"), api.Answer{Err: api.ErrOpen}}, {command(api.CmdWhole, "", "zz"), api.Answer{Err: api.ErrNone}},
		{command(api.CmdReach, "f.0", ""), yes(api.Value{})}, {command(api.CmdReach, "f.3", ""), no}, {command(api.CmdReach, "f.4", ""), api.Answer{Err: api.ErrOpen}},
		{command(api.CmdValue, "f.0", "x"), yes(between(0, 9))}, {command(api.CmdValue, "f.0", "p"), yes(clean)}, {command(api.CmdValue, "f.0", "g"), yes(between(10, 12))}, {command(api.CmdValue, "f.3", "x"), no}, {command(api.CmdValue, "f.3", "g"), no}, {command(api.CmdValue, "f.1", ""), yes(between(2, 3))}, {command(api.CmdValue, "f.1", "gp"), yes(clean)}, {command(api.CmdValue, "f.0", "odd"), api.Answer{Err: api.ErrOpen}}, {command(api.CmdValue, "f.3", "odd"), api.Answer{Err: api.ErrOpen}}, {command(api.CmdValue, "f.0", "y"), yes(value.Num(1))}, {command(api.CmdValue, "main.0", "y"), no},
		{command(api.CmdPoints, "f.0", "p"), yes(ptr(true, "b", "g"))}, {command(api.CmdPoints, "f.2", "p"), yes(ptr(true))}, {command(api.CmdPoints, "f.0", "gp"), yes(ptr(true, "b", "g"))}, {command(api.CmdPoints, "f.3", "p"), no},
		{command(api.CmdAssert, "f.0", ""), no}, {command(api.CmdAssert, "f.2", ""), no},
	} {
		got := Tell(world(), table, x.c)
		if !same(got, x.want) || !slices.Equal(value.Clean(got.Value).Set.Names, got.Value.Set.Names) || value.Clean(got.Value).Cong != got.Value.Cong {
			t.Error(x, got)
		}
		if more := Tell(world(), append(table, side("f.0", live()), side("g", val(ptr(true)))), x.c); !same(got, more) {
			t.Error("more", x, more)
		}
	}
	for _, x := range []struct {
		x, g api.Value
		say  int
	}{
		{between(0, 9), between(10, 12), api.SayNo}, {between(0, 9), between(9, 12), api.SayYes}, {between(5, 9), between(0, 5), api.SayYes}, {api.Value{}, between(0, 5), api.SayNo}, {between(0, 9), api.Value{}, api.SayNo},
	} {
		l := []api.Side{side("f.0", live(bind("x", x.x))), side("g", val(x.g))}
		if a := Tell(world(), l, command(api.CmdAssert, "f.0", "")); a.Say != x.say || a.Err != api.OK || !value.None(a.Value) {
			t.Error(x, a)
		}
	}
}
