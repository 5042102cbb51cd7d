package post_test

import (
	"slices"
	"strings"
	"testing"

	"sondage/api"
	"sondage/cong"
	"sondage/env"
	"sondage/key"
	"sondage/look"
	. "sondage/post"
	"sondage/rhs"
	"sondage/run"
	"sondage/sample"
	"sondage/solve"
	"sondage/span"
	"sondage/value"
)

var (
	program = sample.Lines
	keys    = sample.Keys
	texts   = sample.Show
)

func result(v api.Value) api.State { return live("", v) }

func live(name string, v api.Value) api.State {
	return api.State{Env: api.Env{Live: true, Binds: []api.Bind{{Name: name, V: v}}}}
}

func side(text string, s api.State) api.Side { return api.Side{Key: keys(text)[0], State: s} }

func between(lo, hi int) api.Value { return value.Int(span.Of(lo, hi), cong.All()) }

var three = program("int main() { return 3; }")

// P34.1
func TestDomain(t *testing.T) {
	empty := api.State{}
	full := []api.Side{side("main.0", api.State{Env: api.Env{Live: true}}), side("main.1", result(value.Num(3))), side("main.2", empty), side("g", empty)}
	for i, x := range []struct {
		table []api.Side
		l     string
		want  string
		ok    bool
	}{
		{full, "main.1", "main.0 main.1 main.2", true}, {full, "main.0", "main.0", true}, {full, "main.1 main.1 g", "g main.0 main.1 main.2", true}, {full, "", "", true}, {full, "zz", "", false}, {full, "main.2 zz", "", false}, {full, "a main.2", "", false}, {full, "a b c main.2", "", false},
		{full[1:2], "main.1", "", false}, {full[:2], "main.1", "", false}, {full[:1], "main.1", "", false}, {full[:1], "main.0", "main.0", true}, {nil, "main.0", "", false}, {nil, "", "", true},
	} {
		if l, ok := Domain(three, x.table, keys(x.l)); texts(l) != x.want || ok != x.ok {
			t.Error(i, texts(l), ok)
		}
	}
	if l, ok := Domain(three, full, []api.Key{{Name: "g", Node: -4}}); !ok || len(l) != 1 || l[0] != keys("g")[0] {
		t.Error(l, ok)
	}
	// An unknown that does not exist reads nothing.
	if l, ok := Domain(three, append(full, side("zz", empty)), keys("zz main.2")); !ok || texts(l) != "main.2 zz" {
		t.Error(l, ok)
	}
}

// P34.2
func TestWrong(t *testing.T) {
	p := program("int g;", "int f(int n) { g = n; return n; }", "int main() { int x; x = f(4); return x; }")
	n := live("n", value.Num(4))
	x := func(v int) api.State { return live("x", value.Num(v)) }
	good := []api.Side{
		side("main.0", x(0)), side("main.1", result(value.Num(4))), side("main.2", x(4)), side("main.3", api.State{}),
		side("f.0", n), side("f.1", result(value.Num(4))), side("f.2", n), side("f.3", api.State{}), side("g", api.State{Val: between(0, 4)}),
	}
	all := keys("main.0 main.1 main.2 main.3 f.0 f.1 f.2 f.3 g")
	if k, wrong := Wrong(p, good, all); wrong || k != (api.Key{}) || !Holds(p, good, all) {
		t.Error(k)
	}
	with := func(s api.Side) []api.Side { return append([]api.Side{s}, good...) }
	without := func(text string) []api.Side {
		return slices.DeleteFunc(slices.Clone(good), func(s api.Side) bool { return s.Key == keys(text)[0] })
	}
	for i, c := range []struct {
		table []api.Side
		l     string
		want  string
	}{
		{with(side("main.1", result(value.Num(3)))), "main.1", "main.1"},
		{with(side("main.1", result(between(0, 9)))), "main.1", ""},
		{with(side("main.1", result(value.Num(3)))), "main.0 main.2 g", ""},
		{with(side("g", api.State{Val: value.Num(0)})), "g", ""}, {with(side("g", api.State{Val: value.Num(0)})), "main.2 f.2", "f.2"}, {with(side("g", api.State{Val: value.Num(4)})), "g", "g"},
		{with(side("f.0", live("n", value.Num(5)))), "f.0 f.1 f.2 main.2", "f.2"}, {with(side("f.0", live("n", value.Num(5)))), "main.2", "main.2"},
		{with(side("f.1", result(value.Num(3)))), "main.2 f.1 f.0", "f.1"}, {with(side("main.0", x(1))), "main.2 main.0", "main.0"},
		{without("main.2"), "main.1 main.2", "main.1"}, {without("main.2"), "main.2", "main.2"}, {without("f.1"), "main.2 f.2", "main.2"}, {without("g"), "f.2 main.2", "f.2"}, {without("f.0"), "main.2", "main.2"}, {without("main.3"), "main.1", "main.1"}, {without("f.3"), "main.1 main.2 f.0", ""},
		{good, "zz", "zz"}, {good, "", ""}, {nil, "", ""}, {nil, "main.0 f.0", "f.0"}, {append(slices.Clone(good), side("main.1", api.State{})), "main.1", ""},
	} {
		k, wrong := Wrong(p, c.table, keys(c.l))
		got := ""
		if wrong {
			got = key.Text(k)
		}
		if got != c.want || wrong != (c.want != "") || Holds(p, c.table, keys(c.l)) == wrong {
			t.Error(i, c.l, got, c.want)
		}
	}
	if k, wrong := Wrong(p, without("g"), []api.Key{{Name: "g", Node: -7}}); !wrong || k != keys("g")[0] {
		t.Error(k, wrong)
	}
}

// within returns what of a run is not contained in a table.
func within(r *run.Run, p api.Program, table []api.Side, domain []api.Key) string {
	name, node := r.Where()
	if r.Deep() == 0 {
		return ""
	}
	k := api.Key{Name: name, Node: node}
	s, _ := look.Known(table, k)
	if !key.Has(domain, k) || !s.Env.Live {
		return "reached " + key.Text(k)
	}
	for _, b := range s.Env.Binds {
		w, ok := r.Local(b.Name)
		if ok && !has(b.V, w) {
			return key.Text(k) + " " + b.Name
		}
	}
	for _, g := range p.Globals {
		s, ok := look.Known(table, key.Of(g.Name))
		for i := range max(g.Size, 1) {
			w, _ := r.Global(api.Cell{Name: g.Name, At: i})
			if ok && key.Has(domain, key.Of(g.Name)) && !has(s.Val, w) {
				return g.Name
			}
		}
	}
	return ""
}

func has(v api.Value, w api.Word) bool {
	if w.Ptr {
		return value.HasPtr(v, w.To.Name)
	}
	return value.HasInt(v, w.N)
}

// P34.3: what the solver comes to is a post-solution, and contains all that runs do.
func TestRuns(t *testing.T) {
	steps := 0
	for seed := range 200 {
		p := sample.Program(seed, sample.Full())
		s := solve.New(p)
		if _, err := s.Ask(keys("main.1"), api.MaxBudget); err != api.OK {
			t.Fatal(seed, err)
		}
		table := s.Table()
		domain, ok := Domain(p, table, keys("main.1"))
		if k, wrong := Wrong(p, table, domain); !ok || wrong {
			t.Fatal(seed, ok, k)
		}
		for input := range 4 {
			r, _ := run.New(p, []int{input, -3, 7 * input, 1 << 62, seed})
			for range 400 {
				if wrong := within(r, p, table, domain); wrong != "" {
					t.Fatal(seed, input, wrong, strings.Join(sample.Texts(seed, sample.Full()), "\n"))
				}
				if r.Step() != api.OK {
					break
				}
				steps++
			}
		}
	}
	if steps < 5000 {
		t.Error("the runs are too short", steps)
	}
}

// P34.3: a table that is too small somewhere does not hold.
func TestSmaller(t *testing.T) {
	for seed := range 60 {
		p := sample.Program(seed, sample.Full())
		s := solve.New(p)
		s.Ask(keys("main.1"), api.MaxBudget)
		table := s.Table()
		domain, _ := Domain(p, table, keys("main.1"))
		plan := rhs.New(p)
		for i, entry := range table {
			base, _ := plan.Base(entry.Key)
			if !entry.State.Env.Live || !key.Has(domain, entry.Key) || base.Env.Live {
				continue
			}
			smaller := slices.Clone(table)
			smaller[i].State = api.State{Env: env.Drop(entry.State.Env)}
			if again, ok := Domain(p, smaller, keys("main.1")); ok && len(entry.State.Env.Binds) > 0 && Holds(p, smaller, again) && Holds(p, smaller, domain) {
				t.Error(seed, entry.Key)
			}
		}
	}
}
