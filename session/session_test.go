package session_test

import (
	"slices"
	"strings"
	"testing"

	"sondage/api"
	"sondage/cell"
	"sondage/cong"
	"sondage/flow"
	"sondage/key"
	"sondage/names"
	"sondage/post"
	"sondage/query"
	"sondage/run"
	"sondage/sample"
	. "sondage/session"
	"sondage/span"
	"sondage/store"
	"sondage/value"
)

var (
	k     = sample.Key
	texts = sample.Show
)

// ask makes a query: kind, node and name.
func ask(kind int, node, name string) api.Command {
	c := api.Command{Kind: kind, Name: name}
	if node != "" {
		c.Func, c.Node = k(node).Name, k(node).Node
	}
	return c
}

// edit makes an edit of a text: one with ( is a function, one that begins with - drops.
func edit(text string) api.Command {
	if name, ok := strings.CutPrefix(text, "-"); ok {
		return api.Command{Kind: api.CmdDrop, Name: name}
	}
	if strings.Contains(text, "(") {
		return api.Command{Kind: api.CmdFunc, Text: text}
	}
	return api.Command{Kind: api.CmdGlobal, Text: text}
}

func begin(t *testing.T, texts ...string) *Session {
	t.Helper()
	s := New()
	for _, text := range texts {
		if a := s.Do(edit(text)); !same(a, api.Answer{}) {
			t.Fatal(text, a)
		}
	}
	return s
}

func between(lo, hi int) api.Value { return value.Int(span.Of(lo, hi), cong.All()) }

// same compares answers; nil and empty lists are the same.
func same(a, b api.Answer) bool {
	return a.Err == b.Err && a.At == b.At && a.Say == b.Say && a.Evals == b.Evals && value.Same(a.Value, b.Value)
}

// text returns the text of a session's program.
func text(s *Session) string {
	st, _, _, err := store.Of(s.Program())
	if err != api.OK {
		panic("not valid")
	}
	return st.Text()
}

func sameTables(a, b []api.Side) bool {
	return slices.EqualFunc(a, b, func(x, y api.Side) bool { return x.Key == y.Key && cell.Same(x.State, y.State) })
}

// P39.1 to P39.4
func TestExample(t *testing.T) {
	s := begin(t, "int main() { return 3; }")
	for i, x := range []struct {
		c                  api.Command
		want               api.Answer
		evals, kept, share int
	}{
		{ask(api.CmdValue, "main.1", ""), api.Answer{Say: api.SayYes, Value: value.Num(3), Evals: 5}, 5, 0, 0},
		{ask(api.CmdValue, "main.1", ""), api.Answer{Say: api.SayYes, Value: value.Num(3)}, 5, 3, 375},
		{ask(api.CmdReach, "main.2", ""), api.Answer{Say: api.SayNo}, 5, 6, 545},
		{ask(api.CmdReach, "main.3", ""), api.Answer{Err: api.ErrRange}, 5, 6, 545},
		{ask(api.CmdWhole, "", "g"), api.Answer{Err: api.ErrNone}, 5, 6, 545},
		{api.Command{Kind: 99}, api.Answer{Err: api.ErrArg}, 5, 6, 545},
		{api.Command{}, api.Answer{Err: api.ErrArg}, 5, 6, 545},
		{api.Command{Kind: api.CmdBudget, N: 0}, api.Answer{Err: api.ErrRange}, 5, 6, 545},
		{edit("int main() { return 4; }"), api.Answer{}, 5, 6, 545},
		{ask(api.CmdValue, "main.1", ""), api.Answer{Say: api.SayYes, Value: value.Num(4), Evals: 5}, 10, 6, 375},
	} {
		a := s.Do(x.c)
		evals, kept := s.Parts()
		if !value.Same(a.Value, x.want.Value) || a.Err != x.want.Err || a.At != 0 || a.Say != x.want.Say || a.Evals != x.want.Evals || evals != x.evals || kept != x.kept || s.Share() != x.share {
			t.Error(i, a, evals, kept, s.Share())
		}
	}
	if texts(s.Stable()) != "main.0 main.1 main.2" || len(s.Table()) != 3 || s.Table()[1].Key != k("main.1") {
		t.Error(texts(s.Stable()))
	}
}

// P39.2
func TestEdits(t *testing.T) {
	s := New()
	for i, x := range []struct {
		c    api.Command
		want api.Answer
	}{
		{edit("int g;"), api.Answer{}}, {edit("int main() { g = 5; return g; }"), api.Answer{}}, {edit("int main() { return zz; }"), api.Answer{Err: api.ErrNone, At: 20}}, {edit("int main() { return 1 }"), api.Answer{Err: api.ErrForm, At: 22}}, {edit("int g["), api.Answer{Err: api.ErrForm, At: 6}}, {edit("int g[2];"), api.Answer{Err: api.ErrType}}, {edit("-g"), api.Answer{Err: api.ErrNone}}, {edit("-zz"), api.Answer{Err: api.ErrNone}},
		{ask(api.CmdWhole, "", "g"), api.Answer{Value: value.Int(span.Of(0, 5), cong.Of(5, 0)), Evals: 8}},
		{edit("int f() { return 1; }"), api.Answer{}}, {edit("-f"), api.Answer{}}, {ask(api.CmdReach, "f.0", ""), api.Answer{Err: api.ErrNone}},
		{edit("int main() { g = 6; return 2; }"), api.Answer{}}, {ask(api.CmdValue, "main.1", "g"), api.Answer{Say: api.SayYes, Value: value.Int(span.Of(0, 6), cong.Of(6, 0)), Evals: 8}},
	} {
		before, table, stable := text(s), s.Table(), s.Stable()
		a := s.Do(x.c)
		if a.Err != x.want.Err || a.At != x.want.At || a.Say != x.want.Say || !value.Same(a.Value, x.want.Value) || a.Evals != x.want.Evals {
			t.Error(i, x.c, a)
		}
		if a.Err != api.OK && !(before == text(s) && sameTables(table, s.Table()) && texts(stable) == texts(s.Stable())) {
			t.Error(i, "something has changed", x.c)
		}
	}
}

// P39.2, P39.3, P39.5
func TestBudget(t *testing.T) {
	s := begin(t, "int main() { return 3; }")
	for i, x := range []struct {
		n   int
		err api.Errno
	}{{-1, api.ErrRange}, {0, api.ErrRange}, {api.MaxBudget + 1, api.ErrRange}, {api.MaxBudget, 0}, {1, 0}, {4, 0}} {
		if a := s.Do(api.Command{Kind: api.CmdBudget, N: x.n}); !same(a, api.Answer{Err: x.err}) {
			t.Error(i, a)
		}
	}
	for range 2 {
		if a := s.Do(ask(api.CmdValue, "main.1", "")); !same(a, api.Answer{Err: api.ErrBudget, Evals: 4}) || len(s.Stable()) > 0 {
			t.Error(a)
		}
	}
	if evals, kept := s.Parts(); evals != 8 || kept != 0 {
		t.Error(evals, kept)
	}
	s.Do(api.Command{Kind: api.CmdBudget, N: api.MaxBudget + 1})
	s.Do(api.Command{Kind: api.CmdBudget, N: 5})
	if a := s.Do(ask(api.CmdValue, "main.1", "")); a.Err != api.OK || a.Evals > 5 || !value.Same(a.Value, value.Num(3)) {
		t.Error(a)
	}
}

// P39.3: a query may need more than one round, and the budget is that of all rounds.
func TestRounds(t *testing.T) {
	lines := []string{"int g;", "int *p;", "int a[2];", "int main() { p = &g; g = 4; a[1] = 9; assert(*p < a[1]); return 1; }"}
	s := begin(t, lines...)
	c := ask(api.CmdAssert, "main.4", "")
	full := s.Do(c)
	if full.Err != api.OK || full.Say != api.SayYes || full.Evals == 0 {
		t.Error(full)
	}
	for _, need := range []string{"g", "p", "a", "main.4", "main.1"} {
		if !key.Has(s.Stable(), k(need)) {
			t.Error(need, texts(s.Stable()))
		}
	}
	for _, n := range []int{full.Evals - 1, full.Evals} {
		again := begin(t, lines...)
		again.Do(api.Command{Kind: api.CmdBudget, N: n})
		if a := again.Do(c); n == full.Evals && !same(a, full) || n < full.Evals && !same(a, api.Answer{Err: api.ErrBudget, Evals: n}) {
			t.Error(n, a)
		}
	}
}

// P39.1
func TestOf(t *testing.T) {
	bad := api.Program{Funcs: []api.Func{{Name: "f"}, {Name: "f"}}}
	if s, err := Of(bad); s != nil || err != api.ErrTwice {
		t.Error(s, err)
	}
	p := sample.Program(1, sample.Full())
	s, err := Of(p)
	if st, _, _, _ := store.Of(p); err != api.OK || text(s) != st.Text() || len(s.Table())+len(s.Stable()) > 0 {
		t.Error(err)
	}
	if n := New(); len(n.Program().Funcs)+len(n.Program().Globals) > 0 {
		t.Error("new")
	}
}

// P39.4
func TestNil(t *testing.T) {
	var s *Session
	evals, kept := s.Parts()
	if a := s.Do(edit("int g;")); !same(a, api.Answer{Err: api.ErrNil}) || len(s.Program().Globals) > 0 || len(s.Table())+len(s.Stable()) > 0 || evals+kept+s.Share() != 0 {
		t.Error("nil")
	}
}

// moment is what a run has at one of its steps.
type moment struct {
	at     api.Key
	locals map[string]api.Word
	globs  map[string][]api.Word
	fails  bool // the assertion that begins there
}

// moments runs a program and returns what it has at each step.
func moments(p api.Program, in []int, most int) []moment {
	r, err := run.New(p, in)
	if err != api.OK {
		return nil
	}
	var l []moment
	for range most {
		if r.Deep() == 0 {
			break
		}
		l = append(l, snapshot(r, p))
		failed := r.Failed()
		if r.Step() != api.OK {
			break
		}
		l[len(l)-1].fails = r.Failed() > failed
	}
	return l
}

func snapshot(r *run.Run, p api.Program) moment {
	name, node := r.Where()
	m := moment{at: api.Key{Name: name, Node: node}, locals: map[string]api.Word{}, globs: map[string][]api.Word{}}
	for _, f := range p.Funcs {
		if f.Name == name {
			for _, v := range flow.Graph(f).Vars {
				m.locals[v.Name], _ = r.Local(v.Name)
			}
		}
	}
	if w, ok := r.Local(""); ok {
		m.locals = map[string]api.Word{"": w}
	}
	for _, g := range p.Globals {
		for i := range max(g.Size, 1) {
			w, _ := r.Global(api.Cell{Name: g.Name, At: i})
			m.globs[g.Name] = append(m.globs[g.Name], w)
		}
	}
	return m
}

func has(v api.Value, w api.Word) bool {
	if w.Ptr {
		return value.HasPtr(v, w.To.Name)
	}
	return value.HasInt(v, w.N)
}

// contradiction returns what the answers of a session do not have of a run's moment.
func contradiction(s *Session, m moment) string {
	if a := s.Do(api.Command{Kind: api.CmdReach, Func: m.at.Name, Node: m.at.Node}); a.Err != api.OK || a.Say != api.SayYes {
		return "not reached " + key.Text(m.at)
	}
	for name, w := range m.locals {
		a := s.Do(api.Command{Kind: api.CmdValue, Func: m.at.Name, Node: m.at.Node, Name: name})
		if a.Err != api.OK || a.Say != api.SayYes || !has(a.Value, w) {
			return key.Text(m.at) + " " + name
		}
	}
	for name, l := range m.globs {
		a := s.Do(api.Command{Kind: api.CmdWhole, Name: name})
		at := s.Do(api.Command{Kind: api.CmdValue, Func: m.at.Name, Node: m.at.Node, Name: name})
		for _, w := range l {
			if a.Err != api.OK || !has(a.Value, w) || at.Err != api.ErrType && !has(at.Value, w) {
				return key.Text(m.at) + " " + name
			}
		}
	}
	if a := s.Do(api.Command{Kind: api.CmdAssert, Func: m.at.Name, Node: m.at.Node}); m.fails && a.Say != api.SayYes {
		return "fails " + key.Text(m.at)
	}
	return ""
}

// partial returns what contradicts T2 after a query.
func partial(s *Session, c api.Command) string {
	p, table := s.Program(), s.Table()
	domain, ok := post.Domain(p, table, query.Needs(p, table, c))
	if !ok {
		return "no domain"
	}
	if x, wrong := post.Wrong(p, table, domain); wrong {
		return "wrong " + key.Text(x)
	}
	for _, x := range domain {
		if !key.Has(s.Stable(), x) {
			return "not stable " + key.Text(x)
		}
	}
	return ""
}

// queries returns some queries about a program.
func queries(p api.Program, seed int) []api.Command {
	var l []api.Command
	for i, f := range p.Funcs {
		g := flow.Graph(f)
		node := (seed*7 + i*3) % g.Nodes
		l = append(l, api.Command{Kind: api.CmdReach, Func: f.Name, Node: node}, api.Command{Kind: api.CmdValue, Func: f.Name, Node: 1}, api.Command{Kind: api.CmdValue, Func: f.Name, Node: node, Name: "x"}, api.Command{Kind: api.CmdPoints, Func: f.Name, Node: node, Name: "q"})
		for _, x := range g.Edges {
			if x.Kind == api.EdgeAssert {
				l = append(l, api.Command{Kind: api.CmdAssert, Func: f.Name, Node: x.From})
			}
		}
	}
	for _, g := range p.Globals {
		l = append(l, api.Command{Kind: api.CmdWhole, Name: g.Name})
	}
	return l
}

// T1, T2, P39.5: programs that are edited again and again.
func TestSoundness(t *testing.T) {
	seen := 0
	for seed := range 60 {
		s, err := Of(sample.Program(seed, sample.Full()))
		if err != api.OK {
			t.Fatal(seed, err)
		}
		for round := range 4 {
			p := s.Program()
			l := queries(p, seed+round)
			for i := range 5 {
				c := l[(seed+i*5+round)%len(l)]
				a := s.Do(c)
				if a.Err != api.OK && a.Err != api.ErrNone && a.Err != api.ErrType {
					t.Fatal(seed, round, c, a)
				}
				if a.Err == api.OK {
					if wrong := partial(s, c); wrong != "" {
						t.Fatal(seed, round, c, wrong)
					}
				}
				b := s.Do(c)
				if b.Evals != 0 || b.Err != a.Err || b.Say != a.Say || !value.Same(a.Value, b.Value) {
					t.Fatal(seed, round, c, a, b)
				}
			}
			for input := range 2 {
				for i, m := range moments(p, []int{input * 5, -3, 7 * seed, 1 << 62, -1 << 63}, 80) {
					if i%5 == round {
						if wrong := contradiction(s, m); wrong != "" {
							t.Fatal(seed, round, input, wrong, text(s))
						}
						seen++
					}
				}
			}
			replace(s, seed*17+round)
		}
	}
	if seen < 1000 {
		t.Error("few moments", seen)
	}
}

// replace replaces a function of a session by another one with its name, if that is accepted.
func replace(s *Session, seed int) {
	lines := sample.Texts(seed+5000, sample.Full())
	for i := range 3 {
		s.Do(edit(lines[4+(seed+i)%3]))
	}
}

// T4
func TestReuse(t *testing.T) {
	pairs := [][2]string{{"a", "b"}, {"b", "a"}}
	lines := []string{"int a(int n) { int x; while (x < n) { x = x + 1; } return x; }", "int a2() { int x; x = a(5); return x; }", "int b() { int x; x = b2(); return x; }", "int b2() { return 3; }", "int main() { int x; if (x) { x = b(); } return x; }"}
	for _, pair := range pairs {
		s := begin(t, append([]string{"int b2() { return 7; }"}, lines...)...)
		c := ask(api.CmdValue, pair[0]+".1", "")
		first := s.Do(c)
		s.Do(ask(api.CmdValue, "main.1", ""))
		if pair[0] == "b" {
			s.Do(edit("int a(int n) { return n - 1; }"))
		} else {
			s.Do(edit("int alone() { return 4; }"))
			s.Do(edit("int alone() { int x; x = input(); return 5; }"))
		}
		second := s.Do(c)
		if second.Evals != 0 || second.Say != first.Say || !value.Same(first.Value, second.Value) {
			t.Error(pair, first, second)
		}
	}
}

// T6
func TestExactness(t *testing.T) {
	whole := 0
	for seed := range 300 {
		p := sample.Program(seed, sample.Plain())
		l := moments(p, nil, 1000)
		last := l[len(l)-1]
		if last.at.Node != 1 {
			continue // a trap
		}
		whole++
		s, _ := Of(p)
		reached := map[api.Key]moment{}
		for _, m := range l {
			reached[m.at] = m
		}
		for node := range flow.Graph(p.Funcs[0]).Nodes {
			at := api.Key{Name: "main", Node: node}
			m, was := reached[at]
			a := s.Do(api.Command{Kind: api.CmdReach, Func: "main", Node: node})
			if a.Err != api.OK || (a.Say == api.SayYes) != was {
				t.Fatal(seed, at, a, was, text(s))
			}
			for name, w := range m.locals {
				if a := s.Do(api.Command{Kind: api.CmdValue, Func: "main", Node: node, Name: name}); !value.Same(a.Value, value.Num(w.N)) {
					t.Fatal(seed, at, name, a, w, text(s))
				}
			}
		}
	}
	if whole < 50 {
		t.Error("few runs without traps", whole)
	}
}

// T1: pointers, and a part of the program that is never called.
func TestPointers(t *testing.T) {
	s := begin(t, "int g;", "int h;", "int *p;", "int never() { p = &h; g = 77; return 1; }", "int main() { int *q; int x; x = input(); q = &g; if (x) { p = q; } assert(p != null); return 0; }")
	for _, x := range []struct {
		c   api.Command
		say int
		v   api.Value
	}{
		{ask(api.CmdPoints, "main.1", "p"), api.SayYes, value.Ptr(names.Of(true, "g"))}, {ask(api.CmdPoints, "main.3", "q"), api.SayYes, value.Ptr(names.Of(false, "g"))}, {ask(api.CmdReach, "never.0", ""), api.SayNo, api.Value{}}, {ask(api.CmdWhole, "", "g"), 0, value.Num(0)}, {ask(api.CmdAssert, "main.7", ""), api.SayYes, api.Value{}}, {ask(api.CmdValue, "main.3", "x"), api.SayYes, value.Ints()},
	} {
		if a := s.Do(x.c); a.Err != api.OK || a.Say != x.say || !value.Same(a.Value, x.v) {
			t.Error(x, a)
		}
	}
	if a := s.Do(ask(api.CmdValue, "main.0", "x")); !value.Same(a.Value, between(0, 0)) {
		t.Error(a)
	}
}
