package solve_test

import (
	"slices"
	"strconv"
	"strings"
	"testing"

	"sondage/api"
	"sondage/cell"
	"sondage/cong"
	"sondage/env"
	"sondage/key"
	"sondage/look"
	"sondage/rhs"
	"sondage/sample"
	. "sondage/solve"
	"sondage/span"
	"sondage/value"
)

var (
	program = sample.Lines
	k       = sample.Key
	texts   = sample.Show
)

const plenty = api.MaxBudget

// of returns what the table has for an unknown, with the result or a variable as its value.
func of(s *Solver, text, name string) api.Value {
	state, _ := look.Known(s.Table(), k(text))
	if k(text).Node < 0 {
		return state.Val
	}
	return env.Get(state.Env, name)
}

func tableText(s *Solver) string {
	var l []api.Key
	for _, side := range s.Table() {
		l = append(l, side.Key)
	}
	return texts(l)
}

func sameTable(a, b []api.Side) bool {
	return slices.EqualFunc(a, b, func(x, y api.Side) bool { return x.Key == y.Key && cell.Same(x.State, y.State) })
}

// P33.1: each step for a main that returns at once.
func TestSteps(t *testing.T) {
	s := New(program("int main() { return 3; }"))
	if len(s.Table())+len(s.Stable())+len(s.Points())+s.Evals() != 0 || s.Step() != api.ErrEnd {
		t.Error("a new solver")
	}
	s.Push(k("main.1"))
	for i, x := range []struct {
		table, stable string
		evals         int
		err           api.Errno
	}{
		{"main.0 main.1", "", 1, api.OK}, {"main.0 main.1", "main.0", 2, api.OK}, {"main.0 main.1", "main.0", 2, api.OK}, {"main.0 main.1 main.2", "main.0", 3, api.OK}, {"main.0 main.1 main.2", "main.0 main.2", 4, api.OK}, {"main.0 main.1 main.2", "main.0 main.2", 4, api.OK}, {"main.0 main.1 main.2", "main.0 main.1 main.2", 5, api.OK}, {"main.0 main.1 main.2", "main.0 main.1 main.2", 5, api.OK}, {"main.0 main.1 main.2", "main.0 main.1 main.2", 5, api.ErrEnd},
	} {
		if err := s.Step(); err != x.err || tableText(s) != x.table || texts(s.Stable()) != x.stable || s.Evals() != x.evals || len(s.Points()) > 0 {
			t.Error(i, err, tableText(s), "/", texts(s.Stable()), s.Evals(), texts(s.Points()))
		}
	}
	if v := of(s, "main.1", ""); !value.Same(v, value.Num(3)) {
		t.Error(v)
	}
}

// P33.1: each step for a loop: its head becomes a point when it is read again, and is evaluated again when it has grown.
func TestLoopSteps(t *testing.T) {
	s := New(program("int main() { while (1) { } }"))
	s.Push(k("main.3"))
	var seen []string
	for s.Step() == api.OK {
		seen = append(seen, strconv.Itoa(s.Evals())+"/"+texts(s.Stable())+"/"+texts(s.Points()))
	}
	want := []string{
		"1//", "2//", "3/main.0/", "3/main.0/", // wanting, settling main.0, and popping it
		"4/main.0 main.2/main.3", "4/main.0 main.2/main.3", // main.2 reads main.3, which is on the stack
		"5/main.0/main.3", "6/main.0/main.3", // main.3 has grown, so that main.2 and main.3 itself are not stable
		"7/main.0 main.2/main.3", "7/main.0 main.2/main.3", "8/main.0 main.2 main.3/main.3", "8/main.0 main.2 main.3/main.3",
	}
	if !slices.Equal(seen, want) {
		t.Error(seen)
	}
}

// P33.1: an unknown may be on the stack twice, and stays there when it is popped once.
func TestTwice(t *testing.T) {
	s := New(program("int g;", "int main() { return 3; }"))
	s.Push(k("main.0"))
	s.Push(k("main.0"))
	s.Step()
	s.Step()
	if s.Evals() != 1 || texts(s.Stable()) != "main.0" {
		t.Error(s.Evals(), texts(s.Stable()))
	}
	s.Push(k("main.1"))
	for s.Step() == api.OK {
	}
	if texts(s.Points()) != "main.0" || texts(s.Stable()) != "main.0 main.1 main.2" {
		t.Error(texts(s.Points()), "/", texts(s.Stable()))
	}
	s.Push(api.Key{Name: "g", Node: -8})
	if s.Step() != api.OK || !value.Same(of(s, "g", ""), value.Num(0)) || !slices.Contains(s.Stable(), k("g")) {
		t.Error("a key that is not clean", s.Table())
	}
}

// P33.1: only points are widened: what is computed from a loop's variable has its exact bounds.
func TestOnlyPointsAreWidened(t *testing.T) {
	s := New(program("int main() { int x; int y; while (x < 10) { y = x + x; x = x + 2; } return y; }"))
	s.Ask([]api.Key{k("main.1")}, plenty)
	if v := of(s, "main.5", "y"); !value.Same(v, value.Int(span.Of(0, 16), cong.Of(2, 0))) || texts(s.Points()) == "" || key.Has(s.Points(), k("main.5")) {
		t.Error(v, texts(s.Points()))
	}
}

// P33.1, P33.2: what main returns, with the examples of the document.
func TestResults(t *testing.T) {
	between := func(lo, hi int) api.Value { return value.Int(span.Of(lo, hi), cong.All()) }
	for i, x := range []struct {
		want  api.Value
		lines []string
	}{
		{value.Num(3), []string{"int main() { return 3; }"}},
		{value.Num(10), []string{"int main() { int x; while (x < 10) { x = x + 2; } return x; }"}},
		{value.Num(1000), []string{"int main() { int x; while (x < 1000) { x = x + 1; } return x; }"}},
		{value.Num(7), []string{"int g;", "int set(int v) { g = v; return 0; }", "int main() { set(7); assert(g < 8); return 7; }"}},
		{value.Int(span.Of(0, 7), cong.Of(7, 0)), []string{"int g;", "int main() { int x; if (x < 1) { g = 7; } return g; }"}},
		{between(0, 120), []string{"int fac(int n) { int r; if (n < 2) { return 1; } r = fac(n - 1); return n * r; }", "int main() { int x; x = fac(5); if (x < 0) { return 0; } if (120 < x) { return 0; } return x; }"}},
		{api.Value{}, []string{"int main() { while (1) { } return 3; }"}},
		{value.Num(4), []string{"int f(int n) { return n + 1; }", "int main() { int x; x = f(3); return x; }"}},
		{value.Int(span.Of(3, 5), cong.Of(2, 1)), []string{"int f(int n) { return n; }", "int main() { int x; int y; x = f(3); y = f(5); return x; }"}},
		{api.Value{}, []string{"int f() { f(); return 1; }", "int main() { int x; x = f(); return x; }"}},
	} {
		s := New(program(x.lines...))
		n, err := s.Ask([]api.Key{k("main.1")}, plenty)
		if v := of(s, "main.1", ""); err != api.OK || n != s.Evals() || !(value.Same(v, x.want) || i == 5 && value.Leq(v, x.want) && value.HasInt(v, 120)) {
			t.Error(i, v, x.want, n, err)
		}
	}
}

// consistent returns what contradicts P33.5 or T2.
func consistent(p api.Program, s *Solver) string {
	table, stable, plan := s.Table(), s.Stable(), rhs.New(p)
	for i, side := range table {
		if i > 0 && key.Cmp(table[i-1].Key, side.Key) >= 0 {
			return "the table is not a row"
		}
	}
	for _, x := range stable {
		state, ok := look.Known(table, x)
		r := plan.Eval(table, x)
		if !ok || r.Wants {
			return key.Text(x) + " wants " + key.Text(r.Want)
		}
		for _, y := range r.Gets {
			if !key.Has(stable, y) {
				return key.Text(x) + " reads " + key.Text(y) + ", which is not stable"
			}
		}
		if !cell.Leq(r.State, state) {
			return key.Text(x) + " is too small"
		}
		for _, add := range r.Sides {
			if target, _ := look.Known(table, add.Key); !cell.Leq(add.State, target) {
				return key.Text(x) + " adds to " + key.Text(add.Key)
			}
		}
	}
	return ""
}

// queries returns some unknowns of a program.
func queries(p api.Program, seed int) []api.Key {
	all := rhs.New(p).Keys()
	l := []api.Key{all[seed%len(all)]}
	if seed%3 == 0 {
		l = append(l, all[seed*7%len(all)], all[seed*3%len(all)])
	}
	return l
}

// P33.2, P33.5: many programs, one after the other in one solver.
func TestConsistent(t *testing.T) {
	for seed := range 150 {
		p := sample.Program(seed, sample.Full())
		s := New(p)
		for round := range 6 {
			l := queries(p, seed*11+round*5)
			n, err := s.Ask(l, plenty)
			if err != api.OK {
				t.Fatal(seed, round, n, err)
			}
			for _, x := range l {
				if !key.Has(s.Stable(), x) {
					t.Fatal(seed, round, "not stable", x)
				}
			}
			if wrong := consistent(p, s); wrong != "" {
				t.Fatal(seed, round, wrong, strings.Join(sample.Texts(seed, sample.Full()), "\n"))
			}
			table := s.Table()
			s.Move(p)
			if n, err := s.Ask(l, 0); n != 0 || err != api.OK || !sameTable(table, s.Table()) {
				t.Fatal(seed, round, "asked again", n, err)
			}
			if round%2 == 1 {
				q := sample.Program(seed, sample.Full())
				other := sample.Program(seed+1000, sample.Full())
				i := (seed + round) % len(q.Funcs)
				q.Funcs[i].Body = slices.Clone(other.Funcs[len(other.Funcs)-1].Body)
				s.Move(q)
				if wrong := consistent(q, s); wrong != "" {
					t.Fatal(seed, round, "moved", wrong)
				}
				p = q
			}
		}
	}
}

// P33.2: without enough evaluations nothing remains stable, and with just enough the result is the same.
func TestBudget(t *testing.T) {
	for seed := range 40 {
		p := sample.Program(seed, sample.Full())
		l := []api.Key{k("main.1")}
		full := New(p)
		n, _ := full.Ask(l, plenty)
		exact := New(p)
		if m, err := exact.Ask(l, n); m != n || err != api.OK || !sameTable(exact.Table(), full.Table()) {
			t.Fatal(seed, m, n, err)
		}
		for _, most := range []int{-5, 0, 1, n / 2, n - 1} {
			s := New(p)
			m, err := s.Ask(l, most)
			if m != max(most, 0) || err != api.ErrBudget || len(s.Stable()) > 0 || s.Step() != api.ErrEnd {
				t.Fatal(seed, most, m, err)
			}
			if _, err := s.Ask(l, plenty); err != api.OK || consistent(p, s) != "" {
				t.Fatal(seed, "after a budget", consistent(p, s))
			}
		}
	}
	long := New(program("int main() { return 3; }"))
	if n, err := long.Ask(nil, 5); n != 0 || err != api.OK {
		t.Error(n, err)
	}
	if n, err := long.Ask([]api.Key{k("zz"), {Name: "zz", Node: -8}, k("zz.4")}, 50); n == 0 || err != api.OK || tableText(long) == "" {
		t.Error(n, err, tableText(long))
	}
}

// P33.2: MaxBudget bounds every Ask.
func TestMaxBudget(t *testing.T) {
	var lines []string
	for range 24 {
		lines = append(lines, "")
	}
	body := strings.Repeat("if (x < 5) { x = x + 1; } ", 75)
	for i := range lines {
		name := string(rune('a' + i))
		next := string(rune('a' + (i+1)%24))
		if i == 23 {
			name = "main"
		} else if i == 22 {
			next = "a"
		}
		if i == 23 {
			next = "a"
		}
		lines[i] = "int " + name + "() { int x; x = " + next + "(); while (x < 7) { " + body + " x = " + next + "(); } return x; }"
	}
	s := New(program(lines...))
	n, err := s.Ask([]api.Key{k("main.1")}, 1<<40)
	if n > api.MaxBudget || err == api.ErrBudget && n != api.MaxBudget || err == api.OK && n < 1000 {
		t.Error(n, err)
	}
}

// P33.2: a global depends on everything that main reaches.
func TestNeedsMain(t *testing.T) {
	lines := []string{"int g;", "int f(int n) { return n; }", "int set() { g = 5; return 1; }", "int alone(int n) { return n; }", "int main() { int x; x = f(3); x = f(9); set(); return x; }"}
	for _, x := range []struct {
		l    string
		main bool
		name string
		want api.Value
	}{
		{"g", true, "", value.Int(span.Of(0, 5), cong.Of(5, 0))}, {"f.0", true, "n", value.Int(span.Of(3, 9), cong.Of(6, 3))}, {"f.1", true, "", value.Int(span.Of(3, 9), cong.Of(6, 3))}, {"set.1", true, "", value.Num(1)}, {"alone.1", false, "", api.Value{}}, {"set.2", true, "x", api.Value{}}, {"main.0", false, "x", value.Num(0)},
	} {
		s := New(program(lines...))
		_, err := s.Ask([]api.Key{k(x.l)}, plenty)
		if v := of(s, x.l, x.name); err != api.OK || key.Has(s.Stable(), k("main.1")) != x.main || !value.Same(v, x.want) {
			t.Error(x, v, err, texts(s.Stable()))
		}
	}
	// Without main there is nothing to ask besides.
	s := New(program(lines[:4]...))
	if _, err := s.Ask([]api.Key{k("g")}, plenty); err != api.OK || texts(s.Stable()) != "g" {
		t.Error(err, texts(s.Stable()))
	}
}

// P33.3
func TestMove(t *testing.T) {
	lines := []string{"int g;", "int h;", "int f() { g = 1; return 1; }", "int e() { g = 5; h = 2; return 2; }", "int other() { return 8; }", "int main() { f(); e(); return g; }"}
	p := program(lines...)
	s := New(p)
	l := []api.Key{k("g"), k("h"), k("other.1")}
	if _, err := s.Ask(l, plenty); err != api.OK || !value.Same(of(s, "g", ""), value.Join(value.Num(0), value.Join(value.Num(1), value.Num(5)))) {
		t.Fatal(err, of(s, "g", ""))
	}
	changed := slices.Clone(lines)
	changed[2] = "int f() { g = 3; return 1; }"
	evals := s.Evals()
	s.Move(program(changed...))
	if s.Evals() != evals {
		t.Error("an edit makes no evaluation")
	}
	// f and what has read f.1 is gone; g is restored from what remains of e: it was reached after f, and is gone too.
	table := " " + tableText(s) + " "
	for _, gone := range []string{"f.0", "f.1", "f.2", "main.1", "main.2"} {
		if strings.Contains(table, " "+gone+" ") || key.Has(s.Stable(), k(gone)) || key.Has(s.Points(), k(gone)) {
			t.Error("remains", gone, table)
		}
	}
	for _, kept := range []string{"other.0", "other.1", "main.0"} {
		if !key.Has(s.Stable(), k(kept)) {
			t.Error("is gone", kept, texts(s.Stable()))
		}
	}
	if n, err := s.Ask([]api.Key{k("other.1")}, 0); n != 0 || err != api.OK {
		t.Error(n, err)
	}
	if _, err := s.Ask(l, plenty); err != api.OK || !value.Same(of(s, "g", ""), value.Join(value.Num(0), value.Join(value.Num(3), value.Num(5)))) {
		t.Error(err, of(s, "g", ""))
	}
}

// P33.3: a global that loses one contribution keeps the others.
func TestRestore(t *testing.T) {
	lines := []string{"int g;", "int f() { g = 2; return 2; }", "int main() { int x; g = 9; x = f(); return x; }"}
	s := New(program(lines...))
	s.Ask([]api.Key{k("main.1"), k("g")}, plenty)
	if v := of(s, "g", ""); v.Span != span.Of(0, 9) || texts(s.Stable()) != "f.0 f.1 f.2 f.3 g main.0 main.1 main.2 main.3 main.4" {
		t.Error(v, texts(s.Stable()))
	}
	lines[1] = "int f() { return 2; }"
	s.Move(program(lines...))
	if v := of(s, "g", ""); !value.Same(v, value.Join(value.Num(0), value.Num(9))) || texts(s.Points()) != "g" || texts(s.Stable()) != "main.0 main.2 main.4" || tableText(s) != "g main.0 main.2 main.4" {
		t.Error(v, texts(s.Points()), "/", texts(s.Stable()), "/", tableText(s))
	}
	// What was restored depends on its origins again.
	lines[2] = "int main() { int x; x = f(); return x; }"
	s.Move(program(lines...))
	if tableText(s) != "" {
		t.Error(tableText(s))
	}
	// A stack that is not empty is cleared, and nothing remains stable.
	s.Ask([]api.Key{k("main.1")}, plenty)
	s.Push(k("f.1"))
	s.Move(program(lines...))
	if len(s.Stable()) > 0 || s.Step() != api.ErrEnd || tableText(s) != "f.0 f.1 f.2 main.0 main.1 main.2 main.3" {
		t.Error(texts(s.Stable()), tableText(s))
	}
}

// P33.3: what was forgotten begins anew, as in a new solver.
func TestForgotten(t *testing.T) {
	p := program("int main() { int x; int c; c = input(); while (c) { x = x + 1; c = input(); } return x; }")
	q := program("int main() { int x; int c; c = input(); while (c) { x = 7 * 7 - x; c = input(); } return x; }")
	s, fresh := New(p), New(q)
	l := []api.Key{k("main.1")}
	s.Ask(l, plenty)
	s.Move(q)
	if n, err := s.Ask(l, 1); n != 1 || err != api.ErrBudget {
		t.Error("counted from the beginning", n, err)
	}
	s = New(p)
	s.Ask(l, plenty)
	s.Move(q)
	s.Ask(l, plenty)
	fresh.Ask(l, plenty)
	if !sameTable(s.Table(), fresh.Table()) || texts(s.Points()) != texts(fresh.Points()) || !value.Same(of(s, "main.1", ""), value.Int(span.Of(0, 49), cong.Of(49, 0))) {
		t.Error(s.Table(), fresh.Table())
	}
}

// P33.3: what is no longer read or contributed does not count when it changes.
func TestOldDependencies(t *testing.T) {
	lines := []string{"int g;", "int f() { return 1; }", "int main() { int x; g = 7; x = f(); return x; }"}
	s := New(program(lines...))
	l := []api.Key{k("main.1"), k("g"), k("f.1")}
	s.Ask(l, plenty)
	lines[2] = "int main() { int x; x = 5; return x; }"
	s.Move(program(lines...))
	s.Ask(l, plenty)
	lines[1] = "int f() { return 2; }"
	s.Move(program(lines...))
	if got := texts(s.Stable()); got != "g main.0 main.1 main.2 main.3" {
		t.Error("f was read before", got)
	}
	lines[2] = "int main() { int x; x = 6; return x; }"
	s.Move(program(lines...))
	if got := texts(s.Stable()); got != "g" {
		t.Error("main added to g before", got)
	}
}

// T4: what is not connected is not evaluated again.
func TestReuse(t *testing.T) {
	lines := []string{"int a(int n) { int x; while (x < n) { x = x + 1; } return x; }", "int b() { int x; x = c(); return x; }", "int c() { return 3; }", "int main() { int x; x = a(9); return x; }"}
	s := New(program(lines...))
	for _, q := range []string{"a.1", "main.1", "b.1", "c.1"} {
		if _, err := s.Ask([]api.Key{k(q)}, plenty); err != api.OK {
			t.Fatal(q, err)
		}
	}
	lines[2] = "int c() { return 444; }"
	s.Move(program(lines...))
	for _, q := range []string{"a.1", "main.1"} {
		if n, err := s.Ask([]api.Key{k(q)}, 0); n != 0 || err != api.OK {
			t.Error(q, n, err)
		}
	}
	if n, _ := s.Ask([]api.Key{k("c.1")}, plenty); n == 0 {
		t.Error("c is evaluated again")
	}
}

// P33.4
func TestNil(t *testing.T) {
	var s *Solver
	s.Push(k("main.1"))
	s.Move(program("int main() { }"))
	n, err := s.Ask([]api.Key{k("main.1")}, 5)
	if s.Step() != api.ErrNil || n != 0 || err != api.ErrNil || len(s.Table())+len(s.Stable())+len(s.Points())+s.Evals() != 0 {
		t.Error("nil")
	}
}
