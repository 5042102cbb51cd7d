package session_test

import (
	"math/rand"
	"strconv"
	"strings"
	"testing"

	"sondage/api"
	"sondage/change"
	"sondage/key"
	. "sondage/session"
	"sondage/value"
)

// pool has edits of which many contradict one another.
var pool = []string{
	"int g;", "int g[3];", "int *g;", "int h;", "int h[2];", "int *p;", "int p;", "-g", "-h", "-p", "-f", "-e", "-main",
	"int f(int n) { g = n; return g; }", "int f(int n) { g[n] = 2; return g[0]; }", "int f(int n) { return n + h; }", "int f(int n) { int *q; q = &g; *q = n; return *q; }", "int f(int n) { int *q; q = &g[1]; *q = n; p = q; return 1; }", "int f(int n) { int x; x = e(n); return x; }", "int f(int n) { int x; x = e(n - 1); h = x; while (x < h) { x = x + 1; } return x; }", "int f(int n, int m) { return n; }", "int f(int n) { return 1; }", "int f(int n) { p = &h; return n; }", "int f(int n) { p = &g[n]; *p = 4; return n; }", "int f(int n) { g = &h; return 3; }", "int f(int n) { int x; x = f(n + 1); return x; }", "int f(int n) { int x; if (n < 5) { x = f(n + 1); } return x + 1; }",
	"int e(int n) { h = n; return h; }", "int e(int n) { if (p == null) { return 1; } *p = 8; return 2; }", "int e(int n) { int x; if (n < 3) { x = f(n + 1); } return x; }", "int e(int n) { int x; x = f(n); return x + 1; }", "int e(int n) { return 5; }", "int e(int n) { assert(n < 5); return h[n]; }", "int e(int n) { h[n] = g; return h[0]; }", "int e(int n) { g = p; return 1; }", "int e(int n) { p = g; return 1; }",
	"int main() { int x; x = f(1); return x; }", "int main() { int x; x = e(1); x = e(7); return x; }", "int main() { int x; x = input(); if (x < 4) { x = f(x); } else { x = e(x); } return x; }", "int main() { int x; while (x < 4) { x = f(x); e(x); x = x + 1; } return g; }", "int main() { f(2); return *p; }", "int main() { p = &g; *p = 9; return g; }", "int main() { return 1; }", "int main() { g = &h; p = g; *g = 3; e(1); return *p; }", "int main() { int *q; p = &g[0]; q = &g[0]; assert(p == q); if (p == q) { e(1); } else { f(1); } return 1; }",
}

// T1, T2, P39.5: any edits, of globals too, with queries in between.
func TestAnyEdits(t *testing.T) {
	accepted, answered := 0, 0
	for seed := range 100 {
		r := rand.New(rand.NewSource(int64(seed)))
		s := New()
		for _, text := range []string{"int g;", "int h;", "int *p;", "int f(int n) { return 1; }", "int e(int n) { return 5; }", "int main() { return 1; }"} {
			s.Do(edit(text))
		}
		for step := range 40 {
			line := pool[r.Intn(len(pool))]
			if s.Do(edit(line)).Err == api.OK {
				accepted++
			}
			if step%2 == 0 {
				continue
			}
			p := s.Program()
			l := queries(p, r.Intn(100))
			for range 2 {
				if len(l) == 0 {
					break
				}
				c := l[r.Intn(len(l))]
				a := s.Do(c)
				if a.Err == api.OK {
					answered++
					if wrong := partial(s, c); wrong != "" {
						t.Fatal(seed, step, c, wrong, text(s))
					}
				}
				b := s.Do(c)
				if b.Evals != 0 || b.Err != a.Err || b.Say != a.Say || !value.Same(a.Value, b.Value) {
					t.Fatal(seed, step, c, a, b)
				}
			}
			if step%10 == 1 {
				for i, m := range moments(p, []int{r.Intn(9), 3, -1}, 60) {
					if (i+seed)%6 == 0 {
						if wrong := contradiction(s, m); wrong != "" {
							t.Fatal(seed, step, wrong, text(s), key.Text(m.at))
						}
					}
				}
			}
		}
	}
	if accepted < 1000 || answered < 1000 {
		t.Error("few edits or answers", accepted, answered)
	}
}

// linked returns whether two functions are connected by calls, in either direction.
func linked(p api.Program, a, b string) bool {
	seen := map[string]int{a: 1}
	for range p.Funcs {
		for _, f := range p.Funcs {
			for _, caller := range change.Callers(p, f.Name) {
				if seen[f.Name]+seen[caller] > 0 {
					seen[f.Name], seen[caller] = 1, 1
				}
			}
		}
	}
	return seen[b] > 0
}

// body returns a function that calls some of a group.
func body(r *rand.Rand, name string, group []string) string {
	var b strings.Builder
	b.WriteString("int " + name + "() { int x; int y; ")
	for range r.Intn(4) {
		switch r.Intn(4) {
		case 0:
			b.WriteString("x = " + group[r.Intn(len(group))] + "(); ")
		case 1:
			b.WriteString("while (x < " + strconv.Itoa(r.Intn(30)) + ") { x = x + " + strconv.Itoa(1+r.Intn(3)) + "; y = y + x; } ")
		case 2:
			b.WriteString("x = input(); if (x < y) { y = " + group[r.Intn(len(group))] + "(); } ")
		default:
			b.WriteString("y = y - x * " + strconv.Itoa(r.Intn(9)) + "; ")
		}
	}
	b.WriteString("return x + y; }")
	return b.String()
}

// T4
func TestReuseOfAll(t *testing.T) {
	tried := 0
	for seed := range 60 {
		r := rand.New(rand.NewSource(int64(seed)))
		names := []string{"a", "b", "c", "d", "e", "main"}
		s := New()
		for _, name := range names {
			s.Do(edit("int " + name + "() { return 0; }"))
		}
		for range 30 {
			group := names[:3]
			name := names[r.Intn(len(names))]
			if name == "d" || name == "e" || name == "main" {
				group = names[3:]
			}
			if r.Intn(8) == 0 {
				group = names
			}
			query := names[r.Intn(len(names))]
			c := api.Command{Kind: api.CmdValue, Func: query, Node: 1}
			if r.Intn(2) == 0 {
				c = api.Command{Kind: api.CmdReach, Func: query, Node: r.Intn(6)}
			}
			before := s.Program()
			first := s.Do(c)
			if a := s.Do(edit(body(r, name, group))); a.Err != api.OK {
				t.Fatal(a)
			}
			after := s.Program()
			if first.Err != api.OK || name == query || linked(before, name, query) || linked(after, name, query) || linked(before, name, "main") || linked(after, name, "main") || name == "main" {
				continue
			}
			tried++
			if second := s.Do(c); second.Evals != 0 || second.Say != first.Say || !value.Same(first.Value, second.Value) {
				t.Fatal(seed, name, query, first, second)
			}
		}
	}
	if tried < 200 {
		t.Error("few reuses", tried)
	}
}
