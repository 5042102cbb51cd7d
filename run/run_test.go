package run_test

import (
	"strconv"
	"strings"
	"testing"

	"sondage/api"
	. "sondage/run"
	"sondage/sample"
)

var program = sample.Lines

func begun(t *testing.T, in []int, lines ...string) *Run {
	r, err := New(program(lines...), in)
	if err != api.OK {
		t.Fatal(lines, err)
	}
	return r
}

// finish steps until the last call is at its end, or until a trap; it returns the result of main.
func finish(r *Run) (int, api.Errno) {
	for range 100000 {
		if _, node := r.Where(); r.Deep() == 1 && node == 1 {
			w, _ := r.Local("")
			return w.N, api.OK
		}
		if err := r.Step(); err != api.OK {
			return 0, err
		}
	}
	return 0, api.ErrBudget
}

// P21.1
func TestNew(t *testing.T) {
	for _, x := range []struct {
		p   api.Program
		err api.Errno
	}{
		{program("int main() { }"), api.OK}, {program("int f() { }"), api.ErrNone}, {api.Program{}, api.ErrNone}, {program("int main(int x) { }"), api.ErrArg}, {program("int main(int x) { y = 1; }"), api.ErrNone}, {program("int f() { x = null; }"), api.ErrNone}, {program("int main() { int x; x = null; }"), api.ErrType}, {program("int x;", "int main() { int x; }"), api.ErrTwice},
	} {
		r, err := New(x.p, nil)
		if err != x.err || (r == nil) != (err != api.OK) {
			t.Error(x, r, err)
		}
	}
	r := begun(t, nil, "int g;", "int *p;", "int main() { int x; int *q; }")
	if name, node := r.Where(); name != "main" || node != 0 || r.Deep() != 1 || r.Failed() != 0 {
		t.Error(name, node)
	}
	for _, name := range []string{"x", "q"} {
		if w, ok := r.Local(name); !ok || w != (api.Word{Ptr: name == "q"}) {
			t.Error(name, w, ok)
		}
	}
	for _, name := range []string{"g", "p"} {
		if w, err := r.Global(api.Cell{Name: name}); err != api.OK || w != (api.Word{Ptr: name == "p"}) {
			t.Error(name, w, err)
		}
	}
}

// P21.2: what main returns.
func TestResults(t *testing.T) {
	for _, x := range []struct {
		want  int
		err   api.Errno
		lines []string
	}{
		{3, 0, []string{"int main() { return 3; }"}},
		{0, 0, []string{"int main() { }"}},
		{10, 0, []string{"int main() { int x; while (x < 10) { x = x + 2; } return x; }"}},
		{7, 0, []string{"int main() { int x; if (x) { x = 5; } else { x = 7; } return x; }"}},
		{5, 0, []string{"int main() { int x; x = -1; if (x) { x = 5; } else { x = 7; } return x; }"}},
		{120, 0, []string{"int fac(int n) { int r; if (n < 2) { return 1; } r = fac(n - 1); return n * r; }", "int main() { int x; x = fac(5); return x; }"}},
		{41, 0, []string{"int g;", "int a[3];", "int *p;", "int set(int *q, int v) { *q = v; return 0; }", "int main() { int z; p = &a[2]; set(p, 40); set(&g, 1); z = a[2] + g; return z; }"}},
		{12, 0, []string{"int g;", "int f() { return 12; }", "int main() { g = f(); return g; }"}},
		{9, 0, []string{"int g;", "int main() { g = input(); return g; }"}},
		{19, 0, []string{"int main() { int x; int y; int z; x = input(); y = input(); z = input(); return x + 2 * y + z; }"}},
		{6, 0, []string{"int a[2];", "int main() { a[1] = 6; a[0] = 5; return a[1]; }"}},
		{1, 0, []string{"int main() { int f; return 1; f = 1 / 0; return 2; }"}},
		{0, api.ErrZero, []string{"int main() { return 1 / 0; }"}}, {0, api.ErrIndex, []string{"int a[2];", "int main() { a[2] = 1; }"}}, {0, api.ErrIndex, []string{"int a[2];", "int main() { a[0 - 1] = 1; }"}}, {0, api.ErrIndex, []string{"int a[2];", "int main() { return a[2]; }"}}, {0, api.ErrNull, []string{"int *p;", "int main() { *p = 1; }"}}, {0, api.ErrNull, []string{"int main() { int *p; return *p; }"}},
		{0, api.ErrIndex, []string{"int a[2];", "int main() { a[1 / 1 + 1] = 1 % 1; }"}}, {0, api.ErrZero, []string{"int a[2];", "int main() { a[5] = 1 / 0; }"}}, {0, api.ErrZero, []string{"int *p;", "int main() { *p = 1 % 0; }"}}, {0, api.ErrMany, []string{"int main() { main(); }"}},
		{0, api.ErrZero, []string{"int main() { if (1 / 0) { } }"}}, {0, api.ErrZero, []string{"int main() { assert(1 % 0); }"}},
	} {
		r := begun(t, []int{9, 5}, x.lines...)
		if n, err := finish(r); n != x.want || err != x.err {
			t.Error(x, n, err)
		}
	}
}

// P21.2: a trap stays, and nothing else changes.
func TestTraps(t *testing.T) {
	r := begun(t, []int{4}, "int a[2];", "int main() { int x; a[0] = 8; x = 3; a[x] = 9; x = 5; }")
	for range 2 {
		if err := r.Step(); err != api.OK {
			t.Fatal(err)
		}
	}
	name, node := r.Where()
	for range 3 {
		if err := r.Step(); err != api.ErrIndex {
			t.Error(err)
		}
		w, _ := r.Local("x")
		v, _ := r.Global(api.Cell{Name: "a"})
		if n, at := r.Where(); n != name || at != node || w.N != 3 || v.N != 8 || r.Deep() != 1 {
			t.Error(n, at, w, v)
		}
	}
	r = begun(t, nil, "int main() { main(); }")
	for r.Step() == api.OK {
	}
	if r.Step() != api.ErrMany || r.Deep() != api.MaxFrames {
		t.Error(r.Deep())
	}
}

// P21.2: exactly MaxFrames calls may be active.
func TestManyCalls(t *testing.T) {
	for _, n := range []int{api.MaxFrames - 1, api.MaxFrames} {
		r := begun(t, nil, "int f(int n) { if (1 < n) { f(n - 1); } return 0; }", "int main() { f("+strconv.Itoa(n)+"); return 1; }")
		got, err := finish(r)
		if n < api.MaxFrames && (got != 1 || err != api.OK) || n == api.MaxFrames && err != api.ErrMany {
			t.Error(n, got, err)
		}
	}
}

// P21.2, P21.3: each step of a run with a call.
func TestSteps(t *testing.T) {
	r := begun(t, nil, "int f(int n) { return n + 1; }", "int main() { int x; x = f(4); assert(x == 4); assert(x); return x; }")
	var seen []string
	for range 20 {
		name, node := r.Where()
		x, ok := r.Local("x")
		result, at := r.Local("")
		seen = append(seen, name+"."+strconv.Itoa(node)+":"+strconv.Itoa(r.Deep())+","+strconv.Itoa(x.N)+","+strconv.FormatBool(ok)+","+strconv.Itoa(result.N)+","+strconv.FormatBool(at)+","+strconv.Itoa(r.Failed()))
		if err := r.Step(); err != api.OK {
			seen = append(seen, strconv.Itoa(int(err)))
			break
		}
	}
	want := "main.0:1,0,true,0,false,0 f.0:2,0,false,0,false,0 f.1:2,0,false,5,true,0 main.2:1,5,true,0,false,0 main.3:1,5,true,0,false,1 main.4:1,5,true,0,false,1 main.1:1,5,true,5,true,1 .0:0,0,false,0,false,1 14"
	if got := strings.Join(seen, " "); got != want {
		t.Error(got)
	}
	if err := r.Step(); err != api.ErrEnd {
		t.Error(err)
	}
}

// P21.2: the result of a call with and without a name.
func TestCallsWithoutName(t *testing.T) {
	r := begun(t, nil, "int g;", "int f() { g = g + 1; return 50; }", "int main() { int x; x = 2; f(); g = f(); return x; }")
	n, err := finish(r)
	w, _ := r.Global(api.Cell{Name: "g"})
	if n != 2 || err != api.OK || w.N != 50 {
		t.Error(n, err, w)
	}
}

// P21.3: the empty name is that of the result, even if a variable has it.
func TestEmptyName(t *testing.T) {
	p := program("int main() { int x; return 6; }")
	p.Funcs[0].Locals[0].Name = ""
	r, _ := New(p, nil)
	if w, ok := r.Local(""); ok || w.N != 0 {
		t.Error(w, ok)
	}
	r.Step()
	if w, ok := r.Local(""); !ok || w.N != 6 {
		t.Error(w, ok)
	}
}

// P21.3
func TestNil(t *testing.T) {
	var r *Run
	name, node := r.Where()
	w, ok := r.Local("x")
	v, err := r.Global(api.Cell{Name: "g"})
	if r.Step() != api.ErrNil || name != "" || node != 0 || r.Deep() != 0 || w != (api.Word{}) || ok || v != (api.Word{}) || err != api.ErrNil || r.Failed() != 0 {
		t.Error("nil")
	}
	r = begun(t, nil, "int main() { }")
	if _, err := r.Global(api.Cell{Name: "zz"}); err != api.ErrNone {
		t.Error(err)
	}
	if _, err := r.Global(api.Cell{}); err != api.ErrNull {
		t.Error(err)
	}
	if _, ok := r.Local("zz"); ok {
		t.Error("zz")
	}
}
