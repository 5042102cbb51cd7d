package spread_test

import (
	"strings"
	"testing"

	"sondage/api"
	"sondage/sample"
	. "sondage/spread"
	"sondage/web"
)

var (
	program = sample.Lines
	keys    = sample.Keys
	texts   = sample.Show
)

// of makes a web of pairs like b>a: b depends on a.
func of(pairs string) *web.Web {
	w := web.New()
	for _, pair := range strings.Fields(pairs) {
		x, y, _ := strings.Cut(pair, ">")
		w.Add(keys(x)[0], keys(y)[0])
	}
	return w
}

var (
	before = program("int g;", "int h;", "int main() { h = 1; f(); }", "int f() { return 1; }", "int e() { return g; }")
	after  = program("int g;", "int h;", "int main() { h = 1; f(); }", "int f() { return 2; }", "int e() { return g; }")
	global = program("int g[3];", "int h;", "int main() { h = 1; f(); }", "int f() { return 1; }", "int e() { return g; }")
)

// P32.1
func TestBegin(t *testing.T) {
	known := keys("main.3 f.1 f.0 f g g.0 h e.2 f.1 zz.1 e main")
	for _, x := range []struct {
		p, q api.Program
		want string
	}{{before, after, "f.0 f.1"}, {after, before, "f.0 f.1"}, {before, before, ""}, {before, global, "e.2 g"}, {global, after, "e.2 f.0 f.1 g"}, {before, api.Program{}, "e.2 f.0 f.1 g h main.3"}, {api.Program{}, api.Program{}, ""}} {
		if got := texts(Begin(x.p, x.q, known)); got != x.want {
			t.Error(x, got)
		}
	}
	if l := Begin(before, global, []api.Key{{Name: "g", Node: -6}, {Name: "g", Node: -1}}); len(l) != 1 || l[0].Node != -1 {
		t.Error(l)
	}
	if len(Begin(before, after, nil)) != 0 {
		t.Error("nothing known")
	}
}

// P32.2
func TestOf(t *testing.T) {
	for _, x := range []struct{ reads, adds, known, want string }{
		{"main.3>f.1 main.1>main.4", "g>main.3", "f.0 f.1 f.2 main.3 g h", "f.0 f.1 f.2 g main.3"},
		{"", "", "f.0 main.3", "f.0"},
		{"main.3>f.1", "", "f.0 main.3", "f.0"},
		{"main.3>f.0", "", "f.0", "f.0 main.3"},
		{"main.3>f.0 e.1>g x.1>h", "g>main.3 h>e.1", "f.0", "e.1 f.0 g h main.3 x.1"},
		{"e.2>e.1", "g>f.0 e.1>g", "f.0 e.2", "e.1 e.2 f.0 g"},
		{"f.0>g h>g", "f.0>h", "f.0 g h", "f.0"},
		{"main.3>main.4 main.4>main.3", "main.3>main.3", "main.3", ""},
	} {
		if got := texts(Of(before, after, of(x.reads), of(x.adds), keys(x.known))); got != x.want {
			t.Error(x, got)
		}
		if got := Of(before, before, of(x.reads), of(x.adds), keys(x.known)); len(got) != 0 {
			t.Error("no change", x, got)
		}
	}
	if got := texts(Of(before, after, nil, of("g>f.0"), keys("f.0"))); got != "f.0 g" {
		t.Error(got)
	}
	if got := texts(Of(before, after, of("h>f.0"), nil, keys("f.0 h"))); got != "f.0 h" {
		t.Error(got)
	}
	if got := texts(Of(before, after, nil, nil, keys("f.0 f.0"))); got != "f.0" {
		t.Error(got)
	}
}

// P32.3: what is not returned does not depend on what is.
func TestClosed(t *testing.T) {
	reads, adds := of("a.1>f.0 b.2>a.1 c.1>d.1 g>c.1"), of("h>b.2 d.1>h e.1>e.1")
	l := Of(before, after, reads, adds, keys("a.1 b.2 c.1 d.1 e.1 f.0 g h"))
	if texts(l) != "a.1 b.2 c.1 d.1 f.0 g h" {
		t.Error(texts(l))
	}
	for _, w := range []*web.Web{reads, adds} {
		if texts(w.Below(l)) != texts(l) {
			t.Error(texts(w.Below(l)))
		}
	}
}
