package book_test

import (
	"testing"

	"sondage/api"
	. "sondage/book"
	"sondage/cell"
	"sondage/cong"
	"sondage/sample"
	"sondage/span"
	"sondage/value"
)

var (
	k     = sample.Key
	texts = sample.Show
)

func num(n int) api.State { return api.State{Val: value.Num(n)} }

func side(text string, n int) api.Side { return api.Side{Key: k(text), State: num(n)} }

func sides(l ...api.Side) []api.Side { return l }

// P30.1, P30.2
func TestBook(t *testing.T) {
	b := New()
	gap := api.State{Val: value.Int(span.Of(1, 5), cong.Of(4, 1))}
	for i, x := range []struct {
		x    string
		l    []api.Side
		keys string
		from string // of g
		sum  api.State
	}{
		{"x", sides(side("g", 1)), "g", "x", num(1)},
		{"y", sides(side("g", 5)), "g", "x y", gap},
		{"y", sides(side("g", 5)), "", "x y", gap},
		{"a.3", sides(side("h", 7), side("g", 1), side("f.0", 2)), "f.0 g h", "a.3 x y", gap},
		{"a.3", sides(side("h", 7), side("f.0", 3)), "f.0 g", "x y", gap},
		{"x", nil, "g", "y", num(5)},
		{"x", nil, "", "y", num(5)},
		{"x", sides(api.Side{Key: k("g")}), "", "y", num(5)},
		{"y", sides(side("g", 1), side("g", 5)), "g", "y", gap},
		{"y", sides(side("h", 5)), "g h", "", api.State{}},
		{"y", nil, "h", "", api.State{}},
	} {
		if got := texts(b.Put(k(x.x), x.l)); got != x.keys {
			t.Error(i, "put", got)
		}
		if got := texts(b.From(k("g"))); got != x.from {
			t.Error(i, "from", got)
		}
		if got := b.Sum(k("g")); !cell.Same(got, x.sum) || value.None(got.Val) != value.None(x.sum.Val) {
			t.Error(i, "sum", got)
		}
		record := cell.Sum(x.l)
		got := b.Of(k(x.x))
		if len(got) != len(record) {
			t.Fatal(i, "of", got)
		}
		for j, s := range record {
			if got[j].Key != s.Key || !cell.Same(got[j].State, s.State) || !cell.Leq(s.State, b.Sum(s.Key)) {
				t.Error(i, "of", got)
			}
		}
	}
	if l := b.Of(k("a.3")); len(l) != 2 || l[0].Key != k("f.0") || l[1].Key != k("h") {
		t.Error(l)
	}
	if len(b.Of(k("zz"))) > 0 || len(b.From(k("zz"))) > 0 || !cell.None(b.Sum(k("zz"))) {
		t.Error("nothing")
	}
}

// Keys are clean everywhere.
func TestCleanKeys(t *testing.T) {
	b := New()
	odd := func(name string) api.Key { return api.Key{Name: name, Node: -8} }
	l := b.Put(odd("x"), sides(api.Side{Key: odd("g"), State: num(1)}))
	if len(l) != 1 || l[0] != k("g") {
		t.Error(l)
	}
	if l := b.Put(k("x"), sides(side("g", 1))); len(l) != 0 {
		t.Error(l)
	}
	if l := b.From(odd("g")); len(l) != 1 || l[0] != k("x") {
		t.Error(l)
	}
	if !cell.Same(b.Sum(odd("g")), num(1)) || len(b.Of(odd("x"))) != 1 || b.Of(k("x"))[0].Key != k("g") {
		t.Error("odd")
	}
}

// P30.3
func TestNil(t *testing.T) {
	var b *Book
	if len(b.Put(k("x"), sides(side("g", 1)))) > 0 || len(b.Of(k("x"))) > 0 || len(b.From(k("g"))) > 0 || !cell.None(b.Sum(k("g"))) {
		t.Error("nil")
	}
}
