package web_test

import (
	"strings"
	"testing"

	"sondage/api"
	"sondage/key"
	"sondage/sample"
	. "sondage/web"
)

var (
	k     = sample.Key
	keys  = sample.Keys
	texts = sample.Show
)

// of makes a web of pairs like b>a: b depends on a.
func of(pairs string) *Web {
	w := New()
	for _, pair := range strings.Fields(pairs) {
		x, y, _ := strings.Cut(pair, ">")
		w.Add(k(x), k(y))
	}
	return w
}

// P29.1, P29.2
func TestPairs(t *testing.T) {
	w := of("b>a c>b d.0>b d.1>a d.0>b c>a e>e f>g g>f")
	for _, x := range []struct{ of, on, by string }{{"a", "", "b c d.1"}, {"b", "a", "c d.0"}, {"c", "a b", ""}, {"d.0", "b", ""}, {"d.1", "a", ""}, {"e", "e", "e"}, {"f", "g", "g"}, {"zz", "", ""}} {
		if on, by := texts(w.On(k(x.of))), texts(w.Of(k(x.of))); on != x.on || by != x.by {
			t.Error(x, on, by)
		}
	}
	for _, x := range []struct{ l, below, above string }{{"a", "a b c d.0 d.1", "a"}, {"b", "b c d.0", "a b"}, {"c d.1", "c d.1", "a b c d.1"}, {"f", "f g", "f g"}, {"e zz", "e zz", "e zz"}, {"", "", ""}, {"zz b zz", "b c d.0 zz", "a b zz"}} {
		if below, above := texts(w.Below(keys(x.l))), texts(w.Above(keys(x.l))); below != x.below || above != x.above {
			t.Error(x, below, above)
		}
	}
	w.Drop(k("b"))
	for _, x := range []struct{ of, on, by string }{{"a", "", "c d.1"}, {"b", "", ""}, {"c", "a", ""}, {"d.0", "", ""}} {
		if on, by := texts(w.On(k(x.of))), texts(w.Of(k(x.of))); on != x.on || by != x.by {
			t.Error("dropped", x, on, by)
		}
	}
	w.Drop(k("e"))
	w.Drop(k("f"))
	w.Drop(k("zz"))
	if texts(w.On(k("e")))+texts(w.Of(k("e")))+texts(w.On(k("g")))+texts(w.Of(k("g"))) != "" || texts(w.Below(keys("a"))) != "a c d.1" {
		t.Error("dropped")
	}
	w.Add(k("b"), k("c"))
	if texts(w.Above(keys("b"))) != "a b c" {
		t.Error("added again")
	}
	w.Clear()
	if texts(w.On(k("b")))+texts(w.Of(k("a"))) != "" || texts(w.Below(keys("a"))) != "a" {
		t.Error("cleared")
	}
	w.Add(k("x"), k("y"))
	if texts(w.On(k("x"))) != "y" || texts(w.Of(k("y"))) != "x" {
		t.Error("after clearing")
	}
}

// Keys are clean everywhere.
func TestCleanKeys(t *testing.T) {
	w := New()
	odd := func(name string) api.Key { return api.Key{Name: name, Node: -8} }
	w.Add(odd("x"), odd("y"))
	if l := w.On(odd("x")); len(l) != 1 || l[0] != k("y") {
		t.Error(l)
	}
	if l := w.Of(api.Key{Name: "y", Node: -3}); len(l) != 1 || l[0] != k("x") {
		t.Error(l)
	}
	if l := w.Below([]api.Key{odd("y"), k("y")}); texts(l) != "x y" || l[0].Node != -1 || l[1].Node != -1 {
		t.Error(l)
	}
	w.Drop(odd("y"))
	if len(w.On(k("x"))) > 0 {
		t.Error("drop")
	}
}

// P29.3
func TestNil(t *testing.T) {
	var w *Web
	w.Add(k("x"), k("y"))
	w.Drop(k("x"))
	w.Clear()
	l := []api.Key{k("y"), k("x"), {Name: "y", Node: -4}}
	if len(w.On(k("x")))+len(w.Of(k("y"))) > 0 || texts(w.Below(l)) != "x y" || texts(w.Above(l)) != "x y" {
		t.Error("nil")
	}
}

// P29.4
func TestDerived(t *testing.T) {
	w := New()
	var all []api.Key
	for i := range 9 {
		all = append(all, api.Key{Name: "n", Node: i})
	}
	for i := range 12 {
		w.Add(all[i*5%9], all[(i*i+3)%9])
	}
	w.Drop(all[4])
	for _, x := range all {
		below, above := w.Below([]api.Key{x}), w.Above([]api.Key{x})
		if texts(w.Below(below)) != texts(below) || texts(w.Above(above)) != texts(above) {
			t.Error(x)
		}
		for _, y := range all {
			if key.Has(w.On(x), y) != key.Has(w.Of(y), x) || key.Has(above, y) != key.Has(w.Below([]api.Key{y}), x) {
				t.Error(x, y)
			}
		}
	}
}
