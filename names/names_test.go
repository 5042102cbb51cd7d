package names_test

import (
	"slices"
	"testing"

	"sondage/api"
	. "sondage/names"
)

// sets has clean sets and others.
func sets() []api.Set {
	var l []api.Set
	for _, null := range []bool{false, true} {
		for _, names := range [][]string{nil, {}, {"a"}, {"b"}, {"a", "b"}, {"b", "a"}, {"a", "a"}, {"c", "a", "b", "a"}, {""}, {"B", "a"}, {"ab", "a"}} {
			l = append(l, api.Set{Null: null, Names: names})
		}
	}
	return l
}

// elements returns what a set contains, with null as a name that no set has.
func elements(s api.Set) map[string]int {
	m := map[string]int{}
	for _, name := range s.Names {
		m[name] = 1
	}
	if s.Null {
		m["*null"] = 1
	}
	return m
}

func clean(s api.Set) bool {
	for i := range s.Names {
		if i > 0 && s.Names[i-1] >= s.Names[i] {
			return false
		}
	}
	return len(s.Names) == cap(s.Names)
}

func equal(a, b api.Set) bool { return a.Null == b.Null && slices.Equal(a.Names, b.Names) }

// P7.1
func TestMaking(t *testing.T) {
	if s := Of(true, "b", "a", "b", "B"); !equal(s, api.Set{Null: true, Names: []string{"B", "a", "b"}}) || !clean(s) {
		t.Error(s)
	}
	for _, s := range sets() {
		m := elements(s)
		if c := Clean(s); !clean(c) || !Same(c, s) || Len(c) != len(m) {
			t.Error("clean", s, c)
		}
		if None(s) != (len(m) == 0) || Len(s) != len(m) {
			t.Error("none, len", s)
		}
		for _, name := range []string{"a", "b", "c", "B", "ab", "x"} {
			if Has(s, name) != (m[name] == 1) {
				t.Error("has", s, name)
			}
		}
		if Has(s, "") != s.Null {
			t.Error("has null", s)
		}
	}
}

// P7.2, P7.4
func TestLattice(t *testing.T) {
	for _, a := range sets() {
		for _, b := range sets() {
			x, y := elements(a), elements(b)
			leq, union := true, len(y)
			var common int
			for name := range x {
				leq = leq && y[name] == 1
				common += y[name]
				union += 1 - y[name]
			}
			join, meet := Join(a, b), Meet(a, b)
			if Leq(a, b) != leq || Same(a, b) != (leq && len(x) == len(y)) {
				t.Error("leq, same", a, b)
			}
			if !clean(join) || !Leq(a, join) || !Leq(b, join) || Len(join) != union {
				t.Error("join", a, b, join)
			}
			if !clean(meet) || !Leq(meet, a) || !Leq(meet, b) || Len(meet) != common {
				t.Error("meet", a, b, meet)
			}
			if !equal(join, Join(b, a)) || !equal(meet, Meet(b, a)) {
				t.Error("order", a, b)
			}
		}
		without := Without(a, true)
		if without.Null || !clean(without) || !equal(without, Of(false, a.Names...)) || !equal(Without(a, false), Clean(a)) {
			t.Error("without", a)
		}
	}
}

// P7.3
func TestOnlyAndEqual(t *testing.T) {
	for _, x := range []struct {
		s    api.Set
		name string
		ok   bool
	}{{Of(false, "a"), "a", true}, {Of(true, "a"), "", false}, {Of(false), "", false}, {Of(true), "", false}, {Of(false, "a", "b"), "", false}, {api.Set{Names: []string{"a", "a"}}, "a", true}} {
		if name, ok := Only(x.s); name != x.name || ok != x.ok {
			t.Error(x, name, ok)
		}
	}
	for _, x := range []struct {
		a, b      api.Set
		can, must bool
	}{
		{Of(false, "a"), Of(false, "a"), true, true},
		{Of(true), Of(true), true, true},
		{Of(true, "a"), Of(true, "a"), true, false},
		{Of(false, "a", "b"), Of(false, "a"), true, false},
		{Of(false, "a"), Of(false, "a", "b"), true, false},
		{Of(false, "a"), Of(false, "b"), false, false},
		{Of(true), Of(false, "a"), false, false},
		{Of(false), Of(false), false, false},
		{Of(false), Of(true, "a"), false, false},
		{api.Set{Names: []string{"a", "a"}}, Of(false, "a"), true, true},
	} {
		if can, must := Equal(x.a, x.b); can != x.can || must != x.must {
			t.Error(x, can, must)
		}
	}
}

// P7.4
func TestFewChanges(t *testing.T) {
	l := sets()
	s, changes := api.Set{}, 0
	for i := range 100 {
		if next := Join(s, l[i*i%len(l)]); !Same(next, s) {
			s, changes = next, changes+1
		}
	}
	if changes > 7 {
		t.Error(changes)
	}
}

// R3
func TestArgumentsStay(t *testing.T) {
	l := []string{"c", "a", "b"}
	s := api.Set{Names: l}
	Of(true, l...)
	Clean(s)
	Join(s, s)
	Meet(s, s)
	Without(s, true)
	Len(s)
	if !slices.Equal(l, []string{"c", "a", "b"}) {
		t.Error(l)
	}
}
