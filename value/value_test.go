package value_test

import (
	"reflect"
	"testing"

	"sondage/api"
	"sondage/cong"
	"sondage/names"
	"sondage/span"
	. "sondage/value"
)

const (
	least = -1 << 63
	most  = 1<<63 - 1
)

// values has clean values and others.
func values() []api.Value {
	var l []api.Value
	for _, s := range []api.Span{{}, {Lo: 1, Hi: 2}, {Some: true, Lo: 3, Hi: 1}, span.One(4), span.Of(-3, 9), span.Of(2, 3), span.Of(least, 5), span.Of(-2, most), span.All()} {
		for _, c := range []api.Cong{{}, {M: 3}, cong.All(), {Some: true, M: 4, R: 9}, cong.One(4), cong.One(77), cong.Of(6, 2), {Some: true, M: -2}} {
			for _, p := range []api.Set{{}, {Null: true}, {Names: []string{"b", "a", "b"}}} {
				l = append(l, api.Value{Span: s, Cong: c, Set: p})
			}
		}
	}
	return l
}

func isClean(v api.Value) bool {
	if v.Span.Some != v.Cong.Some {
		return false
	}
	return v.Span == span.Clean(v.Span) && v.Cong == cong.Clean(v.Cong) && equalNames(v.Set, names.Clean(v.Set))
}

func equalNames(a, b api.Set) bool {
	return a.Null == b.Null && len(a.Names) == len(b.Names) && (len(a.Names) == 0 || reflect.DeepEqual(a.Names, b.Names))
}

func equal(a, b api.Value) bool {
	return a.Span == b.Span && a.Cong == b.Cong && equalNames(a.Set, b.Set)
}

var points = []int{least, least + 1, least + 2, least + 3, least + 4, -4, -3, -2, -1, 0, 1, 2, 3, 4, 5, 6, 7, 8, 9, 10, most - 2, most - 1, most}

// P8.1
func TestMaking(t *testing.T) {
	for _, x := range []struct{ got, want api.Value }{
		{Num(7), api.Value{Span: span.One(7), Cong: cong.One(7)}},
		{Ints(), api.Value{Span: span.All(), Cong: cong.All()}},
		{Int(span.Of(0, 10), cong.Of(4, 1)), api.Value{Span: span.Of(1, 9), Cong: cong.Of(4, 1)}},
		{Ptr(api.Set{Null: true, Names: []string{"b", "a"}}), api.Value{Set: names.Of(true, "a", "b")}},
		{Zero(true), api.Value{Set: names.Of(true)}},
		{Zero(false), Num(0)},
	} {
		if !equal(x.got, x.want) {
			t.Error(x)
		}
	}
	for _, v := range values() {
		c := Clean(v)
		noInts := span.None(v.Span) || cong.None(v.Cong)
		if !isClean(c) || span.None(c.Span) != noInts || !names.Same(c.Set, v.Set) || !noInts && c.Span != v.Span {
			t.Error("clean", v, c)
		}
		if None(v) != (noInts && names.None(v.Set)) {
			t.Error("none", v)
		}
		for _, n := range points {
			if HasInt(v, n) != (span.Has(v.Span, n) && cong.Has(v.Cong, n)) || HasInt(c, n) != HasInt(v, n) {
				t.Error("has", v, n)
			}
		}
		for _, name := range []string{"", "a", "b", "c"} {
			if HasPtr(v, name) != names.Has(v.Set, name) {
				t.Error("pointer", v, name)
			}
		}
	}
	empty := api.Value{Span: span.One(3), Cong: cong.One(4)}
	if None(empty) || !None(Reduce(empty)) {
		t.Error("only Reduce looks for ints in both")
	}
}

// P8.2, P8.5
func TestReduce(t *testing.T) {
	for _, v := range values() {
		r := Reduce(v)
		if !isClean(r) || !equal(Reduce(r), r) || !names.Same(r.Set, v.Set) {
			t.Error("reduce", v, r)
		}
		for _, n := range points {
			if HasInt(r, n) != HasInt(v, n) {
				t.Error("changed", v, r, n)
			}
		}
		if r.Span.Some && (!HasInt(r, r.Span.Lo) || !HasInt(r, r.Span.Hi)) {
			t.Error("bounds", v, r)
		}
		if r.Span.Some && r.Span.Lo == r.Span.Hi && r.Cong != cong.One(r.Span.Lo) {
			t.Error("one int", v, r)
		}
	}
	for _, x := range []struct {
		s    api.Span
		c    api.Cong
		want api.Value
	}{
		{span.Of(0, 3), cong.Of(4, 2), Num(2)},
		{span.Of(3, 5), cong.Of(4, 2), api.Value{}},
		{span.Of(3, 5), cong.One(4), Num(4)},
		{span.Of(3, 5), cong.One(6), api.Value{}},
		{span.Of(3, 5), cong.Of(2, 1), api.Value{Span: span.Of(3, 5), Cong: cong.Of(2, 1)}},
		{span.All(), cong.Of(5, 0), api.Value{Span: span.Of(least+3, most-2), Cong: cong.Of(5, 0)}},
		{span.Of(most-1, most), cong.Of(most, 0), Num(most)},
		{span.Of(most-1, most), cong.Of(most, 5), api.Value{}},
		{span.Of(least, least+1), cong.Of(most, 5), api.Value{}},
		{span.Of(least, -1), cong.Of(most, most-1), api.Value{Span: span.Of(least, -1), Cong: cong.Of(most, most-1)}},
	} {
		if v := Int(x.s, x.c); !equal(v, x.want) {
			t.Error(x, v)
		}
	}
	if v := Reduce(api.Value{Span: span.One(3), Cong: cong.One(4), Set: names.Of(true)}); !equal(v, Zero(true)) {
		t.Error("pointers stay", v)
	}
}

// P8.3, P8.4, P8.5
func TestLattice(t *testing.T) {
	ladder := []int{-5, 0, 8}
	for _, a := range values() {
		for _, b := range values() {
			x, y := Clean(a), Clean(b)
			leq := span.Leq(x.Span, y.Span) && cong.Leq(x.Cong, y.Cong) && names.Leq(x.Set, y.Set)
			if Leq(a, b) != leq || Same(a, b) != (leq && Leq(b, a)) {
				t.Error("leq, same", a, b)
			}
			join, meet, widen, narrow := Join(a, b), Meet(a, b), Widen(a, b, ladder), Narrow(a, b)
			if !isClean(join) || !isClean(meet) || !isClean(widen) || !isClean(narrow) {
				t.Error("not clean", a, b, join, meet, widen, narrow)
			}
			if !equal(join, api.Value{Span: span.Join(x.Span, y.Span), Cong: cong.Join(x.Cong, y.Cong), Set: names.Join(x.Set, y.Set)}) {
				t.Error("join", a, b, join)
			}
			if !equal(widen, api.Value{Span: span.Widen(x.Span, y.Span, ladder), Cong: cong.Join(x.Cong, y.Cong), Set: names.Join(x.Set, y.Set)}) {
				t.Error("widen", a, b, widen)
			}
			for _, n := range points {
				if HasInt(meet, n) != (HasInt(a, n) && HasInt(b, n)) || (HasInt(a, n) || HasInt(b, n)) && !(HasInt(join, n) && HasInt(widen, n)) {
					t.Error("ints", a, b, n)
				}
			}
			for _, name := range []string{"", "a", "b"} {
				if HasPtr(meet, name) != (HasPtr(a, name) && HasPtr(b, name)) || HasPtr(join, name) != (HasPtr(a, name) || HasPtr(b, name)) {
					t.Error("pointers", a, b, name)
				}
			}
			if !equal(Reduce(meet), meet) {
				t.Error("meet is reduced", a, b, meet)
			}
			if !Leq(narrow, a) || Leq(b, a) && !Leq(b, narrow) || !Leq(b, a) && !equal(narrow, x) {
				t.Error("narrow", a, b, narrow)
			}
		}
	}
}

// P8.4
func TestNarrow(t *testing.T) {
	set := names.Of(true, "a")
	of := func(s api.Span, c api.Cong, p api.Set) api.Value { return api.Value{Span: s, Cong: c, Set: p} }
	for _, x := range []struct{ a, b, want api.Value }{
		{Ints(), Num(4), Num(4)},
		{of(span.Of(0, most), cong.All(), set), of(span.Of(2, 8), cong.Of(2, 0), names.Of(true)), of(span.Of(0, 8), cong.Of(2, 0), set)},
		{of(span.Of(0, most), cong.Of(2, 0), set), of(span.Of(2, 8), cong.Of(6, 2), api.Set{}), of(span.Of(0, 8), cong.Of(2, 0), set)},
		{of(span.Of(0, 9), cong.All(), set), api.Value{}, api.Value{}},
		{of(span.Of(0, 9), cong.All(), set), Ptr(set), Ptr(set)},
		{of(span.Of(0, 9), cong.Of(3, 0), set), Ptr(names.Of(true)), Ptr(set)},
		{Num(3), Ints(), Num(3)},
		{Ptr(set), Num(3), Ptr(set)},
		{api.Value{}, api.Value{}, api.Value{}},
	} {
		if v := Narrow(x.a, x.b); !equal(v, x.want) {
			t.Error(x, v)
		}
	}
}

// P8.5
func TestFewChanges(t *testing.T) {
	l, ladder := values(), []int{-5, 0, 8}
	for from := range l {
		v, changes := api.Value{}, 0
		for i := range 300 {
			if next := Widen(v, l[(from+i*i*7+i)%len(l)], ladder); !Same(next, v) {
				v, changes = next, changes+1
			}
		}
		if changes > 2*len(ladder)+2+71 {
			t.Error(from, changes)
		}
	}
}
