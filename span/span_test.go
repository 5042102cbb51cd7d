package span_test

import (
	"testing"

	"sondage/api"
	. "sondage/span"
)

const (
	least = -1 << 63
	most  = 1<<63 - 1
)

var bounds = []int{least, least + 1, -3, -1, 0, 1, 2, 5, most - 1, most}

// spans has clean and other spans, empty ones in several shapes.
func spans() []api.Span {
	l := []api.Span{{}, {Lo: 1, Hi: 5}, {Some: true, Lo: 3, Hi: 2}, {Some: true, Lo: most, Hi: least}}
	for _, lo := range bounds {
		for _, hi := range bounds {
			if lo <= hi {
				l = append(l, api.Span{Some: true, Lo: lo, Hi: hi})
			}
		}
	}
	return l
}

func clean(s api.Span) bool { return s == (api.Span{}) || s.Some && s.Lo <= s.Hi }

// in reports whether a span contains an int, as the chapter says it.
func in(s api.Span, n int) bool { return s.Some && s.Lo <= s.Hi && s.Lo <= n && n <= s.Hi }

// P3.1
func TestMaking(t *testing.T) {
	if Of(3, 5) != (api.Span{Some: true, Lo: 3, Hi: 5}) || Of(5, 3) != (api.Span{}) || One(4) != (api.Span{Some: true, Lo: 4, Hi: 4}) {
		t.Error("of")
	}
	if All() != (api.Span{Some: true, Lo: least, Hi: most}) {
		t.Error("all", All())
	}
	for _, a := range spans() {
		empty := true
		for _, n := range bounds {
			if Has(a, n) != in(a, n) {
				t.Error("has", a, n)
			}
			empty = empty && !in(a, n)
		}
		if None(a) != empty {
			t.Error("none", a)
		}
		if c := Clean(a); !clean(c) || empty && c != (api.Span{}) || !empty && c != a {
			t.Error("clean", a, c)
		}
	}
}

// P3.1, P3.2
func TestLattice(t *testing.T) {
	for _, a := range spans() {
		for _, b := range spans() {
			leq, same := true, true
			join, meet := Join(a, b), Meet(a, b)
			for _, n := range bounds {
				leq = leq && (!in(a, n) || in(b, n))
				same = same && in(a, n) == in(b, n)
				if in(meet, n) != (in(a, n) && in(b, n)) {
					t.Error("meet", a, b, meet)
				}
				if (in(a, n) || in(b, n)) && !in(join, n) {
					t.Error("join", a, b, join)
				}
			}
			if Leq(a, b) != leq || Same(a, b) != same {
				t.Error("leq, same", a, b)
			}
			if !clean(join) || !clean(meet) {
				t.Error("not clean", a, b, join, meet)
			}
			for _, c := range spans() {
				if Leq(a, c) && Leq(b, c) && !Leq(join, c) {
					t.Error("not the smallest", a, b, c, join)
				}
			}
		}
	}
	if Join(Of(1, 2), Of(5, 6)) != Of(1, 6) || Meet(Of(1, 2), Of(3, 4)) != (api.Span{}) {
		t.Error("gap")
	}
}

// P3.3
func TestWiden(t *testing.T) {
	ladder := []int{10, 3, -2, -20}
	for _, x := range []struct {
		a, b api.Span
		l    []int
		want api.Span
	}{
		{Of(0, 1), Of(0, 5), []int{3, 10}, Of(0, 10)},
		{api.Span{}, Of(2, 7), ladder, Of(2, 7)},
		{api.Span{Lo: 1, Hi: 2}, api.Span{Some: true, Lo: 2, Hi: 1}, ladder, api.Span{}},
		{Of(0, 5), Of(2, 3), ladder, Of(0, 5)},
		{Of(0, 5), api.Span{}, ladder, Of(0, 5)},
		{Of(0, 5), api.Span{Lo: -9, Hi: 9}, ladder, Of(0, 5)},
		{Of(0, 5), api.Span{Some: true, Lo: 9, Hi: -9}, ladder, Of(0, 5)},
		{Of(0, 5), Of(-1, 3), ladder, Of(-2, 5)},
		{Of(0, 5), Of(-2, 5), ladder, Of(-2, 5)},
		{Of(0, 5), Of(-3, 5), ladder, Of(-20, 5)},
		{Of(0, 5), Of(-21, 5), ladder, Of(least, 5)},
		{Of(0, 2), Of(0, 3), ladder, Of(0, 3)},
		{Of(0, 2), Of(1, 4), ladder, Of(0, 10)},
		{Of(0, 2), Of(1, 11), ladder, Of(0, most)},
		{Of(0, 2), Of(-1, 11), ladder, Of(-2, most)},
		{Of(0, 2), Of(-5, 1), nil, Of(least, 2)},
		{Of(0, 2), Of(7, 9), []int{8, 9, 9, 12}, Of(0, 9)},
	} {
		if s := Widen(x.a, x.b, x.l); s != x.want {
			t.Error(x, s)
		}
	}
}

// P3.4
func TestNarrow(t *testing.T) {
	for _, x := range []struct{ a, b, want api.Span }{
		{All(), Of(1, 5), Of(1, 5)},
		{Of(least, 9), Of(1, 5), Of(1, 9)},
		{Of(0, most), Of(1, 5), Of(0, 5)},
		{Of(0, 9), Of(1, 5), Of(0, 9)},
		{Of(0, 9), Of(1, 15), Of(0, 9)},
		{All(), api.Span{}, api.Span{}},
		{Of(0, 9), api.Span{Some: true, Lo: 2, Hi: 1}, api.Span{}},
		{api.Span{Some: true, Lo: 2, Hi: 1}, Of(1, 5), api.Span{}},
		{api.Span{}, api.Span{Lo: 4}, api.Span{}},
		{All(), All(), All()},
	} {
		if s := Narrow(x.a, x.b); s != x.want {
			t.Error(x, s)
		}
	}
}

// P3.5
func TestDerived(t *testing.T) {
	ladder := []int{-1, 0, 1, 5}
	for _, a := range spans() {
		for _, b := range spans() {
			wide, narrow := Widen(a, b, ladder), Narrow(a, b)
			if !Leq(a, wide) || !Leq(b, wide) || !clean(wide) {
				t.Error("widen", a, b, wide)
			}
			if !Leq(narrow, a) || Leq(b, a) && !Leq(b, narrow) || !clean(narrow) {
				t.Error("narrow", a, b, narrow)
			}
			if !Same(Join(a, b), Join(b, a)) || !Same(Meet(a, b), Meet(b, a)) || !Same(Join(a, Meet(a, b)), a) || !Same(Meet(a, Join(a, b)), a) {
				t.Error("laws", a, b)
			}
		}
	}
	l := spans()
	for from := range l {
		up, down, ups, downs := api.Span{}, All(), 0, 0
		for i := range 200 {
			b := l[(from+i*i*3+i)%len(l)]
			if next := Widen(up, b, ladder); next != up {
				up, ups = next, ups+1
			}
			if next := Narrow(down, b); next != down {
				down, downs = next, downs+1
			}
		}
		if ups > 2*len(ladder)+5 || downs > 3 {
			t.Error("changes", from, ups, downs)
		}
	}
}
