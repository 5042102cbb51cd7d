package reckon_test

import (
	"testing"

	"sondage/api"
	. "sondage/reckon"
	"sondage/span"
	"sondage/wide"
	"sondage/wrap"
)

const (
	least = -1 << 63
	most  = 1<<63 - 1
)

var ops = []int{api.ExpMul, api.ExpDiv, api.ExpRem, api.ExpAdd, api.ExpSub, api.ExpLt, api.ExpLe, api.ExpEq, api.ExpNe, api.ExpAnd, api.ExpOr}

func spansOf(bounds ...int) []api.Span {
	var l []api.Span
	for _, lo := range bounds {
		for _, hi := range bounds {
			if lo <= hi {
				l = append(l, span.Of(lo, hi))
			}
		}
	}
	return l
}

// P4.1
func TestWrap(t *testing.T) {
	of := wide.Of
	past := wide.Add(of(most), of(1))
	full := api.Wide{Hi: 1}
	for _, x := range []struct {
		lo, hi api.Wide
		want   api.Span
	}{
		{of(3), of(5), span.Of(3, 5)},
		{of(5), of(3), api.Span{}},
		{of(5), of(5), span.One(5)},
		{past, past, span.One(least)},
		{of(most), past, span.All()},
		{past, wide.Add(past, of(7)), span.Of(least, least+7)},
		{of(0), full, span.All()},
		{of(0), wide.Sub(full, of(1)), span.All()},
		{of(-5), wide.Sub(full, of(6)), span.All()},
		{full, wide.Add(full, of(4)), span.Of(0, 4)},
		{full, wide.Add(full, full), span.All()},
		{of(least), of(most), span.All()},
		{of(least), past, span.All()},
		{past, wide.Add(past, wide.Sub(full, of(1))), span.All()},
		{api.Wide{Hi: least}, api.Wide{Hi: most, Lo: 1<<64 - 1}, span.All()},
		{api.Wide{Hi: least}, api.Wide{}, span.All()},
	} {
		if s := Wrap(x.lo, x.hi); s != x.want {
			t.Error(x, s)
		}
	}
}

// P4.2: on small spans the result is what all ints of both yield (a remainder may be larger).
func TestSmallSpansExhaustively(t *testing.T) {
	small := spansOf(-4, -3, -2, -1, 0, 1, 2, 3)
	for _, op := range ops {
		for _, a := range small {
			for _, b := range small {
				got := Do(op, a, b)
				least := api.Span{}
				for x := a.Lo; x <= a.Hi; x++ {
					for y := b.Lo; y <= b.Hi; y++ {
						if n, err := wrap.Do(op, x, y); err == api.OK {
							least = span.Join(least, span.One(n))
						}
					}
				}
				if op == api.ExpRem {
					if !span.Leq(least, got) || span.None(least) != span.None(got) {
						t.Error(op, a, b, got, least)
					}
				} else if got != least {
					t.Error(op, a, b, got, least)
				}
			}
		}
	}
}

// P4.2, P4.5
func TestEdges(t *testing.T) {
	bounds := []int{least, least + 1, -7, -1, 0, 1, 2, 7, most - 1, most}
	for _, op := range ops {
		for _, a := range spansOf(bounds...) {
			for _, b := range spansOf(bounds...) {
				got := Do(op, a, b)
				if span.Clean(got) != got {
					t.Error("not clean", op, a, b, got)
				}
				for _, x := range append(bounds, 5, -5) {
					for _, y := range append(bounds, 3, -3) {
						n, err := wrap.Do(op, x, y)
						if span.Has(a, x) && span.Has(b, y) && err == api.OK && !span.Has(got, n) {
							t.Error("lost", op, a, b, x, y, got)
						}
					}
				}
				if n, err := wrap.Do(op, a.Lo, b.Lo); a.Lo == a.Hi && b.Lo == b.Hi {
					if err == api.OK && got != span.One(n) || err != api.OK && got != (api.Span{}) {
						t.Error("one int each", op, a, b, got)
					}
				}
			}
		}
	}
}

func TestNamedResults(t *testing.T) {
	of, one := span.Of, span.One
	for _, x := range []struct {
		op         int
		a, b, want api.Span
	}{
		{api.ExpMul, of(-2, 3), of(4, 5), of(-10, 15)},
		{api.ExpMul, of(1<<62, 1<<62), of(2, 3), of(least, -1<<62)},
		{api.ExpMul, of(1<<62, 1<<62), of(1, 3), span.All()},
		{api.ExpMul, one(1 << 62), of(4, 5), of(0, 1<<62)},
		{api.ExpAdd, one(most), one(1), one(least)},
		{api.ExpAdd, of(most-1, most), of(0, 1), span.All()},
		{api.ExpSub, of(0, 5), of(2, 9), of(-9, 3)},
		{api.ExpDiv, of(10, 20), of(0, 3), of(3, 20)},
		{api.ExpDiv, of(10, 20), of(-3, 3), of(-20, 20)},
		{api.ExpDiv, of(10, 20), one(0), api.Span{}},
		{api.ExpDiv, one(least), one(-1), one(least)},
		{api.ExpDiv, of(least, 0), one(-1), span.All()},
		{api.ExpRem, of(-9, 20), of(0, 4), of(-3, 3)},
		{api.ExpRem, of(-2, 20), of(-7, 4), of(-2, 6)},
		{api.ExpRem, of(3, 20), one(least), of(0, 20)},
		{api.ExpRem, of(-5, -1), of(least, 4), of(-5, 0)},
		{api.ExpRem, one(-7), one(2), one(-1)},
		{api.ExpRem, one(7), of(2, 3), of(0, 2)},
		{api.ExpRem, of(6, 7), one(1), one(0)},
		{api.ExpRem, of(6, 7), one(0), api.Span{}},
		{api.ExpAnd, one(0), of(-1, 1), one(0)},
		{api.ExpOr, of(-1, 1), of(0, 3), of(0, 1)},
	} {
		if s := Do(x.op, x.a, x.b); s != x.want {
			t.Error(x, s)
		}
	}
}

// P4.2, P4.3: larger spans have larger results.
func TestMonotone(t *testing.T) {
	some := spansOf(least, -3, 0, 2, most)
	for _, op := range ops {
		for _, a := range some {
			for _, b := range some {
				for _, c := range some {
					if span.Leq(a, c) && (!span.Leq(Do(op, a, b), Do(op, c, b)) || !span.Leq(Do(op, b, a), Do(op, b, c))) {
						t.Error(op, a, b, c)
					}
				}
			}
		}
	}
}

func TestNoInts(t *testing.T) {
	empty := []api.Span{{}, {Lo: 1, Hi: 2}, {Some: true, Lo: 2, Hi: 1}}
	for _, e := range empty {
		for _, op := range ops {
			if Do(op, e, span.One(3)) != (api.Span{}) || Do(op, span.One(3), e) != (api.Span{}) {
				t.Error(op, e)
			}
			if Traps(op, e) {
				t.Error("traps", op, e)
			}
		}
		if One(api.ExpNeg, e) != (api.Span{}) || One(api.ExpNot, e) != (api.Span{}) {
			t.Error("one", e)
		}
	}
	for _, op := range []int{-1, 0, api.ExpNum, api.ExpNeg, api.ExpNot, api.ExpNull, 99} {
		if Do(op, span.One(3), span.One(4)) != (api.Span{}) {
			t.Error("kind", op)
		}
	}
	for _, op := range []int{-1, 0, api.ExpNum, api.ExpMul, api.ExpSub, 99} {
		if One(op, span.One(3)) != (api.Span{}) {
			t.Error("kind", op)
		}
	}
}

// P4.3
func TestUnary(t *testing.T) {
	for _, x := range []struct {
		op      int
		a, want api.Span
	}{
		{api.ExpNeg, span.Of(-2, 5), span.Of(-5, 2)}, {api.ExpNeg, span.One(least), span.One(least)}, {api.ExpNeg, span.Of(least, 3), span.All()},
		{api.ExpNot, span.One(0), span.One(1)}, {api.ExpNot, span.Of(1, 5), span.One(0)}, {api.ExpNot, span.Of(-5, -1), span.One(0)}, {api.ExpNot, span.Of(-1, 1), span.Of(0, 1)}, {api.ExpNot, span.Of(0, 1), span.Of(0, 1)},
	} {
		if s := One(x.op, x.a); s != x.want {
			t.Error(x, s)
		}
	}
}

// P4.4
func TestTraps(t *testing.T) {
	for op := range 30 {
		divides := op == api.ExpDiv || op == api.ExpRem
		if Traps(op, span.Of(-1, 1)) != divides || Traps(op, span.One(0)) != divides || Traps(op, span.Of(1, 5)) || Traps(op, span.Of(-5, -1)) {
			t.Error(op)
		}
	}
}
