package calc_test

import (
	"reflect"
	"testing"

	"sondage/api"
	. "sondage/calc"
	"sondage/cong"
	"sondage/names"
	"sondage/reckon"
	"sondage/residue"
	"sondage/span"
	"sondage/value"
	"sondage/wrap"
)

const (
	least = -1 << 63
	most  = 1<<63 - 1
)

var points = []int{least, least + 1, -6, -5, -4, -3, -2, -1, 0, 1, 2, 3, 4, 5, 6, most - 1, most}

func spans() []api.Span {
	l := []api.Span{{}, {Some: true, Lo: 2, Hi: 1}}
	for _, lo := range []int{least, -3, -1, 0, 2, most} {
		for _, hi := range []int{least, -1, 0, 3, most - 1, most} {
			if lo <= hi {
				l = append(l, span.Of(lo, hi))
			}
		}
	}
	return l
}

func values() []api.Value {
	var l []api.Value
	for _, s := range spans() {
		for _, c := range []api.Cong{cong.All(), cong.Of(3, 1), {Some: true, M: 2, R: -2}} {
			l = append(l, api.Value{Span: s, Cong: c})
		}
		l = append(l, value.Int(s, cong.All()))
	}
	return l
}

func equal(a, b api.Value) bool {
	return a.Span == b.Span && a.Cong == b.Cong && a.Set.Null == b.Set.Null && (len(a.Set.Names) == 0 && len(b.Set.Names) == 0 || reflect.DeepEqual(a.Set.Names, b.Set.Names))
}

// P9.1
func TestWraps(t *testing.T) {
	of, one := span.Of, span.One
	for _, x := range []struct {
		op   int
		a, b api.Span
		want bool
	}{
		{api.ExpAdd, of(0, most), of(0, 1), true}, {api.ExpAdd, of(0, most), of(-5, 0), false}, {api.ExpAdd, of(least, 0), of(-1, 5), true},
		{api.ExpSub, of(0, most), of(-1, 0), true}, {api.ExpSub, of(least, 0), of(0, 1), true}, {api.ExpSub, of(least, -1), one(least), false}, {api.ExpSub, of(-5, 0), one(least), true},
		{api.ExpMul, of(-2, 3), of(1<<62, 1<<62), true}, {api.ExpMul, of(-2, 1), one(1 << 62), false}, {api.ExpMul, of(least, -1), of(-1, 1), true}, {api.ExpMul, of(least, -1), of(0, 1), false},
		{api.ExpDiv, of(least, 4), of(-3, 3), true}, {api.ExpDiv, of(least+1, 4), of(-3, 3), false}, {api.ExpDiv, of(least, 4), of(1, 3), false},
		{api.ExpRem, of(least, 4), of(-3, 3), false}, {api.ExpLt, span.All(), span.All(), false}, {api.ExpNeg, span.All(), span.All(), false}, {99, span.All(), span.All(), false},
		{api.ExpAdd, api.Span{}, span.All(), false}, {api.ExpMul, span.All(), api.Span{Some: true, Lo: 3, Hi: 1}, false}, {api.ExpDiv, one(least), api.Span{Lo: -1, Hi: -1}, false},
	} {
		if got := Wraps(x.op, x.a, x.b); got != x.want {
			t.Error(x, got)
		}
	}
}

// P9.2, P9.5
func TestInts(t *testing.T) {
	for op := api.ExpMul - 1; op <= api.ExpOr+1; op++ {
		for _, a := range values() {
			for _, b := range values() {
				got := Do(op, a, b)
				x, y := value.Clean(a), value.Clean(b)
				want := value.Int(reckon.Do(op, x.Span, y.Span), residue.Do(op, x.Cong, y.Cong, Wraps(op, x.Span, y.Span)))
				if !equal(got, want) {
					t.Error("do", op, a, b, got, want)
				}
				for _, m := range points {
					for _, n := range points {
						if !value.HasInt(a, m) || !value.HasInt(b, n) {
							continue
						}
						if r, err := wrap.Do(op, m, n); err == api.OK && !value.HasInt(got, r) {
							t.Error("lost", op, a, b, m, n, got)
						}
					}
				}
			}
		}
		for _, m := range points {
			for _, n := range points {
				want := api.Value{}
				if r, err := wrap.Do(op, m, n); err == api.OK {
					want = value.Num(r)
				}
				if got := Do(op, value.Num(m), value.Num(n)); !equal(got, want) {
					t.Error("one int each", op, m, n, got)
				}
			}
		}
	}
	if v := Do(api.ExpAdd, value.Num(1), value.Num(2)); !equal(v, value.Num(3)) {
		t.Error(v)
	}
}

// P9.2
func TestPointers(t *testing.T) {
	ptr := func(null bool, l ...string) api.Value { return value.Ptr(names.Of(null, l...)) }
	bit := value.Int(span.Of(0, 1), cong.All())
	for _, x := range []struct {
		a, b   api.Value
		many   []string
		eq, ne api.Value
	}{
		{ptr(false, "a"), ptr(false, "a"), nil, value.Num(1), value.Num(0)},
		{ptr(false, "a"), ptr(false, "a"), []string{"b", "a"}, bit, bit},
		{ptr(false, "a"), ptr(false, "a"), []string{"b"}, value.Num(1), value.Num(0)},
		{ptr(true), ptr(true), []string{"a", ""}, value.Num(1), value.Num(0)},
		{ptr(false, "a"), ptr(true), nil, value.Num(0), value.Num(1)},
		{ptr(false, "a"), ptr(false, "b"), []string{"a", "b"}, value.Num(0), value.Num(1)},
		{ptr(true, "a"), ptr(true), nil, bit, bit},
		{ptr(false), ptr(true), nil, api.Value{}, api.Value{}},
		{ptr(true), value.Num(0), nil, api.Value{}, api.Value{}},
		{value.Join(ptr(true), value.Num(5)), value.Join(ptr(false, "a"), value.Num(5)), nil, bit, bit},
		{value.Join(ptr(true), value.Num(5)), ptr(true), nil, value.Num(1), value.Num(0)},
	} {
		if eq, ne := Do(api.ExpEq, x.a, x.b, x.many...), Do(api.ExpNe, x.a, x.b, x.many...); !equal(eq, x.eq) || !equal(ne, x.ne) {
			t.Error(x, eq, ne)
		}
		if lt := Do(api.ExpLt, x.a, x.b, x.many...); lt.Set.Null || len(lt.Set.Names) > 0 || !equal(lt, Do(api.ExpLt, api.Value{Span: x.a.Span, Cong: x.a.Cong}, x.b)) {
			t.Error("lt", x, lt)
		}
	}
}

// P9.3
func TestUnary(t *testing.T) {
	for _, a := range values() {
		x := value.Clean(a)
		neg := value.Int(reckon.One(api.ExpNeg, x.Span), residue.One(api.ExpNeg, x.Cong, span.Has(x.Span, least)))
		if got := One(api.ExpNeg, a); !equal(got, neg) {
			t.Error("neg", a, got, neg)
		}
		not := value.Int(reckon.One(api.ExpNot, x.Span), residue.One(api.ExpNot, x.Cong, false))
		if got := One(api.ExpNot, a); !equal(got, not) {
			t.Error("not", a, got, not)
		}
		if !value.None(One(api.ExpSub, a)) {
			t.Error("other kind", a)
		}
		some, zero := false, false
		for _, n := range points {
			some, zero = some || n != 0 && value.HasInt(a, n), zero || n == 0 && value.HasInt(a, n)
		}
		if s, z := Truth(a); s != some || z != zero {
			t.Error("truth", a, s, z)
		}
	}
	if s, z := Truth(value.Zero(true)); s || z {
		t.Error("truth of null")
	}
	if s, z := Truth(api.Value{Span: span.Of(-1, 1), Cong: cong.Of(2, 0)}); s || !z {
		t.Error("truth of 0 among -1 to 1")
	}
	if v := One(api.ExpNeg, value.Zero(true)); !value.None(v) {
		t.Error("neg of null", v)
	}
}

// P9.4, P9.5
func TestRefineInts(t *testing.T) {
	for op := api.ExpLt; op <= api.ExpNe; op++ {
		for _, a := range values() {
			for _, b := range values() {
				x, y := Refine(op, a, b)
				if (span.None(a.Span) || span.None(b.Span)) && !(value.None(x) && value.None(y)) {
					t.Error("no ints", op, a, b, x, y)
				}
				if !value.Leq(x, a) || !value.Leq(y, b) || !equal(x, value.Reduce(x)) || !equal(y, value.Reduce(y)) {
					t.Error("not less", op, a, b, x, y)
				}
				for _, m := range points {
					for _, n := range points {
						if r, _ := wrap.Do(op, m, n); r == 1 && value.HasInt(a, m) && value.HasInt(b, n) && !(value.HasInt(x, m) && value.HasInt(y, n)) {
							t.Error("lost", op, a, b, m, n, x, y)
						}
					}
				}
			}
		}
	}
	in := func(lo, hi int) api.Value { return value.Int(span.Of(lo, hi), cong.All()) }
	even := value.Int(span.Of(0, 10), cong.Of(2, 0))
	none := api.Value{}
	for _, x := range []struct {
		op         int
		a, b, c, d api.Value
	}{
		{api.ExpLt, in(0, 10), in(5, 7), in(0, 6), in(5, 7)},
		{api.ExpLt, in(5, 7), in(0, 10), in(5, 7), in(6, 10)},
		{api.ExpLt, even, in(5, 5), value.Int(span.Of(0, 4), cong.Of(2, 0)), in(5, 5)},
		{api.ExpLt, in(0, 3), in(least, least), none, none},
		{api.ExpLt, in(most, most), in(0, 3), none, none},
		{api.ExpLe, in(0, 3), in(least, 0), in(0, 0), in(0, 0)},
		{api.ExpLe, in(most, most), in(0, 3), none, none},
		{api.ExpLe, in(least, least), in(least, least), in(least, least), in(least, least)},
		{api.ExpEq, even, in(3, 7), value.Int(span.Of(4, 6), cong.Of(2, 0)), value.Int(span.Of(4, 6), cong.Of(2, 0))},
		{api.ExpNe, in(0, 3), in(0, 0), in(1, 3), in(0, 0)},
		{api.ExpNe, in(3, 3), in(0, 3), in(3, 3), in(0, 2)},
		{api.ExpNe, in(0, 3), in(1, 1), in(0, 3), in(1, 1)},
		{api.ExpNe, in(3, 3), in(3, 3), none, none},
		{api.ExpNe, even, in(10, 10), value.Int(span.Of(0, 8), cong.Of(2, 0)), in(10, 10)},
		{api.ExpNe, in(most, most), in(most, most), none, none},
		{api.ExpEq, in(0, 3), value.Zero(true), none, none},
	} {
		if c, d := Refine(x.op, x.a, x.b); !equal(c, x.c) || !equal(d, x.d) {
			t.Error(x, c, d)
		}
	}
}

// P9.4
func TestRefinePointers(t *testing.T) {
	ptr := func(null bool, l ...string) api.Value { return value.Ptr(names.Of(null, l...)) }
	none := api.Value{}
	for _, x := range []struct {
		op   int
		a, b api.Value
		many []string
		c, d api.Value
	}{
		{api.ExpEq, ptr(true, "a", "b"), ptr(true, "b"), nil, ptr(true, "b"), ptr(true, "b")},
		{api.ExpEq, ptr(true), ptr(false, "b"), nil, none, none},
		{api.ExpNe, ptr(true, "a"), ptr(true), nil, ptr(false, "a"), ptr(true)},
		{api.ExpNe, ptr(true, "a"), ptr(false, "a"), nil, ptr(true), ptr(false, "a")},
		{api.ExpNe, ptr(false, "a"), ptr(true, "a"), nil, ptr(false, "a"), ptr(true)},
		{api.ExpNe, ptr(true, "a"), ptr(false, "a"), []string{"b", "a"}, ptr(true, "a"), ptr(false, "a")},
		{api.ExpNe, ptr(true, "a"), ptr(true, "a"), nil, ptr(true, "a"), ptr(true, "a")},
		{api.ExpNe, ptr(true), ptr(true), []string{""}, none, none},
		{api.ExpNe, ptr(true, "a", "b", "c"), ptr(false, "b"), nil, ptr(true, "a", "c"), ptr(false, "b")},
		{api.ExpNe, ptr(false, "b"), ptr(false, "a", "b"), []string{"a"}, ptr(false, "b"), ptr(false, "a")},
		{api.ExpNe, ptr(true), none, nil, none, none},
		{api.ExpLt, ptr(true), ptr(true), nil, none, none},
		{api.ExpLe, ptr(true, "a"), ptr(true, "a"), nil, none, none},
		{api.ExpEq, value.Join(value.Num(1), ptr(true)), value.Join(value.Num(1), ptr(false, "a")), nil, value.Num(1), value.Num(1)},
		{api.ExpEq, value.Join(value.Num(1), ptr(true)), ptr(true), nil, ptr(true), ptr(true)},
		{api.ExpAdd, api.Value{Set: api.Set{Names: []string{"b", "a"}}}, value.Num(3), nil, ptr(false, "a", "b"), value.Num(3)},
		{0, api.Value{Span: span.One(3)}, value.Num(3), nil, none, value.Num(3)},
	} {
		if c, d := Refine(x.op, x.a, x.b, x.many...); !equal(c, x.c) || !equal(d, x.d) {
			t.Error(x, c, d)
		}
	}
}

// P9.4
func TestNot(t *testing.T) {
	for op := -1; op < 25; op++ {
		not, swap := Not(op)
		if op < api.ExpLt || op > api.ExpNe {
			if not != 0 || swap {
				t.Error(op, not, swap)
			}
			continue
		}
		for _, a := range []int{1, 2, 3} {
			x, y := a, 2
			yes, _ := wrap.Do(op, x, y)
			if swap {
				x, y = y, x
			}
			if no, _ := wrap.Do(not, x, y); yes+no != 1 {
				t.Error(op, a, not, swap)
			}
		}
		if swap != (op == api.ExpLt || op == api.ExpLe) {
			t.Error(op, swap)
		}
	}
}
