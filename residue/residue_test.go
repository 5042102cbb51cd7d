package residue_test

import (
	"testing"

	"sondage/api"
	"sondage/cong"
	. "sondage/residue"
	"sondage/wrap"
)

const (
	least = -1 << 63
	most  = 1<<63 - 1
)

var ops = []int{api.ExpMul, api.ExpDiv, api.ExpRem, api.ExpAdd, api.ExpSub, api.ExpLt, api.ExpLe, api.ExpEq, api.ExpNe, api.ExpAnd, api.ExpOr}

func congs() []api.Cong {
	var l []api.Cong
	for _, m := range []int{0, 1, 2, 3, 4, 6, 12} {
		for _, r := range []int{-6, -1, 0, 1, 2, 4, 6, 9} {
			l = append(l, cong.Of(m, r))
		}
	}
	return l
}

// wrapsAt reports whether the exact result is not an int.
func wrapsAt(op, a, b int) bool {
	if op == api.ExpDiv {
		return a == least && b == -1
	}
	return (op == api.ExpAdd || op == api.ExpSub || op == api.ExpMul) && !wrap.Fits(op, a, b)
}

// P6.1
func TestPart(t *testing.T) {
	for _, x := range [][2]int{{0, 0}, {1, 1}, {6, 2}, {-6, 2}, {8, 8}, {-8, 8}, {most, 1}, {1 << 62, 1 << 62}, {3 << 60, 1 << 60}, {least, least}} {
		if n := Part(x[0]); n != x[1] {
			t.Error(x, n)
		}
	}
}

// P6.3, with small ints and with the edges.
func TestContains(t *testing.T) {
	edges := []int{least, least + 1, least + 4, -1, 0, 1, 2, 6, 1 << 62, most - 3, most}
	for _, op := range ops {
		for _, a := range congs() {
			for _, b := range congs() {
				exact, wrapping := Do(op, a, b, false), Do(op, a, b, true)
				if cong.Clean(exact) != exact || cong.Clean(wrapping) != wrapping {
					t.Error("not clean", op, a, b)
				}
				check := func(x, y int) {
					n, err := wrap.Do(op, x, y)
					if err != api.OK || !cong.Has(a, x) || !cong.Has(b, y) {
						return
					}
					if !cong.Has(wrapping, n) || !wrapsAt(op, x, y) && !cong.Has(exact, n) {
						t.Error("lost", op, a, b, x, y, n, exact, wrapping)
					}
				}
				for x := -14; x < 14; x++ {
					for y := -14; y < 14; y++ {
						check(x, y)
					}
				}
				for _, x := range edges {
					for _, y := range edges {
						check(x, y)
					}
				}
			}
		}
	}
}

// P6.1
func TestOneInt(t *testing.T) {
	for op := -1; op < 25; op++ {
		for _, a := range []int{least, -7, 0, 1, 6, most} {
			for _, b := range []int{least, -1, 0, 2, most} {
				want := api.Cong{}
				if n, err := wrap.Do(op, a, b); err == api.OK {
					want = cong.One(n)
				}
				if Do(op, cong.One(a), cong.One(b), true) != want || Do(op, cong.One(a), cong.One(b), false) != want {
					t.Error(op, a, b, want)
				}
			}
		}
	}
}

// P6.1
func TestNamedResults(t *testing.T) {
	of, one, all := cong.Of, cong.One, cong.All()
	for _, x := range []struct {
		op    int
		a, b  api.Cong
		wraps bool
		want  api.Cong
	}{
		{api.ExpAdd, of(6, 1), of(4, 2), false, of(2, 1)},
		{api.ExpAdd, of(6, 1), of(9, 5), false, of(3, 0)},
		{api.ExpAdd, of(6, 1), of(9, 5), true, all},
		{api.ExpAdd, of(12, 7), one(-9), true, of(4, 2)},
		{api.ExpAdd, of(most, most-1), one(most), false, of(most, most-1)},
		{api.ExpAdd, of(most, most-1), of(most, most-1), false, of(most, most-2)},
		{api.ExpSub, of(6, 1), of(9, 5), false, of(3, 2)},
		{api.ExpSub, of(most, 0), one(least), false, of(most, 1)},
		{api.ExpSub, one(least), of(8, 3), true, of(8, 5)},
		{api.ExpSub, of(5, 0), of(5, 0), false, of(5, 0)},
		{api.ExpMul, all, one(4), false, of(4, 0)},
		{api.ExpMul, all, one(12), true, of(4, 0)},
		{api.ExpMul, one(-6), of(4, 3), false, of(24, -18)},
		{api.ExpMul, of(4, 3), one(0), true, one(0)},
		{api.ExpMul, one(0), of(4, 3), false, one(0)},
		{api.ExpMul, of(6, 1), of(4, 3), false, of(2, 1)},
		{api.ExpMul, of(12, 6), of(8, 4), false, of(4, 0)},
		{api.ExpMul, of(12, 6), of(20, 7), true, of(4, 2)},
		{api.ExpMul, of(3, 2), one(1 << 62), false, of(3, 2)},
		{api.ExpMul, of(2, 1), one(least), false, of(2, 0)},
		{api.ExpMul, all, one(least), false, all},
		{api.ExpMul, of(most, most-1), of(most, most-1), false, of(most, 1)},
		{api.ExpDiv, of(12, 8), one(4), false, of(3, 2)},
		{api.ExpDiv, of(12, 8), one(-4), false, of(3, 1)},
		{api.ExpDiv, of(12, 8), one(4), true, all},
		{api.ExpDiv, of(12, 8), one(5), false, all},
		{api.ExpDiv, of(12, 9), one(4), false, all},
		{api.ExpDiv, of(12, 8), of(4, 0), false, all},
		{api.ExpDiv, of(12, 8), one(0), false, api.Cong{}},
		{api.ExpDiv, of(12, 8), one(0), true, api.Cong{}},
		{api.ExpDiv, of(12, 8), one(least), false, all},
		{api.ExpDiv, one(8), of(4, 1), false, all},
		{api.ExpRem, of(12, 7), one(9), false, of(3, 1)},
		{api.ExpRem, of(12, 7), of(18, 4), false, of(2, 1)},
		{api.ExpRem, of(12, 7), of(18, 0), false, of(6, 1)},
		{api.ExpRem, of(12, 7), one(0), false, api.Cong{}},
		{api.ExpRem, of(1<<62, 5), one(least), false, of(1<<62, 5)},
		{api.ExpEq, of(6, 1), of(4, 2), false, one(0)},
		{api.ExpEq, of(6, 1), of(4, 3), false, all},
		{api.ExpNe, of(6, 1), of(4, 2), false, one(1)},
		{api.ExpNe, of(6, 1), of(4, 3), false, all},
		{api.ExpAnd, one(0), of(3, 1), false, one(0)},
		{api.ExpAnd, of(3, 1), one(0), false, one(0)},
		{api.ExpAnd, of(3, 1), of(3, 2), false, one(1)},
		{api.ExpAnd, of(3, 1), of(3, 0), false, all},
		{api.ExpOr, of(3, 1), of(3, 0), false, one(1)},
		{api.ExpOr, of(3, 0), of(3, 1), false, one(1)},
		{api.ExpOr, of(3, 0), one(0), false, all},
		{api.ExpLt, of(3, 0), one(0), false, all},
		{api.ExpLe, of(3, 0), one(0), false, all},
		{api.ExpAdd, api.Cong{}, one(0), false, api.Cong{}},
		{api.ExpLt, of(3, 0), api.Cong{M: 3}, false, api.Cong{}},
		{api.ExpNot, of(3, 0), of(3, 0), false, api.Cong{}},
		{api.ExpNeg, of(3, 0), of(3, 0), false, api.Cong{}},
		{api.ExpNull, of(3, 0), of(3, 0), false, api.Cong{}},
		{0, of(3, 0), one(0), false, api.Cong{}},
		{api.ExpAdd, api.Cong{Some: true, M: -3, R: 5}, one(0), false, all},
		{api.ExpAdd, api.Cong{Some: true, M: 4, R: 9}, one(0), false, of(4, 1)},
		{api.ExpMul, api.Cong{Some: true, M: -3, R: 5}, one(4), false, of(4, 0)},
		{api.ExpMul, one(4), api.Cong{Some: true, M: -3, R: 5}, false, of(4, 0)},
		{api.ExpMul, of(7, 0), one(most / 7), false, of(most, 0)},
		{api.ExpMul, of(7, 3), one(most/7 + 1), false, of(7, 3)},
	} {
		if c := Do(x.op, x.a, x.b, x.wraps); c != x.want {
			t.Error(x, c)
		}
	}
}

// P6.2
func TestUnary(t *testing.T) {
	of, one, all := cong.Of, cong.One, cong.All()
	for _, x := range []struct {
		op    int
		a     api.Cong
		wraps bool
		want  api.Cong
	}{
		{api.ExpNeg, one(5), false, one(-5)}, {api.ExpNeg, one(least), true, one(least)}, {api.ExpNeg, of(6, 1), false, of(6, 5)}, {api.ExpNeg, of(6, 1), true, of(2, 1)},
		{api.ExpNot, one(0), false, one(1)}, {api.ExpNot, one(-4), false, one(0)}, {api.ExpNot, of(4, 1), true, one(0)}, {api.ExpNot, of(4, 0), false, all},
		{api.ExpNot, api.Cong{}, false, api.Cong{}}, {api.ExpNeg, api.Cong{R: 3}, false, api.Cong{}}, {api.ExpSub, one(3), false, api.Cong{}}, {0, of(3, 1), true, api.Cong{}},
	} {
		if c := One(x.op, x.a, x.wraps); c != x.want {
			t.Error(x, c)
		}
	}
}
