package wrap_test

import (
	"math/big"
	"testing"

	"sondage/api"
	"sondage/wide"
	. "sondage/wrap"
)

const (
	least = -1 << 63
	most  = 1<<63 - 1
)

var ints = []int{0, 1, -1, 2, -2, 3, -3, 7, -7, 10, 1 << 31, -1 << 32, 1 << 62, -1 << 62, most - 1, most, least, least + 1}

// plain is what the chapter says, by numbers of any length.
func plain(op, a, b int) (*big.Int, bool) {
	x, y := big.NewInt(int64(a)), big.NewInt(int64(b))
	truth := func(holds bool) *big.Int {
		if holds {
			return big.NewInt(1)
		}
		return big.NewInt(0)
	}
	switch op {
	case api.ExpMul:
		return x.Mul(x, y), true
	case api.ExpAdd:
		return x.Add(x, y), true
	case api.ExpSub:
		return x.Sub(x, y), true
	case api.ExpDiv:
		return x.Quo(x, y), false
	case api.ExpRem:
		return x.Rem(x, y), false
	case api.ExpLt:
		return truth(a < b), false
	case api.ExpLe:
		return truth(a <= b), false
	case api.ExpEq:
		return truth(a == b), false
	case api.ExpNe:
		return truth(a != b), false
	case api.ExpAnd:
		return truth(a != 0 && b != 0), false
	}
	return truth(a != 0 || b != 0), false
}

func wrapped(b *big.Int) int {
	m := new(big.Int).Lsh(big.NewInt(1), 64)
	return int(new(big.Int).Mod(b, m).Uint64())
}

// P2.1, P2.3, P2.4
func TestBinary(t *testing.T) {
	for op := api.ExpMul; op <= api.ExpOr; op++ {
		for _, a := range ints {
			for _, b := range ints {
				n, err := Do(op, a, b)
				if b == 0 && (op == api.ExpDiv || op == api.ExpRem) {
					if n != 0 || err != api.ErrZero {
						t.Error("by 0", op, a, n, err)
					}
					continue
				}
				want, exact := plain(op, a, b)
				if err != api.OK || n != wrapped(want) {
					t.Error("do", op, a, b, n, err, want)
				}
				w, ok := Exact(op, a, b)
				if ok != exact || !exact && w != (api.Wide{}) {
					t.Error("exact", op, a, b, w, ok)
				}
				if exact {
					product := new(big.Int).Lsh(big.NewInt(w.Hi), 64)
					if product.Add(product, new(big.Int).SetUint64(w.Lo)).Cmp(want) != 0 {
						t.Error("exact", op, a, b, w, want)
					}
				}
				if fits := Fits(op, a, b); fits != (exact && want.IsInt64()) {
					t.Error("fits", op, a, b, fits)
				} else if m, _ := wide.Int(w); fits && m != n {
					t.Error("where it fits", op, a, b, n, w)
				}
			}
		}
	}
}

func TestNamedEdges(t *testing.T) {
	for _, x := range []struct{ op, a, b, want int }{
		{api.ExpAdd, most, 1, least}, {api.ExpRem, -7, 2, -1}, {api.ExpDiv, -7, 2, -3}, {api.ExpDiv, least, -1, least}, {api.ExpRem, least, -1, 0},
		{api.ExpAnd, 2, -1, 1}, {api.ExpAnd, 0, 5, 0}, {api.ExpAnd, 5, 0, 0}, {api.ExpOr, 0, 0, 0}, {api.ExpOr, 0, 4, 1}, {api.ExpOr, 4, 0, 1}, {api.ExpOr, 4, 4, 1},
	} {
		if n, err := Do(x.op, x.a, x.b); n != x.want || err != api.OK {
			t.Error(x, n, err)
		}
	}
}

// P2.1 to P2.3
func TestOtherKinds(t *testing.T) {
	for op := -3; op < 30; op++ {
		if op >= api.ExpMul && op <= api.ExpOr {
			continue
		}
		if n, err := Do(op, 6, 3); n != 0 || err != api.ErrArg {
			t.Error("do", op, n, err)
		}
		if _, err := Do(op, 6, 0); err != api.ErrArg {
			t.Error("do", op, err)
		}
		if w, ok := Exact(op, 6, 3); ok || w != (api.Wide{}) || Fits(op, 6, 3) {
			t.Error("exact", op)
		}
		if n, err := One(op, 6); op != api.ExpNeg && op != api.ExpNot && (n != 0 || err != api.ErrArg) {
			t.Error("one", op, n, err)
		}
	}
	if _, err := One(api.ExpSub, 1); err != api.ErrArg {
		t.Error("one", err)
	}
}

// P2.2
func TestUnary(t *testing.T) {
	for _, a := range ints {
		n, err := One(api.ExpNeg, a)
		if want := wrapped(new(big.Int).Neg(big.NewInt(int64(a)))); n != want || err != api.OK {
			t.Error("neg", a, n, err)
		}
		n, err = One(api.ExpNot, a)
		if (n == 1) != (a == 0) || n != 0 && n != 1 || err != api.OK {
			t.Error("not", a, n, err)
		}
	}
	if n, _ := One(api.ExpNeg, least); n != least {
		t.Error("neg of the smallest", n)
	}
}

// P2.4
func TestQuotientAndRemainder(t *testing.T) {
	for _, a := range ints {
		for _, b := range ints {
			if b == 0 {
				continue
			}
			q, _ := Do(api.ExpDiv, a, b)
			r, _ := Do(api.ExpRem, a, b)
			back, _ := Do(api.ExpMul, q, b)
			back, _ = Do(api.ExpAdd, back, r)
			if back != a || new(big.Int).Abs(big.NewInt(int64(r))).Cmp(new(big.Int).Abs(big.NewInt(int64(b)))) >= 0 {
				t.Error(a, b, q, r)
			}
		}
	}
}
