package wide_test

import (
	"math/big"
	"testing"

	"sondage/api"
	. "sondage/wide"
)

const (
	least = -1 << 63
	most  = 1<<63 - 1
)

var ints = []int{0, 1, -1, 2, -2, 3, 7, -10, 1 << 31, -1 << 31, 1<<32 + 5, 1 << 62, -1 << 62, most - 1, most, least, least + 1}

func wides() []api.Wide {
	var l []api.Wide
	for _, hi := range []int64{0, 1, -1, 5, -6, most, least, most - 1, least + 1} {
		for _, lo := range []uint64{0, 1, 2, 1<<63 - 1, 1 << 63, 1<<63 + 1, 1<<64 - 2, 1<<64 - 1} {
			l = append(l, api.Wide{Hi: hi, Lo: lo})
		}
	}
	return l
}

func bigOf(a api.Wide) *big.Int {
	b := new(big.Int).Lsh(big.NewInt(a.Hi), 64)
	return b.Add(b, new(big.Int).SetUint64(a.Lo))
}

// wideOf reduces modulo 2^128, as the promises ask.
func wideOf(b *big.Int) api.Wide {
	m := new(big.Int).Lsh(big.NewInt(1), 128)
	r := new(big.Int).Mod(b, m)
	low := new(big.Int).And(r, new(big.Int).SetUint64(1<<64-1))
	high := new(big.Int).Rsh(r, 64)
	return api.Wide{Hi: int64(high.Uint64()), Lo: low.Uint64()}
}

// P1.1
func TestSumsAndProducts(t *testing.T) {
	for _, a := range ints {
		if bigOf(Of(a)).Cmp(big.NewInt(int64(a))) != 0 {
			t.Error("of", a, Of(a))
		}
		for _, b := range ints {
			want := wideOf(new(big.Int).Mul(big.NewInt(int64(a)), big.NewInt(int64(b))))
			if got := Mul(a, b); got != want {
				t.Error("mul", a, b, got, want)
			}
		}
	}
	for _, a := range wides() {
		if want := wideOf(new(big.Int).Neg(bigOf(a))); Neg(a) != want {
			t.Error("neg", a, Neg(a), want)
		}
		for _, b := range wides() {
			if want := wideOf(new(big.Int).Add(bigOf(a), bigOf(b))); Add(a, b) != want {
				t.Error("add", a, b, Add(a, b), want)
			}
			if want := wideOf(new(big.Int).Sub(bigOf(a), bigOf(b))); Sub(a, b) != want {
				t.Error("sub", a, b, Sub(a, b), want)
			}
		}
	}
	if p := Mul(least, least); p != (api.Wide{Hi: 1 << 62}) || Clamp(p) != most {
		t.Error("the example", p)
	}
}

// P1.2
func TestComparing(t *testing.T) {
	low, high := big.NewInt(least), big.NewInt(most)
	for _, a := range wides() {
		x := bigOf(a)
		if Sign(a) != x.Sign() {
			t.Error("sign", a)
		}
		n, ok := Int(a)
		if ok != x.IsInt64() || ok && int64(n) != x.Int64() || !ok && n != 0 {
			t.Error("int", a, n, ok)
		}
		if Low(a) != int(a.Lo) {
			t.Error("low", a)
		}
		near := x
		if x.Cmp(low) < 0 {
			near = low
		} else if x.Cmp(high) > 0 {
			near = high
		}
		if int64(Clamp(a)) != near.Int64() {
			t.Error("clamp", a, Clamp(a))
		}
		for _, b := range wides() {
			if Cmp(a, b) != x.Cmp(bigOf(b)) {
				t.Error("cmp", a, b)
			}
		}
	}
}

// P1.3
func TestMinAndMax(t *testing.T) {
	l := wides()
	for i, a := range l {
		if Min(a) != a || Max(a) != a {
			t.Error("alone", a)
		}
		some := []api.Wide{l[(i*7+3)%len(l)], l[(i*11+5)%len(l)], l[(i*13+1)%len(l)]}
		low, high := Min(a, some...), Max(a, some...)
		seenLow, seenHigh := low == a, high == a
		for _, b := range some {
			if Cmp(low, b) > 0 || Cmp(high, b) < 0 {
				t.Error("not the best", a, some)
			}
			seenLow, seenHigh = seenLow || low == b, seenHigh || high == b
		}
		if Cmp(low, a) > 0 || Cmp(high, a) < 0 || !seenLow || !seenHigh {
			t.Error("none of them", a, some)
		}
	}
}

// P1.4
func TestLaws(t *testing.T) {
	for _, a := range wides() {
		for _, b := range wides() {
			if Sub(Add(a, b), b) != a || Add(Sub(a, b), b) != a {
				t.Error("restore", a, b)
			}
			c := Of(12345)
			if wideOf(bigOf(a)) == a && bigOf(Add(a, c)).Cmp(bigOf(a)) > 0 && bigOf(Add(b, c)).Cmp(bigOf(b)) > 0 && Cmp(a, b) != Cmp(Add(a, c), Add(b, c)) {
				t.Error("order", a, b)
			}
		}
	}
	for _, a := range []int{3, -7, 1 << 40, most, least} {
		for _, b := range []int{0, 5, -1 << 40} {
			for _, c := range []int{1, -9, 1 << 41} {
				if Mul(a, b+c) != Add(Mul(a, b), Mul(a, c)) {
					t.Error("distribute", a, b, c)
				}
			}
		}
	}
}
