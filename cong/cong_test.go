package cong_test

import (
	"testing"

	"sondage/api"
	. "sondage/cong"
)

const (
	least = -1 << 63
	most  = 1<<63 - 1
)

// congs has clean and other congruences.
func congs() []api.Cong {
	l := []api.Cong{{}, {M: 3, R: 1}, {M: -1}}
	for _, m := range []int{-5, -1, 0, 1, 2, 3, 4, 6, 9} {
		for _, r := range []int{-7, -1, 0, 1, 2, 3, 5, 8} {
			l = append(l, api.Cong{Some: true, M: m, R: r})
		}
	}
	return l
}

func edges() []api.Cong {
	l := []api.Cong{{}}
	for _, m := range []int{least, 0, 1, 6, 1 << 62, 3 << 61, most - 1, most} {
		for _, r := range []int{least, -5, 0, 3, 1 << 62, most} {
			l = append(l, api.Cong{Some: true, M: m, R: r})
		}
	}
	return l
}

// in reports whether a congruence contains an int, as the chapter says it.
func in(c api.Cong, n int) bool {
	if !c.Some {
		return false
	}
	if c.M < 0 {
		return true
	}
	if c.M == 0 {
		return n == c.R
	}
	return (n-c.R)%c.M == 0
}

func clean(c api.Cong) bool {
	return c == (api.Cong{}) || c.Some && c.M >= 0 && (c.M == 0 || c.R >= 0 && c.R < c.M)
}

// P5.1
func TestMaking(t *testing.T) {
	for _, x := range []struct{ got, want api.Cong }{
		{Of(5, 7), api.Cong{Some: true, M: 5, R: 2}}, {Of(5, -7), api.Cong{Some: true, M: 5, R: 3}}, {Of(0, -7), api.Cong{Some: true, R: -7}}, {Of(-3, 2), api.Cong{Some: true, M: 1}},
		{One(4), api.Cong{Some: true, R: 4}}, {All(), api.Cong{Some: true, M: 1}}, {Clean(api.Cong{M: 4, R: 1}), api.Cong{}}, {Of(most, least), api.Cong{Some: true, M: most, R: most - 1}},
	} {
		if x.got != x.want {
			t.Error(x)
		}
	}
	for _, c := range congs() {
		if k := Clean(c); !clean(k) || None(c) == c.Some {
			t.Error("clean", c, k)
		}
		for n := -30; n <= 30; n++ {
			if Has(c, n) != in(c, n) || Has(Clean(c), n) != in(c, n) {
				t.Error("has", c, n)
			}
		}
	}
	if !Has(Of(3, 1), least) || Has(Of(3, 1), least+1) || !Has(api.Cong{Some: true, M: 4, R: most}, -1) {
		t.Error("far apart")
	}
}

// P5.1
func TestModAndGcd(t *testing.T) {
	for _, x := range [][3]int{{7, 5, 2}, {-7, 5, 3}, {-5, 5, 0}, {0, 5, 0}, {-7, 0, -7}, {-7, -2, -7}, {least, most, most - 1}, {least, 1, 0}, {-1, most, most - 1}, {9, least, 9}} {
		if n := Mod(x[0], x[1]); n != x[2] {
			t.Error("mod", x, n)
		}
	}
	for _, x := range [][3]uint64{{0, 0, 0}, {0, 7, 7}, {7, 0, 7}, {12, 18, 6}, {18, 12, 6}, {17, 5, 1}, {1 << 63, 1 << 62, 1 << 62}, {1<<64 - 1, 1<<64 - 1, 1<<64 - 1}, {1<<64 - 1, 3, 3}} {
		if n := Gcd(x[0], x[1]); n != x[2] {
			t.Error("gcd", x, n)
		}
	}
}

// P5.2 to P5.5, on small congruences whose Ms have a small common multiple.
func TestLattice(t *testing.T) {
	for _, a := range congs() {
		for _, b := range congs() {
			leq, join, meet := true, Join(a, b), Meet(a, b)
			for n := -40; n <= 40; n++ {
				leq = leq && (!in(a, n) || in(b, n))
				if (in(a, n) || in(b, n)) && !in(join, n) {
					t.Error("join", a, b, join)
				}
				if in(meet, n) != (in(a, n) && in(b, n)) {
					t.Error("meet", a, b, meet, n)
				}
			}
			if Leq(a, b) != leq || Same(a, b) != (Leq(a, b) && Leq(b, a)) {
				t.Error("leq", a, b)
			}
			if !clean(join) || !clean(meet) || !Same(join, Join(b, a)) || !Same(meet, Meet(b, a)) {
				t.Error("laws", a, b, join, meet)
			}
			for _, c := range congs() {
				if Leq(a, c) && Leq(b, c) && !Leq(join, c) {
					t.Error("not the least", a, b, c, join)
				}
			}
		}
	}
}

// P5.3, P5.4
func TestNamedResults(t *testing.T) {
	for _, x := range []struct{ got, want api.Cong }{
		{Join(One(3), One(11)), Of(8, 3)}, {Join(One(3), One(3)), One(3)}, {Join(Of(6, 1), Of(4, 3)), Of(2, 1)}, {Join(api.Cong{}, Of(6, 7)), Of(6, 1)}, {Join(api.Cong{Some: true, M: 6, R: 7}, api.Cong{M: 2}), Of(6, 1)},
		{Join(One(least), One(0)), All()}, {Join(One(least), One(most)), All()}, {Join(One(0), One(most)), Of(most, 0)}, {Join(One(-1), One(least)), api.Cong{Some: true, M: most, R: most - 1}},
		{Meet(Of(3, 2), Of(5, 3)), Of(15, 8)}, {Meet(Of(4, 1), Of(6, 2)), api.Cong{}}, {Meet(Of(4, 1), One(5)), One(5)}, {Meet(One(6), Of(4, 1)), api.Cong{}}, {Meet(One(5), One(6)), api.Cong{}}, {Meet(One(5), One(5)), One(5)}, {Meet(api.Cong{}, All()), api.Cong{}},
		{Meet(Of(most, 4), Of(2, 0)), Of(most, 4)}, {Meet(Of(2, 0), Of(most, 4)), Of(most, 4)}, {Meet(Of(1<<62, 1), Of(3, 1)), Of(1<<62, 1)}, {Meet(Of(1<<61, 1), Of(3, 1)), Of(3<<61, 1)},
		{Meet(Of(most, 4), Of(most, 4)), Of(most, 4)}, {Meet(Of(1<<62, 1), Of(1<<62+1, 2)), Of(1<<62+1, 2)},
		{Meet(Of(3037000493, 7), Of(3037000453, 11)), Of(3037000493*3037000453, 7+3037000493*911100136)},
	} {
		if x.got != x.want {
			t.Error(x)
		}
	}
}

func TestEdges(t *testing.T) {
	points := []int{least, least + 3, -5, -1, 0, 1, 3, 9, 1 << 62, most - 3, most}
	for _, a := range edges() {
		for _, b := range edges() {
			join, meet := Join(a, b), Meet(a, b)
			if !clean(join) || !clean(meet) || !Leq(a, join) || !Leq(b, join) {
				t.Error(a, b, join, meet)
			}
			for _, n := range points {
				if Has(a, n) && Has(b, n) && !Has(meet, n) {
					t.Error("meet lost", a, b, n, meet)
				}
			}
		}
	}
}

// P5.4: the int of the least common multiple, where products exceed 64 bits.
func TestLargeMeet(t *testing.T) {
	for _, x := range [][2]int{{1 << 31, 1<<31 - 1}, {1<<32 - 1, 1<<31 - 1}, {6 * 1000003, 10 * 1000033}, {3, 1 << 61}} {
		for _, n := range []int{0, 1, 999999937, 1<<61 + 12345} {
			m := Meet(Of(x[0], n), Of(x[1], n))
			g := int(Gcd(uint64(x[0]), uint64(x[1])))
			if m.M != x[0]/g*x[1] || !Has(m, n) {
				t.Error(x, n, m)
			}
		}
	}
}

// P5.5
func TestFewChanges(t *testing.T) {
	c, changes := api.Cong{}, 0
	for i := range 300 {
		n := 0
		if i > 0 {
			n = 1 << max(62-i, 0)
		}
		if next := Join(c, One(n)); next != c {
			c, changes = next, changes+1
		}
	}
	if changes > 65 || changes < 60 || c != All() {
		t.Error(changes, c)
	}
}
