package gauge_test

import (
	"testing"

	. "sondage/gauge"
)

// most is the largest count.
const most = 1 << 52

func parts(t *testing.T, g *Gauge, evals, kept, share int) {
	t.Helper()
	if e, k := g.Parts(); e != evals || k != kept || g.Share() != share {
		t.Error(e, k, g.Share(), "not", evals, kept, share)
	}
}

// P35.1
func TestAdd(t *testing.T) {
	g := New()
	parts(t, g, 0, 0, 0)
	g.Add(3, 1)
	parts(t, g, 3, 1, 250)
	g.Add(1, 3)
	parts(t, g, 4, 4, 500)
	g.Add(-7, -1<<63)
	parts(t, g, 4, 4, 500)
	g.Add(1<<31-1, 1<<31)
	parts(t, g, 1<<31+3, 1<<31+3, 500)
	h := New()
	h.Add(1<<62, 1<<63-1)
	parts(t, h, 1<<31-1, 1<<31-1, 500)
	h.Add(-1, 2)
	parts(t, h, 1<<31-1, 1<<31+1, 500)
}

// P35.1, P35.2: the largest counts.
func TestLimit(t *testing.T) {
	g := New()
	g.Add(1<<31-1, 1)
	for range 21 {
		g.Join(g)
	}
	parts(t, g, (1<<31-1)<<21, 1<<21, 0)
	g.Join(g)
	parts(t, g, most, 1<<22, 0)
	g.Add(1, 0)
	parts(t, g, most, 1<<22, 0)
	h := New()
	h.Add(0, 5)
	h.Join(g)
	parts(t, h, most, 1<<22+5, 0)
	for range 60 {
		h.Join(h)
	}
	parts(t, h, most, most, 500)
	h.Add(0, 1<<31)
	parts(t, h, most, most, 500)
}

// P35.2
func TestJoinAndShare(t *testing.T) {
	g, h := New(), New()
	h.Add(2, 1)
	g.Join(h)
	g.Join(nil)
	parts(t, g, 2, 1, 333)
	parts(t, h, 2, 1, 333)
	for _, x := range [][3]int{{0, 7, 1000}, {7, 0, 0}, {1, 2, 666}, {1, 999, 999}, {1, 1000, 999}, {1000, 1, 0}} {
		g := New()
		g.Add(x[0], x[1])
		parts(t, g, x[0], x[1], x[2])
	}
}

// P35.3
func TestNil(t *testing.T) {
	var g *Gauge
	g.Add(1, 2)
	g.Join(New())
	parts(t, g, 0, 0, 0)
}

// P35.4
func TestOrder(t *testing.T) {
	adds := [][2]int{{1 << 31, 5}, {-3, 8}, {17, 1 << 40}, {0, 0}}
	for from := range adds {
		g := New()
		for i := range adds {
			x := adds[(from+i)%len(adds)]
			g.Add(x[0], x[1])
		}
		parts(t, g, 1<<31+16, 1<<31+12, 499)
	}
}
