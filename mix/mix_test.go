package mix_test

import (
	"testing"

	"sondage/api"
	"sondage/cell"
	"sondage/cong"
	"sondage/env"
	. "sondage/mix"
	"sondage/span"
	"sondage/value"
)

const most = 1<<63 - 1

func of(lo, hi int) api.State { return api.State{Val: value.Int(span.Of(lo, hi), cong.All())} }

func live(lo, hi int) api.State {
	return api.State{Env: api.Env{Live: true, Binds: []api.Bind{{Name: "x", V: of(lo, hi).Val}}}}
}

// bounds compares what two states have for ints, apart from congruences.
func bounds(a, b api.State) bool {
	return a.Val.Span == b.Val.Span && a.Env.Live == b.Env.Live && env.Get(a.Env, "x").Span == env.Get(b.Env, "x").Span
}

// P31.1
func TestStep(t *testing.T) {
	ladder := []int{9, 20}
	for i, x := range []struct {
		t    Turn
		a, b api.State
		turn Turn
		want api.State
	}{
		{Turn{}, of(1, 5), of(1, 5), Turn{}, of(1, 5)},
		{Turn{Back: true, Turns: 1, Ups: 2}, of(1, 5), of(1, 5), Turn{Back: true, Turns: 1, Ups: 2}, of(1, 5)},
		{Turn{}, of(1, 5), of(2, 3), Turn{Back: true}, of(1, 5)},
		{Turn{Ups: 7, Turns: 1}, of(1, most), of(2, 3), Turn{Ups: 7, Turns: 1, Back: true}, of(1, 3)},
		{Turn{Turns: 2}, of(1, most), of(2, 3), Turn{Turns: 2}, of(1, most)},
		{Turn{Turns: 9, Back: true}, of(1, most), of(2, 3), Turn{Turns: 9, Back: true}, of(1, most)},
		{Turn{}, of(1, most), api.State{}, Turn{Back: true}, api.State{}},
		{Turn{}, of(1, 1), of(2, 2), Turn{Ups: 1}, of(1, 2)},
		{Turn{Ups: 2}, of(1, 1), of(5, 5), Turn{Ups: 3}, of(1, 5)},
		{Turn{Ups: 3}, of(1, 4), of(5, 5), Turn{Ups: 3}, of(1, 9)},
		{Turn{Ups: 8}, of(1, 4), of(0, 21), Turn{Ups: 8}, of(-1<<63, most)},
		{Turn{Back: true}, of(1, 4), of(5, 5), Turn{Ups: 1, Turns: 1}, of(1, 5)},
		{Turn{Back: true, Turns: 1, Ups: 3}, of(1, 4), of(5, 5), Turn{Ups: 3, Turns: 2}, of(1, 9)},
		{Turn{Back: true, Turns: 2, Ups: 3}, of(1, 4), of(5, 5), Turn{Ups: 3, Turns: 2}, of(1, 9)},
		{Turn{Turns: 1}, of(1, 4), of(5, 5), Turn{Ups: 1, Turns: 1}, of(1, 5)},
		{Turn{}, api.State{}, of(3, 4), Turn{Ups: 1}, of(3, 4)},
		{Turn{Ups: 3}, live(1, 4), live(5, 5), Turn{Ups: 3}, live(1, 9)},
		{Turn{}, live(1, most), live(1, 4), Turn{Back: true}, live(1, 4)},
		{Turn{}, live(1, most), api.State{}, Turn{Back: true}, api.State{}},
		{Turn{}, api.State{}, api.State{Env: api.Env{Binds: live(1, 2).Env.Binds}}, Turn{}, api.State{}},
	} {
		if turn, s := Step(x.t, x.a, x.b, ladder); turn != x.turn || !bounds(s, x.want) {
			t.Error(i, turn, s)
		}
	}
}

// P31.1: results are clean.
func TestClean(t *testing.T) {
	odd := api.State{Val: api.Value{Span: api.Span{Some: true, Lo: 4, Hi: 1}, Set: api.Set{Names: []string{"b", "a"}}}}
	for _, x := range [][2]api.State{{odd, odd}, {odd, {}}, {{}, odd}, {of(1, most), odd}} {
		_, s := Step(Turn{Turns: 2}, x[0], x[1], nil)
		if l := s.Val.Set.Names; s.Val.Span.Some != s.Val.Cong.Some || len(l) > 1 && l[0] > l[1] {
			t.Error(x, s)
		}
	}
	if _, s := Row(odd, nil); s.Val.Set.Names[0] != "a" || s.Val.Span != (api.Span{}) {
		t.Error(s)
	}
}

// P31.2
func TestRow(t *testing.T) {
	if turn, s := Row(of(1, 1), []int{9}, of(2, 2), of(3, 3), of(4, 4)); turn != (Turn{Ups: 3}) || !bounds(s, of(1, 4)) {
		t.Error(turn, s)
	}
	if turn, s := Row(of(1, 1), []int{9}, of(2, 2), of(3, 3), of(4, 4), of(5, 5), of(1, 5)); turn != (Turn{Ups: 3, Back: true}) || !bounds(s, of(1, 9)) {
		t.Error(turn, s)
	}
	if turn, s := Row(of(1, 1), nil, of(2, 2), of(3, 3), of(4, 4), of(5, 5), of(1, 5)); turn != (Turn{Ups: 3, Back: true}) || !bounds(s, of(1, 5)) {
		t.Error("all ints are narrowed", turn, s)
	}
	if turn, s := Row(of(1, 1), nil); turn != (Turn{}) || !bounds(s, of(1, 1)) {
		t.Error(turn, s)
	}
}

// P31.3
func TestDerived(t *testing.T) {
	l := []api.State{{}, of(0, 0), of(0, 5), of(-3, 2), of(4, most), of(-1<<63, 3), of(-1<<63, most), live(0, 5), live(-7, most), live(2, 2), {Val: value.Zero(true)}}
	for from := range 40 {
		turn, s, turns := Turn{}, api.State{}, 0
		shrinking := false
		for i := range 60 {
			b := l[(from*i*3+i*i+from)%len(l)]
			next, state := Step(turn, s, b, []int{0, 10})
			if !cell.Leq(b, state) || cell.Leq(b, s) && !cell.Leq(state, s) || !cell.Leq(b, s) && !cell.Leq(s, state) {
				t.Error(from, i, s, b, state)
			}
			if !cell.Same(s, state) {
				grows := cell.Leq(s, state)
				if grows && shrinking {
					turns++
				}
				shrinking = !grows
			}
			turn, s = next, state
		}
		if turns > api.Turns {
			t.Error(from, turns)
		}
	}
}
