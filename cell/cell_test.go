package cell_test

import (
	"slices"
	"testing"

	"sondage/api"
	. "sondage/cell"
	"sondage/cong"
	"sondage/env"
	"sondage/names"
	"sondage/span"
	"sondage/value"
)

func val(v api.Value) api.State { return api.State{Val: v} }

func live(name string, v api.Value) api.State {
	return api.State{Env: api.Env{Live: true, Binds: []api.Bind{{Name: name, V: v}}}}
}

func between(lo, hi int) api.Value { return value.Int(span.Of(lo, hi), cong.All()) }

// equal compares two states part by part.
func equal(a, b api.State) bool {
	values := func(v, w api.Value) bool {
		return v.Span == w.Span && v.Cong == w.Cong && v.Set.Null == w.Set.Null && slices.Equal(v.Set.Names, w.Set.Names)
	}
	return a.Env.Live == b.Env.Live && slices.EqualFunc(a.Env.Binds, b.Env.Binds, func(x, y api.Bind) bool { return x.Name == y.Name && values(x.V, y.V) }) && values(a.Val, b.Val)
}

func states() []api.State {
	odd := api.Value{Span: api.Span{Some: true, Lo: 4, Hi: 1}, Set: api.Set{Names: []string{"b", "a", "a"}}}
	return []api.State{
		{}, val(value.Num(3)), val(between(0, 9)), val(value.Ints()), val(value.Zero(true)), val(odd), live("x", value.Num(3)), live("x", value.Ints()), live("y", odd),
		{Env: api.Env{Binds: []api.Bind{{Name: "x", V: value.Num(1)}}}}, {Env: live("x", between(0, 5)).Env, Val: value.Num(4)}, {Env: api.Env{Live: true}}, val(api.Value{Span: span.One(4)}),
	}
}

// P27.1, P27.3
func TestParts(t *testing.T) {
	ladder := []int{-2, 0, 12}
	for _, a := range states() {
		if !equal(Clean(a), api.State{Env: env.Clean(a.Env), Val: value.Clean(a.Val)}) {
			t.Error("clean", a)
		}
		if None(a) != (!a.Env.Live && value.None(a.Val)) {
			t.Error("none", a)
		}
		for _, b := range states() {
			leq := env.Leq(a.Env, b.Env) && value.Leq(a.Val, b.Val)
			if Leq(a, b) != leq || Same(a, b) != (leq && env.Leq(b.Env, a.Env) && value.Leq(b.Val, a.Val)) {
				t.Error("leq, same", a, b)
			}
			for _, x := range []struct {
				name string
				got  api.State
				want api.State
			}{
				{"join", Join(a, b), api.State{Env: env.Join(a.Env, b.Env), Val: value.Join(a.Val, b.Val)}},
				{"widen", Widen(a, b, ladder), api.State{Env: env.Widen(a.Env, b.Env, ladder), Val: value.Widen(a.Val, b.Val, ladder)}},
				{"narrow", Narrow(a, b), api.State{Env: env.Narrow(a.Env, b.Env), Val: value.Narrow(a.Val, b.Val)}},
			} {
				if !equal(x.got, x.want) || !equal(x.got, Clean(x.got)) {
					t.Error(x.name, a, b, x.got, x.want)
				}
			}
			if !Leq(a, Join(a, b)) || !Leq(b, Join(a, b)) || !Leq(a, Widen(a, b, ladder)) || !Leq(b, Widen(a, b, ladder)) {
				t.Error("laws", a, b)
			}
		}
	}
}

// P27.2, P27.3
func TestSum(t *testing.T) {
	g, f := api.Key{Name: "g", Node: -1}, api.Key{Name: "f"}
	side := func(k api.Key, s api.State) api.Side { return api.Side{Key: k, State: s} }
	l := []api.Side{side(g, val(value.Num(1))), side(f, live("x", value.Num(2))), side(api.Key{Name: "g", Node: -5}, val(value.Num(5))), side(api.Key{Name: "h"}, api.State{}), side(api.Key{Name: "e", Node: 3}, val(api.Value{Span: span.One(4)}))}
	kept := slices.Clone(l)
	s := Sum(l)
	if len(s) != 2 || s[0].Key != f || !equal(s[0].State, l[1].State) || s[1].Key != g || !equal(s[1].State, val(value.Int(span.Of(1, 5), cong.Of(4, 1)))) {
		t.Error(s)
	}
	for i := range l {
		if l[i].Key != kept[i].Key || !equal(l[i].State, kept[i].State) {
			t.Error("the argument has changed")
		}
		if got, _ := Find(s, l[i].Key); !Leq(l[i].State, got) {
			t.Error("a contribution is lost", l[i])
		}
	}
	// A key stays with what is not empty, and states are clean.
	s = Sum([]api.Side{side(g, api.State{}), side(g, val(api.Value{Set: api.Set{Names: []string{"b", "a"}}})), side(g, api.State{})})
	if len(s) != 1 || !equal(s[0].State, val(value.Ptr(names.Of(false, "a", "b")))) {
		t.Error(s)
	}
	if len(Sum(nil)) != 0 || len(Sum([]api.Side{side(g, api.State{})})) != 0 {
		t.Error("nothing")
	}
	s = Sum([]api.Side{side(f, api.State{Env: api.Env{Live: true}})})
	if len(s) != 1 || !s[0].State.Env.Live {
		t.Error("an env without binds is not empty", s)
	}
}

// P27.2
func TestFind(t *testing.T) {
	l := []api.Side{{Key: api.Key{Name: "g", Node: -7}, State: val(api.Value{Set: api.Set{Names: []string{"b", "a"}}})}, {Key: api.Key{Name: "g", Node: -1}, State: val(value.Num(1))}, {Key: api.Key{Name: "f"}}}
	if s, ok := Find(l, api.Key{Name: "g", Node: -2}); !ok || !equal(s, val(value.Ptr(names.Of(false, "a", "b")))) {
		t.Error(s, ok)
	}
	if s, ok := Find(l, api.Key{Name: "f"}); !ok || !equal(s, api.State{}) {
		t.Error(s, ok)
	}
	for _, k := range []api.Key{{Name: "f", Node: 1}, {Name: "f", Node: -1}, {Name: "g"}, {}} {
		if s, ok := Find(l, k); ok || !equal(s, api.State{}) {
			t.Error(k, s, ok)
		}
	}
}
