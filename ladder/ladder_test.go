package ladder_test

import (
	"slices"
	"testing"

	"sondage/api"
	. "sondage/ladder"
)

const (
	least = -1 << 63
	most  = 1<<63 - 1
)

// P16.1
func TestCut(t *testing.T) {
	for _, x := range []struct {
		l    []int
		most int
		want []int
	}{
		{nil, 5, nil}, {[]int{3}, 0, nil}, {[]int{3}, -4, nil}, {[]int{3, 3, 3}, 2, []int{3}},
		{[]int{5, -5, 1, 9}, 2, []int{-5, 1}}, {[]int{5, -5, 1, 9}, 3, []int{-5, 1, 5}}, {[]int{5, -5, 1, 9}, 9, []int{-5, 1, 5, 9}}, {[]int{5, 1, -5}, 1, []int{1}},
		{[]int{least, most, 0}, 2, []int{0, most}}, {[]int{least, least + 1, 0}, 2, []int{least + 1, 0}}, {[]int{least, most, least + 1}, 2, []int{least + 1, most}}, {[]int{most, least + 1}, 1, []int{least + 1}}, {[]int{least, most}, 9, []int{least, most}},
		{[]int{0, 0, -1, 1, -1}, 2, []int{-1, 0}},
	} {
		l := slices.Clone(x.l)
		if got := Cut(x.l, x.most); !slices.Equal(got, x.want) || !slices.Equal(l, x.l) {
			t.Error(x, got)
		}
	}
}

func body(nums ...int) []api.Stmt {
	var l []api.Stmt
	for _, n := range nums {
		l = append(l, api.Stmt{Op: api.StIf, Else: []api.Stmt{{Exps: []api.Expr{{Op: api.ExpNeg, Kids: []api.Expr{{Op: api.ExpNum, N: n}}}}}}})
	}
	return l
}

// P16.2, P16.3
func TestOf(t *testing.T) {
	far := func() []int {
		var l []int
		for i := range 30 {
			l = append(l, 100*(i+1))
		}
		return l
	}()
	for _, x := range []struct {
		p    api.Program
		want []int
	}{
		{api.Program{}, []int{-1, 0, 1}},
		{api.Program{Funcs: []api.Func{{Body: body(10, 20)}, {Body: body(10, -7)}}}, []int{-8, -7, -6, -1, 0, 1, 9, 10, 11, 19, 20, 21}},
		{api.Program{Funcs: []api.Func{{Body: body(least, most)}}}, []int{least, least + 1, -1, 0, 1, most - 1, most}},
		{api.Program{Globals: []api.Global{{Name: "a", Size: 5}, {Name: "b", Size: -9}, {Name: "c"}, {Name: "d", Ptr: true, Size: 50}}}, []int{-1, 0, 1, 4, 5, 49, 50}},
		{api.Program{Funcs: []api.Func{{Body: body(least)}}}, []int{least, least + 1, -1, 0, 1}},
		{api.Program{Funcs: []api.Func{{Body: body(most)}}}, []int{-1, 0, 1, most - 1, most}},
		{api.Program{Globals: []api.Global{{Name: "a", Size: 1}}}, []int{-1, 0, 1}},
	} {
		if got := Of(x.p); !slices.Equal(got, x.want) {
			t.Error(x, got)
		}
	}
	l := Of(api.Program{Funcs: []api.Func{{Body: body(far...)}}})
	if len(l) != api.MaxLadder || !slices.IsSorted(l) || l[0] != -1 || l[api.MaxLadder-1] != 1299 {
		t.Error(l)
	}
}
