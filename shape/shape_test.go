package shape_test

import (
	"testing"

	"sondage/api"
	. "sondage/shape"
)

func TestKids(t *testing.T) {
	want := map[int]int{api.ExpNum: 0, api.ExpVar: 0, api.ExpIndex: 1, api.ExpLoad: 0, api.ExpNeg: 1, api.ExpNot: 1, api.ExpNull: 0, api.ExpAddr: 0, api.ExpAddrAt: 1}
	for op := api.ExpMul; op <= api.ExpOr; op++ {
		want[op] = 2
	}
	for op := -3; op < 30; op++ {
		n, ok := want[op]
		if !ok {
			n = -1
		}
		if Kids(op) != n {
			t.Error(op, Kids(op))
		}
	}
}

func TestSigns(t *testing.T) {
	for op := -3; op < 30; op++ {
		sign, level := Sign(op)
		back, same := Operator(sign)
		if sign != "" && (back != op || same != level || level < 1 || level >= Unary) || (sign == "") != (Kids(op) != 2) {
			t.Error(op, sign, level, back, same)
		}
	}
	for op, want := range map[int]int{api.ExpOr: 1, api.ExpAnd: 2, api.ExpEq: 3, api.ExpNe: 3, api.ExpLt: 4, api.ExpLe: 4, api.ExpAdd: 5, api.ExpSub: 5, api.ExpMul: 6, api.ExpDiv: 6, api.ExpRem: 6} {
		if _, level := Sign(op); level != want {
			t.Error(op, level)
		}
	}
	for _, sign := range []string{"", "=", "!", "&", "|", "<<", "int"} {
		if op, level := Operator(sign); op != 0 || level != 0 {
			t.Error(sign, op, level)
		}
	}
}
