// Package shape tells what kinds of expressions look like: how many kids they have, and the signs of operators.
package shape

import "sondage/api"

// Kids returns how many kids an expression of a kind has, or -1 for an unknown kind.
func Kids(op int) int {
	switch op {
	case api.ExpNum, api.ExpVar, api.ExpLoad, api.ExpNull, api.ExpAddr:
		return 0
	case api.ExpIndex, api.ExpNeg, api.ExpNot, api.ExpAddrAt:
		return 1
	}
	if _, level := Sign(op); level > 0 {
		return 2
	}
	return -1
}

// Unary is the level of what is stronger than every binary operator.
const Unary = 7

// Sign returns the sign of a binary operator and its level, from 1 for the weakest on; an empty text and 0 for other kinds.
func Sign(op int) (string, int) {
	switch op {
	case api.ExpOr:
		return "||", 1
	case api.ExpAnd:
		return "&&", 2
	case api.ExpEq:
		return "==", 3
	case api.ExpNe:
		return "!=", 3
	case api.ExpLt:
		return "<", 4
	case api.ExpLe:
		return "<=", 4
	case api.ExpAdd:
		return "+", 5
	case api.ExpSub:
		return "-", 5
	case api.ExpMul:
		return "*", 6
	case api.ExpDiv:
		return "/", 6
	case api.ExpRem:
		return "%", 6
	}
	return "", 0
}

// Operator returns the binary operator with a sign and its level, or 0 and 0.
func Operator(sign string) (int, int) {
	for op := api.ExpMul; op <= api.ExpOr; op++ {
		if s, level := Sign(op); s == sign {
			return op, level
		}
	}
	return 0, 0
}
