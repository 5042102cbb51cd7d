package parse_test

import (
	"strconv"
	"strings"
	"testing"

	"sondage/api"
	. "sondage/parse"
	"sondage/token"
	"sondage/tree"
)

// show writes a tree with all its parentheses, and the offsets of its expressions.
func show(e api.Expr) string {
	s := strconv.Itoa(e.Op) + "@" + strconv.Itoa(e.At)
	if e.Op == api.ExpNum {
		s += ":" + strconv.Itoa(e.N)
	}
	if e.Name != "" {
		s += ":" + e.Name
	}
	for _, kid := range e.Kids {
		s += " " + show(kid)
	}
	return "(" + s + ")"
}

// P12.1, P12.2
func TestGrammar(t *testing.T) {
	for _, x := range []struct{ text, want string }{
		{"a-b-c", "(11@3 (11@1 (2@0:a) (2@2:b)) (2@4:c))"},
		{"a-(b-c)", "(11@1 (2@0:a) (11@4 (2@3:b) (2@5:c)))"},
		{"1+x*2", "(10@1 (1@0:1) (7@3 (2@2:x) (1@4:2)))"},
		{"a||b&&c==d<e+f*g", "(17@1 (2@0:a) (16@4 (2@3:b) (14@7 (2@6:c) (12@10 (2@9:d) (10@12 (2@11:e) (7@14 (2@13:f) (2@15:g)))))))"},
		{"a*b+c<d==e&&f||g", "(17@13 (16@10 (14@7 (12@5 (10@3 (7@1 (2@0:a) (2@2:b)) (2@4:c)) (2@6:d)) (2@9:e)) (2@12:f)) (2@15:g))"},
		{"a!=b<=c/d%e", "(15@1 (2@0:a) (13@4 (2@3:b) (9@9 (8@7 (2@6:c) (2@8:d)) (2@10:e))))"},
		{"a<b<=c", "(13@3 (12@1 (2@0:a) (2@2:b)) (2@5:c))"},
		{"--!x", "(5@0 (5@1 (6@2 (2@3:x))))"},
		{"- 5", "(5@0 (1@2:5))"},
		{"a - -b", "(11@2 (2@0:a) (5@4 (2@5:b)))"},
		{"-a*b", "(7@2 (5@0 (2@1:a)) (2@3:b))"},
		{"*p**q", "(7@2 (4@0:p) (4@3:q))"},
		{"&g==&a[i+1]", "(14@2 (19@0:g) (20@4:a (10@8 (2@7:i) (1@9:1))))"},
		{"a[b[2]]", "(3@0:a (3@2:b (1@4:2)))"},
		{"null", "(18@0)"},
	} {
		e, at, err := Text([]byte(x.text))
		if got := show(e); got != x.want || at != 0 || err != api.OK {
			t.Error(x.text, got, at, err)
		}
	}
}

// P12.2
func TestTextErrors(t *testing.T) {
	deep := strings.Repeat("-", api.MaxDeep-1) + "x"
	chain := "x" + strings.Repeat("+x", api.MaxDeep-1)
	for _, x := range []struct {
		text string
		at   int
		err  api.Errno
	}{
		{"", 0, api.ErrForm}, {"a+", 2, api.ErrForm}, {"a b", 2, api.ErrForm}, {"(a", 2, api.ErrForm}, {"(a]", 2, api.ErrForm}, {"a[1", 3, api.ErrForm}, {"a[]", 2, api.ErrForm}, {"a[1)", 3, api.ErrForm}, {")", 0, api.ErrForm},
		{"*p[1]", 2, api.ErrForm}, {"*1", 1, api.ErrForm}, {"&", 1, api.ErrForm}, {"& null", 2, api.ErrForm}, {"**p", 1, api.ErrForm}, {"&a[", 3, api.ErrForm}, {"f(x)", 1, api.ErrForm}, {"a=b", 1, api.ErrForm}, {"int", 0, api.ErrForm}, {"a;", 1, api.ErrForm}, {"a & b", 2, api.ErrForm},
		{"a # 99999999999999999999", 2, api.ErrForm}, {"a+99999999999999999999", 2, api.ErrRange}, {"007", 0, api.ErrForm},
		{deep, 0, api.OK}, {"-" + deep, 0, api.ErrDeep}, {"--" + deep, 1, api.ErrDeep}, {"--" + deep + " )", 1, api.ErrDeep}, {"( " + deep + ")", 0, api.OK},
		{chain, 0, api.OK}, {chain + "*y", 0, api.OK}, {chain + "+y", len(chain), api.ErrDeep}, {chain + "+y+", len(chain), api.ErrDeep}, {chain + "+", len(chain) + 1, api.ErrForm}, {chain + "+y[", len(chain) + 3, api.ErrForm}, {chain + "*y*z", len(chain) + 2, api.OK},
		{"a[" + deep + "]", 0, api.ErrDeep}, {"&a[" + deep + "]", 0, api.ErrDeep}, {"a[" + deep, len(deep) + 2, api.ErrForm}, {"y+(" + chain + ")", 1, api.ErrDeep}, {"(" + chain + ")+1+2", len(chain) + 2, api.ErrDeep},
		{strings.Repeat("(", 1000) + "x" + strings.Repeat(")", 1000), 0, api.OK},
	} {
		at := x.at
		if x.err == api.OK {
			at = 0
		}
		if e, got, err := Text([]byte(x.text)); got != at || err != x.err || err != api.OK && show(e) != "(0@0)" {
			t.Errorf("%.60s: %d %d, not %d %d", x.text, got, err, at, x.err)
		}
	}
}

// P12.1
func TestExprAmongTokens(t *testing.T) {
	l, _, _ := token.Read([]byte("x = a + b[2] ; *p [ 3"))
	for _, x := range []struct {
		i, end int
		err    api.Errno
	}{
		{-1, 0, api.ErrArg}, {len(l), len(l), api.ErrForm}, {len(l) + 1, 0, api.ErrArg}, {0, 1, api.OK}, {1, 1, api.ErrForm}, {2, 8, api.OK}, {4, 8, api.OK}, {8, 8, api.ErrForm}, {9, 11, api.OK}, {10, 13, api.ErrForm}, {12, 13, api.OK}, {len(l) - 1, len(l) - 1, api.ErrForm},
	} {
		if e, end, err := Expr(l, x.i); end != x.end || err != x.err || err != api.OK && e.Op != 0 {
			t.Error(x, e, end, err)
		}
	}
	// Without an end the missing token counts as one.
	short := l[2:4]
	if _, end, err := Expr(short, 0); end != 2 || err != api.ErrForm {
		t.Error(end, err)
	}
	if e, end, err := Expr(short[:1], 0); end != 1 || err != api.OK || e.Name != "a" {
		t.Error(e, end, err)
	}
	if _, end, err := Expr(nil, 0); end != 0 || err != api.ErrForm {
		t.Error(end, err)
	}
	// Marks are signs only with the kind of a mark, and keywords are no names.
	if _, end, _ := Expr([]api.Token{{Kind: api.TokName, Text: "a"}, {Kind: api.TokName, Text: "+"}, {Kind: api.TokName, Text: "b"}}, 0); end != 1 {
		t.Error(end)
	}
	if _, end, err := Expr([]api.Token{{Kind: 9, Text: "null"}}, 0); end != 0 || err != api.ErrForm {
		t.Error(end, err)
	}
}

// P12.3
func TestEveryInput(t *testing.T) {
	words := []string{"a", "1", "-", "!", "*", "&", "(", ")", "[", "]", "||", "==", "null", "int", ";"}
	var try func(text string, n int)
	try = func(text string, n int) {
		e, at, err := Text([]byte(text))
		if err != api.OK && err != api.ErrForm || at > len(text) {
			t.Error(text, at, err)
		}
		if again, _, err2 := Text([]byte("( " + text + ")")); err == api.OK && (err2 != api.OK || !tree.Same(e, again)) {
			t.Error(text)
		}
		for _, w := range words {
			if n > 0 {
				try(text+w+" ", n-1)
			}
		}
	}
	try("", 4)
}
