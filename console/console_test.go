package console_test

import (
	"slices"
	"strings"
	"testing"

	. "sondage/console"
	"sondage/sample"
)

// P42.1
func TestSplit(t *testing.T) {
	for _, x := range []struct {
		text string
		want []string
	}{
		{"", nil}, {"\n", []string{""}}, {"\n\n", []string{"\n"}}, {"a", []string{"a"}}, {"a\n", []string{"a"}}, {"a\n\n", []string{"a\n"}}, {".", []string{""}}, {".\n", []string{""}}, {".\n.\n", []string{"", ""}}, {".\n\n", []string{"", ""}}, {"\n.", []string{""}}, {"\n\n.", []string{"\n"}},
		{"a\n.\nb\nc\n.\n", []string{"a", "b\nc"}}, {"a\n.\nb\nc", []string{"a", "b\nc"}}, {"a\n.\nb\nc\n", []string{"a", "b\nc"}}, {"a\n.\n\n", []string{"a", ""}}, {"a\n\n.\n\nb", []string{"a\n", "\nb"}},
		{"a.\n. \n ..\n..\n.\r\n.", []string{"a.\n. \n ..\n..\n.\r"}}, {"\xff\x00\n.\n\xfe", []string{"\xff\x00", "\xfe"}},
	} {
		var got []string
		for _, piece := range Split([]byte(x.text)) {
			got = append(got, string(piece))
		}
		if !slices.Equal(got, x.want) {
			t.Errorf("%q: %q, not %q", x.text, got, x.want)
		}
		if n := strings.Count(Run([]byte(x.text)), "\n"); n != len(x.want) {
			t.Errorf("%q: %d lines", x.text, n)
		}
	}
	text := []byte("ab\n.\ncd")
	l := Split(text)
	l[0][0], l[1][0] = 'x', 'y'
	if string(text) != "ab\n.\ncd" {
		t.Error("the text has changed")
	}
}

// P42.2
func TestRun(t *testing.T) {
	for _, x := range []struct{ in, out []string }{
		{nil, nil},
		{[]string{"func int main() { return 3; }", "value main.1"}, []string{"done", "3..3 by 0 at 3"}},
		{[]string{"value main.1", "func int main() {\n\tint x;\n\twhile (x < 10) {\n\t\tx = x + 2;\n\t}\n\treturn x;\n}\n", "value main.1", "value main.2 x", "reach main.1", "value main.5 x"}, []string{"error 7 at 0", "done", "10..10 by 0 at 10", "0..10 by 2 at 0", "yes", "2..10 by 2 at 0"}},
		{[]string{"global int g;", "global int *p;", "func int main() { p = &g; *p = 5; assert(g < 5); assert(g < 6); return g; }", "whole g", "whole p", "points main.1 p", "assert main.3", "assert main.4", "value main.0 p", "drop g", "drop main", "drop p", "whole p"}, []string{"done", "done", "done", "0..5 by 5 at 0", "null &g", "null &g", "may fail", "holds", "null &g", "error 7 at 0", "done", "done", "error 7 at 0"}},
		{[]string{"func int main() { return x; }", "func  int f() {", "global g", "zz", "value f", "reach f.99999999999999999999", "budget 0", "budget 20001", "budget 2", "func int main() { while (1) { } return 2; }", "reach main.1", "budget 20000", "reach main.1", "value main.1", "whole", "", "whole main"}, []string{"error 7 at 20", "error 3 at 10", "error 3 at 0", "error 3 at 0", "error 3 at 0", "error 4 at 0", "error 4 at 0", "error 4 at 0", "done", "done", "error 13 at 0", "done", "no", "no", "error 3 at 0", "error 3 at 0", "error 7 at 0"}},
	} {
		text, want := "", ""
		for i, piece := range x.in {
			text += strings.TrimSuffix(piece, "\n") + "\n.\n"
			want += x.out[i] + "\n"
		}
		if got := Run([]byte(text)); got != want {
			t.Errorf("%s\n%s\nnot\n%s", text, got, want)
		}
	}
}

// P42.3
func TestEveryInput(t *testing.T) {
	var text []string
	for seed := range 8 {
		for _, line := range sample.Texts(seed, sample.Full()) {
			kind := "global "
			if strings.Contains(line, "(") {
				kind = "func "
			}
			text = append(text, kind+line, ".", "value main.1", ".", "whole g", ".", "points f1.3 q", ".")
		}
	}
	whole := strings.Join(text, "\n")
	for i := 0; i < len(whole); i += 397 {
		for _, b := range []string{whole[:i], whole[i:], whole[:i] + "\n.\n" + whole[i:], whole[:i] + "\xff" + whole[i:]} {
			if len(b) > 3000 {
				b = b[:3000]
			}
			if out := Run([]byte(b)); strings.Count(out, "\n") != len(Split([]byte(b))) || out != Run([]byte(b)) {
				t.Error(i)
			}
		}
	}
}
