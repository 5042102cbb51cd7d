package token_test

import (
	"strings"
	"testing"

	"sondage/api"
	. "sondage/token"
)

func name20() string { return strings.Repeat("x", api.MaxName) }

// P10.1
func TestRead(t *testing.T) {
	l, at, err := Read([]byte("x1=-7;"))
	want := []api.Token{{Kind: 1, Text: "x1"}, {Kind: 3, Text: "=", At: 2}, {Kind: 3, Text: "-", At: 3}, {Kind: 2, Text: "7", N: 7, At: 4}, {Kind: 3, Text: ";", At: 5}, {At: 6}}
	if at != 0 || err != api.OK || len(l) != len(want) {
		t.Fatal(l, at, err)
	}
	for i := range l {
		if l[i] != want[i] {
			t.Error(i, l[i], want[i])
		}
	}
	for _, x := range []struct{ text, joined string }{
		{"", ""},
		{"==", "=="},
		{"a z A Z _ zzZZ09", "a z A Z _ zzZZ09"},
		{" \t\r\n", ""},
		{"a==b!=c<=d&&e||f", "a == b != c <= d && e || f"},
		{"(){}[];,=<+-*/%!&", "( ) { } [ ] ; , = < + - * / % ! &"},
		{"===!==<==&&&", "== = != = <= = && &"},
		{"int iff if else while return assert input null nul Int _a a_1", "int iff if else while return assert input null nul Int _a a_1"},
		{"0 10 9223372036854775807", "0 10 9223372036854775807"},
		{"x 1\n2", "x 1 2"},
		{name20() + " " + name20(), name20() + " " + name20() + ""},
	} {
		l, at, err := Read([]byte(x.text))
		if err != api.OK || at != 0 || Join(l[:len(l)-1]) != x.joined || l[len(l)-1] != (api.Token{At: len(x.text)}) {
			t.Errorf("%q: %q %d %d", x.text, Join(l), at, err)
		}
		for _, k := range l[:len(l)-1] {
			isWord := strings.Contains(" int if else while return assert input null ", " "+k.Text+" ")
			kind := api.TokMark
			if !isWord && strings.Contains("_abcdefghijklmnopqrstuvwxyzIAZ", k.Text[:1]) {
				kind = api.TokName
			} else if k.Text[0] >= '0' && k.Text[0] <= '9' {
				kind = api.TokNum
			}
			if k.Kind != kind || !strings.HasPrefix(x.text[k.At:], k.Text) {
				t.Errorf("%q: %v", x.text, k)
			}
		}
	}
	if l, _, _ := Read([]byte("9223372036854775807")); l[0].N != 1<<63-1 {
		t.Error(l)
	}
}

// P10.1
func TestErrors(t *testing.T) {
	many := strings.Repeat("1 ", api.MaxWords)
	long := name20() + "x"
	for _, x := range []struct {
		text string
		at   int
		err  api.Errno
	}{
		{"a # b", 2, api.ErrForm}, {"a | b", 2, api.ErrForm}, {"a |", 2, api.ErrForm}, {"a > b", 2, api.ErrForm}, {"ab\x00", 2, api.ErrForm}, {"a é", 2, api.ErrForm}, {"a\xff", 1, api.ErrForm}, {"\"", 0, api.ErrForm},
		{"12 007", 3, api.ErrForm}, {"00", 0, api.ErrForm}, {"7a", 0, api.ErrForm}, {" 0x", 1, api.ErrForm}, {"1_", 0, api.ErrForm}, {"1é", 1, api.ErrForm},
		{"9223372036854775808", 0, api.ErrRange}, {"1 99999999999999999999999", 2, api.ErrRange}, {"99999999999999999999a", 0, api.ErrForm}, {"099999999999999999999", 0, api.ErrForm},
		{"a " + long, 2, api.ErrMany}, {"# " + long, 0, api.ErrForm}, {long + " #", 0, api.ErrMany},
		{many + "x", len(many), api.ErrMany}, {many + "#", len(many), api.ErrForm}, {many + "|", len(many), api.ErrForm}, {many + "007", len(many), api.ErrMany}, {many + long, len(many), api.ErrMany}, {"# " + many + "x", 0, api.ErrForm},
		{strings.Repeat(" ", api.MaxText) + " ", 0, api.ErrMany}, {"#" + strings.Repeat(" ", api.MaxText), 0, api.ErrMany},
	} {
		if l, at, err := Read([]byte(x.text)); len(l) != 0 || at != x.at || err != x.err {
			t.Errorf("%.30q: %d %d, not %d %d", x.text, at, err, x.at, x.err)
		}
	}
	if l, _, err := Read([]byte(many)); err != api.OK || len(l) != api.MaxWords+1 {
		t.Error("the greatest number of tokens", err)
	}
	if _, _, err := Read([]byte(strings.Repeat(" ", api.MaxText))); err != api.OK {
		t.Error("the longest text", err)
	}
}

// P10.2
func TestNames(t *testing.T) {
	for _, s := range []string{"x", "a", "z", "A", "Z", "a0", "a9", "_", "Zz9", "_0", name20(), "int1", "Null"} {
		if !Name(s) || Word(s) {
			t.Error(s)
		}
	}
	for _, s := range []string{"", "1x", "@", "[", "`", "{", "/", ":", "a@", "a[", "a`", "a{", "a/", "a:", "x y", "x-", "é", "aé", name20() + "x", "x\n"} {
		if Name(s) || Word(s) {
			t.Error(s)
		}
	}
	for _, s := range strings.Fields("int if else while return assert input null") {
		if Name(s) || !Word(s) {
			t.Error(s)
		}
	}
	if Join(nil) != "" || Join([]api.Token{{Text: "a"}, {Text: "b"}}) != "a b" {
		t.Error("join")
	}
}

// P10.3
func TestReadingAgain(t *testing.T) {
	for _, text := range []string{"", "int f(int *p){return *p;}", "a[1]==-2&&!b||c<=d", "x=input();//"} {
		l, _, err := Read([]byte(text))
		again, _, err2 := Read([]byte(Join(l)))
		if err != err2 || len(l) != len(again) {
			t.Fatal(text, err, err2)
		}
		for i := range l {
			l[i].At, again[i].At = 0, 0
			if l[i] != again[i] {
				t.Error(text, l[i], again[i])
			}
		}
	}
}
