package order_test

import (
	"strings"
	"testing"

	"sondage/api"
	. "sondage/order"
)

// P37.1, P37.2, P37.3
func TestCommands(t *testing.T) {
	for _, x := range []struct {
		text string
		c    api.Command
	}{
		{"func int f() { }", api.Command{Kind: api.CmdFunc, Text: "int f() { }"}}, {"func ", api.Command{Kind: api.CmdFunc}}, {"func  x\n y \n", api.Command{Kind: api.CmdFunc, Text: " x\n y \n"}}, {"global int g;", api.Command{Kind: api.CmdGlobal, Text: "int g;"}}, {"global \xff", api.Command{Kind: api.CmdGlobal, Text: "\xff"}},
		{"drop g", api.Command{Kind: api.CmdDrop, Name: "g"}}, {"value f.3", api.Command{Kind: api.CmdValue, Func: "f", Node: 3}}, {"value f.3 x", api.Command{Kind: api.CmdValue, Func: "f", Node: 3, Name: "x"}}, {"reach f.0", api.Command{Kind: api.CmdReach, Func: "f"}}, {"assert main.9223372036854775807", api.Command{Kind: api.CmdAssert, Func: "main", Node: 1<<63 - 1}}, {"points f.3 p", api.Command{Kind: api.CmdPoints, Func: "f", Node: 3, Name: "p"}}, {"whole g", api.Command{Kind: api.CmdWhole, Name: "g"}}, {"budget 0", api.Command{Kind: api.CmdBudget}}, {"budget 9223372036854775807", api.Command{Kind: api.CmdBudget, N: 1<<63 - 1}},
	} {
		c, err := Read([]byte(x.text))
		if c != x.c || err != api.OK || Text(x.c) != x.text {
			t.Errorf("%q: %v %d %q", x.text, c, err, Text(x.c))
		}
	}
}

// P37.1
func TestErrors(t *testing.T) {
	for _, x := range []struct {
		text string
		err  api.Errno
	}{
		{"", api.ErrForm}, {" ", api.ErrForm}, {"func", api.ErrForm}, {"func\n", api.ErrForm}, {"Func x", api.ErrForm}, {"fun x", api.ErrForm}, {" func x", api.ErrForm}, {"zz x", api.ErrForm}, {"funcs x", api.ErrForm}, {"drop", api.ErrForm}, {"drop\tg", api.ErrForm},
		{"drop ", api.ErrForm}, {"drop  g", api.ErrForm}, {"drop g ", api.ErrForm}, {"drop g h", api.ErrForm}, {"drop int", api.ErrForm}, {"drop g.1", api.ErrForm}, {"drop g\n", api.ErrForm}, {"whole g h", api.ErrForm}, {"whole 1", api.ErrForm}, {"whole f.1", api.ErrForm},
		{"value f", api.ErrForm}, {"value f.1 x y", api.ErrForm}, {"value f.1 ", api.ErrForm}, {"value f.1  x", api.ErrForm}, {"value f.01", api.ErrForm}, {"value f.1 1", api.ErrForm}, {"value f.1 int", api.ErrForm}, {"value ", api.ErrForm}, {"value f x", api.ErrForm},
		{"reach f", api.ErrForm}, {"reach f.1 x", api.ErrForm}, {"reach f.-1", api.ErrForm}, {"assert f", api.ErrForm}, {"assert f.1 x", api.ErrForm}, {"points f.1", api.ErrForm}, {"points f.1 p q", api.ErrForm}, {"points f p", api.ErrForm}, {"points f.1 null", api.ErrForm},
		{"budget ", api.ErrForm}, {"budget x", api.ErrForm}, {"budget 01", api.ErrForm}, {"budget -1", api.ErrForm}, {"budget 1 2", api.ErrForm}, {"budget +1", api.ErrForm}, {"budget 1.2", api.ErrForm}, {"budget 00", api.ErrForm},
		{"value f.9223372036854775808", api.ErrRange}, {"value f.9223372036854775808 int", api.ErrRange}, {"points f.99999999999999999999 1", api.ErrRange}, {"value int.99999999999999999999", api.ErrForm}, {"value f.99999999999999999999 x y", api.ErrForm}, {"budget 9223372036854775808", api.ErrRange}, {"budget 99999999999999999999 ", api.ErrForm}, {"reach f.9223372036854775808", api.ErrRange},
	} {
		if c, err := Read([]byte(x.text)); c != (api.Command{}) || err != x.err {
			t.Errorf("%q: %v %d, not %d", x.text, c, err, x.err)
		}
	}
}

// P37.2
func TestText(t *testing.T) {
	for _, x := range []struct {
		c    api.Command
		text string
	}{
		{api.Command{}, ""}, {api.Command{Kind: -1, Name: "x"}, ""}, {api.Command{Kind: 10, Text: "x"}, ""},
		{api.Command{Kind: api.CmdBudget, N: -5}, "budget -5"}, {api.Command{Kind: api.CmdPoints, Func: "f", Node: 2}, "points f.2 "}, {api.Command{Kind: api.CmdDrop, Name: "a b"}, "drop a b"}, {api.Command{Kind: api.CmdValue, Func: "f", Node: -3, Name: "x"}, "value f x"}, {api.Command{Kind: api.CmdReach, Func: "f", Node: 4, Name: "x", Text: "y", N: 3}, "reach f.4"}, {api.Command{Kind: api.CmdWhole, Name: "g", Func: "f"}, "whole g"}, {api.Command{Kind: api.CmdFunc, Text: "x", Name: "y"}, "func x"}, {api.Command{Kind: api.CmdAssert, Func: ""}, "assert .0"},
	} {
		if text := Text(x.c); text != x.text {
			t.Errorf("%v: %q", x.c, text)
		}
	}
}

// P37.3
func TestEveryInput(t *testing.T) {
	pieces := []string{"func", "drop", "value", "points", "budget", " ", "f.1", "x", "0", "f", "", "."}
	for _, a := range pieces {
		for _, b := range pieces {
			for _, c := range pieces {
				for _, d := range pieces {
					text := strings.Join([]string{a, b, c, d}, "")
					if cmd, err := Read([]byte(text)); err == api.OK && Text(cmd) != text {
						t.Errorf("%q: %v", text, cmd)
					}
				}
			}
		}
	}
}
