package reply_test

import (
	"slices"
	"strings"
	"testing"

	"sondage/api"
	"sondage/cong"
	"sondage/names"
	. "sondage/reply"
	"sondage/span"
	"sondage/value"
)

const (
	least = -1 << 63
	most  = 1<<63 - 1
)

func of(s api.Span, c api.Cong, null bool, l ...string) api.Value {
	return api.Value{Span: s, Cong: c, Set: names.Of(null, l...)}
}

func equal(a, b api.Value) bool {
	return a.Span == b.Span && a.Cong == b.Cong && a.Set.Null == b.Set.Null && slices.Equal(a.Set.Names, b.Set.Names)
}

// P40.1, P40.2, P40.4
func TestValues(t *testing.T) {
	long := strings.Repeat("x", api.MaxName)
	for _, x := range []struct {
		v    api.Value
		text string
	}{
		{api.Value{}, "nothing"}, {value.Num(3), "3..3 by 0 at 3"}, {value.Num(-3), "-3..-3 by 0 at -3"}, {value.Num(0), "0..0 by 0 at 0"}, {value.Ints(), "-9223372036854775808..9223372036854775807"},
		{of(span.Of(1, 9), cong.Of(4, 1), false, "g"), "1..9 by 4 at 1 &g"}, {of(span.Of(1, 9), cong.All(), true), "1..9 null"}, {of(api.Span{}, api.Cong{}, true, "a", "B", "_"), "null &B &_ &a"}, {of(api.Span{}, api.Cong{}, false, "a", "ab", "b"), "&a &ab &b"}, {of(api.Span{}, api.Cong{}, true), "null"}, {of(span.Of(0, 3), cong.One(7), false), "0..3 by 0 at 7"}, {of(span.Of(0, 3), cong.Of(2, 0), true, long), "0..3 by 2 at 0 null &" + long}, {of(span.All(), cong.Of(most, most-1), false), "-9223372036854775808..9223372036854775807 by 9223372036854775807 at 9223372036854775806"}, {of(span.One(least), cong.One(least), false), "-9223372036854775808..-9223372036854775808 by 0 at -9223372036854775808"},
	} {
		if text := Value(x.v); text != x.text {
			t.Errorf("%v: %q, not %q", x.v, text, x.text)
		}
		if v, err := Read(x.text); err != api.OK || !equal(v, x.v) {
			t.Errorf("%q: %v %d", x.text, v, err)
		}
	}
	// The clean form counts.
	for _, x := range []struct {
		v    api.Value
		text string
	}{
		{api.Value{Span: api.Span{Some: true, Lo: 4, Hi: 3}, Cong: cong.All()}, "nothing"}, {api.Value{Span: span.One(3)}, "nothing"}, {api.Value{Span: span.One(3), Cong: api.Cong{Some: true, M: -4}}, "3..3"}, {api.Value{Span: span.Of(3, 9), Cong: api.Cong{Some: true, M: 4, R: -1}, Set: api.Set{Names: []string{"b", "a", "b"}}}, "3..9 by 4 at 3 &a &b"}, {api.Value{Set: api.Set{Names: []string{"no name"}}}, "&no name"},
	} {
		if text := Value(x.v); text != x.text {
			t.Errorf("%v: %q, not %q", x.v, text, x.text)
		}
	}
}

// P40.2
func TestErrors(t *testing.T) {
	form, large := api.ErrForm, api.ErrRange
	for _, x := range []struct {
		text string
		err  api.Errno
	}{
		{"", form}, {" ", form}, {"nothing ", form}, {" nothing", form}, {"nothing null", form}, {"nothings", form}, {"5", form}, {"x", form}, {"null nothing", form}, {"1..2 nothing", form},
		{"5..3", form}, {"1..", form}, {"..1", form}, {"..", form}, {"1...3", form}, {"1..2..3", form}, {"a..b", form}, {"1..x", form}, {"01..2", form}, {"1..02", form}, {"-0..1", form}, {"0..-0", form}, {"--1..2", form}, {"-..2", form}, {"+1..2", form}, {"1 ..2", form}, {"0..00", form}, {"-01..2", form}, {"1..2 ", form}, {" 1..2", form}, {"1..2  null", form}, {"1..2\n", form}, {"1_0..20", form},
		{"9223372036854775808..1", large}, {"0..9223372036854775808", large}, {"-9223372036854775809..0", large}, {"99999999999999999999..x", large}, {"x..99999999999999999999", form}, {"099999999999999999999..1", form}, {"1..99999999999999999999x", form}, {"99999999999999999999..3 by", large}, {"5..3 by 99999999999999999999", form},
		{"1..9 by", form}, {"1..9 by 4", form}, {"1..9 by 4 at", form}, {"1..9 by 4 at x", form}, {"1..9 by 4 in 1", form}, {"1..9 by 1 at 0", form}, {"1..9 by -4 at 1", form}, {"1..9 by -0 at 1", form}, {"1..9 by 4 at 4", form}, {"1..9 by 4 at -1", form}, {"1..9 by x at 1", form}, {"1..9 by 04 at 1", form}, {"1..9 by 4 at 01", form}, {"1..9 at 1", form}, {"1..9 by 4 at 1 by 4 at 1", form}, {"by 4 at 1", form}, {"null by 4 at 1", form}, {"1..9 null by 4 at 1", form}, {"1..9 by  4 at 1", form},
		{"1..9 by 9223372036854775808 at 1", large}, {"1..9 by 9223372036854775808", large}, {"1..9 by 4 at 9223372036854775808", large}, {"1..9 by 0 at -9223372036854775809", large}, {"1..9 by 1 at 9223372036854775808", form}, {"1..9 by 4 x 9223372036854775808", form}, {"1..9 by -9223372036854775809 at 1", large},
		{"&", form}, {"& a", form}, {"&a&b", form}, {"&b &a", form}, {"&a &a", form}, {"&int", form}, {"&1", form}, {"&a null", form}, {"null null", form}, {"null &b &a", form}, {"nul", form}, {"1..2 3..4", form}, {"&" + strings.Repeat("x", api.MaxName+1), form}, {"&a..b", form}, {"null..", form}, {"&é", form},
	} {
		if v, err := Read(x.text); err != x.err || !equal(v, api.Value{}) {
			t.Errorf("%q: %v %d, not %d", x.text, v, err, x.err)
		}
	}
}

// P40.3
func TestText(t *testing.T) {
	v := value.Num(4)
	for _, x := range []struct {
		kind int
		a    api.Answer
		text string
	}{
		{api.CmdReach, api.Answer{Say: api.SayYes}, "yes"}, {api.CmdReach, api.Answer{Say: api.SayNo}, "no"}, {api.CmdReach, api.Answer{}, "no"},
		{api.CmdAssert, api.Answer{Say: api.SayYes}, "may fail"}, {api.CmdAssert, api.Answer{Say: api.SayNo}, "holds"}, {api.CmdAssert, api.Answer{}, "may fail"},
		{api.CmdValue, api.Answer{Say: api.SayYes, Value: v}, "4..4 by 0 at 4"}, {api.CmdValue, api.Answer{Say: api.SayNo, Value: v}, "no"}, {api.CmdValue, api.Answer{Value: v}, "4..4 by 0 at 4"}, {api.CmdPoints, api.Answer{Say: api.SayYes}, "nothing"}, {api.CmdPoints, api.Answer{Say: api.SayNo}, "no"}, {api.CmdPoints, api.Answer{Say: api.SayYes, Value: value.Zero(true)}, "null"},
		{api.CmdWhole, api.Answer{Value: v}, "4..4 by 0 at 4"}, {api.CmdWhole, api.Answer{Say: api.SayNo}, "nothing"},
		{api.CmdFunc, api.Answer{}, "done"}, {api.CmdGlobal, api.Answer{Say: api.SayNo}, "done"}, {api.CmdDrop, api.Answer{}, "done"}, {api.CmdBudget, api.Answer{}, "done"}, {0, api.Answer{Say: api.SayYes, Value: v}, "done"}, {99, api.Answer{}, "done"},
		{api.CmdFunc, api.Answer{Err: api.ErrForm, At: 17}, "error 3 at 17"}, {api.CmdReach, api.Answer{Err: api.ErrBudget, Say: api.SayYes}, "error 13 at 0"}, {99, api.Answer{Err: api.ErrOpen, At: -4}, "error 15 at -4"},
	} {
		if text := Text(api.Command{Kind: x.kind}, x.a); text != x.text {
			t.Error(x, text)
		}
	}
}

// P40.4: whatever can be read is written in the same way.
func TestReadingAgain(t *testing.T) {
	words := []string{"1..9", "-5..5", "by", "0", "4", "at", "1", "null", "&a", "&b", "nothing", ""}
	var try func(l []string)
	try = func(l []string) {
		text := strings.Join(l, " ")
		if v, err := Read(text); err == api.OK && Value(v) != text {
			t.Errorf("%q: %q", text, Value(v))
		}
		if len(l) < 5 {
			for _, w := range words {
				try(append(slices.Clone(l), w))
			}
		}
	}
	try(nil)
}
