package key_test

import (
	"slices"
	"strings"
	"testing"

	"sondage/api"
	. "sondage/key"
)

func k(name string, node int) api.Key { return api.Key{Name: name, Node: node} }

var keys = []api.Key{k("", -1), k("", 0), k("B", 9), k("a", -1), k("a", 0), k("a", 2), k("a", 10), k("ab", -1), k("b", -1), k("b", 1)}

// P26.1, P26.4
func TestOrder(t *testing.T) {
	if Of("g") != k("g", -1) || Clean(k("g", -7)) != k("g", -1) || Clean(k("g", -1)) != k("g", -1) || Clean(k("g", 0)) != k("g", 0) || Clean(k("g", -1<<63)) != k("g", -1) {
		t.Error("clean")
	}
	for i, a := range keys {
		for j, b := range keys {
			want := 0
			if i < j {
				want = -1
			} else if i > j {
				want = 1
			}
			if Cmp(a, b) != want {
				t.Error(a, b, Cmp(a, b))
			}
		}
	}
	if Cmp(k("g", -1), k("g", -5)) != 0 || Cmp(k("g", -5), k("g", 0)) != -1 || Cmp(k("g", 0), k("g", -1<<63)) != 1 || Cmp(k("g", 1<<63-1), k("g", -1<<63)) != 1 {
		t.Error("negative nodes")
	}
}

// P26.2
func TestLists(t *testing.T) {
	l := []api.Key{k("b", 1), k("a", -3), k("b", 1), k("a", 0), k("a", -1), k("B", 9), k("a", -9)}
	kept := slices.Clone(l)
	row := []api.Key{k("B", 9), k("a", -1), k("a", 0), k("b", 1)}
	for _, x := range []struct {
		name      string
		got, want []api.Key
	}{
		{"row", Row(l), row}, {"row of a row", Row(row), row}, {"row of none", Row(nil), nil},
		{"put", Put(l, k("a", 5)), []api.Key{k("B", 9), k("a", -1), k("a", 0), k("a", 5), k("b", 1)}}, {"put again", Put(l, k("a", -7)), row}, {"put alone", Put(nil, k("a", -7)), []api.Key{k("a", -1)}},
		{"cut", Cut(l, k("a", -2)), []api.Key{k("B", 9), k("a", 0), k("b", 1)}}, {"cut twice", Cut(l, k("b", 1)), row[:3]}, {"cut none", Cut(l, k("b", 2)), row}, {"cut of none", Cut(nil, k("b", 2)), nil},
		{"join", Join(l, []api.Key{k("c", -4), k("a", -2), k("A", 0)}), []api.Key{k("A", 0), k("B", 9), k("a", -1), k("a", 0), k("b", 1), k("c", -1)}}, {"join the other way", Join([]api.Key{k("c", -4)}, l), append(slices.Clone(row), k("c", -1))}, {"join none", Join(nil, nil), nil},
	} {
		if !slices.Equal(x.got, x.want) {
			t.Error(x.name, x.got, x.want)
		}
	}
	for _, x := range []struct {
		k   api.Key
		has bool
	}{{k("a", -1), true}, {k("a", -100), true}, {k("a", 0), true}, {k("a", 1), false}, {k("B", -1), false}, {k("", -1), false}} {
		if Has(l, x.k) != x.has || Has(row, x.k) != x.has || Has(nil, x.k) {
			t.Error("has", x)
		}
	}
	if !slices.Equal(l, kept) {
		t.Error("the argument has changed", l)
	}
}

// P26.3, P26.4
func TestTexts(t *testing.T) {
	long := strings.Repeat("x", api.MaxName)
	for _, x := range []struct {
		k    api.Key
		text string
	}{{k("f", 3), "f.3"}, {k("g", -1), "g"}, {k("f", 0), "f.0"}, {k("f", 1<<63-1), "f.9223372036854775807"}, {k(long, 10), long + ".10"}} {
		got, err := Read(x.text)
		if Text(x.k) != x.text || got != x.k || err != api.OK {
			t.Error(x, Text(x.k), got, err)
		}
	}
	if Text(k("g", -8)) != "g" || Text(k("", 4)) != ".4" {
		t.Error("text")
	}
	for _, x := range []struct {
		text string
		err  api.Errno
	}{
		{"", api.ErrForm}, {".", api.ErrForm}, {".3", api.ErrForm}, {"f.", api.ErrForm}, {"f.03", api.ErrForm}, {"f.00", api.ErrForm}, {"f.-1", api.ErrForm}, {"f.+1", api.ErrForm}, {"f.1 ", api.ErrForm}, {"f.1.2", api.ErrForm}, {"f.x", api.ErrForm}, {" f.1", api.ErrForm}, {"int.1", api.ErrForm}, {"int", api.ErrForm}, {"3.1", api.ErrForm}, {long + "x", api.ErrForm}, {"f.9223372036854775808", api.ErrRange}, {"f.99999999999999999999", api.ErrRange}, {"f.099999999999999999999", api.ErrForm}, {"while.99999999999999999999", api.ErrForm}, {"f.1_0", api.ErrForm},
	} {
		if got, err := Read(x.text); got != (api.Key{}) || err != x.err {
			t.Error(x, got, err)
		}
	}
}
