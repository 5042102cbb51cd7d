package mem_test

import (
	"slices"
	"testing"

	"sondage/api"
	. "sondage/mem"
)

func world() *Mem {
	return New(api.Program{Globals: []api.Global{{Name: "x"}, {Name: "p", Ptr: true}, {Name: "a", Size: 2}, {Name: "x", Size: 9}, {Name: "q", Ptr: true}, {Name: "n", Size: -4}}})
}

var null = api.Word{Ptr: true}

func at(name string, i int) api.Cell { return api.Cell{Name: name, At: i} }

// P19.1
func TestPlaces(t *testing.T) {
	m := world()
	for _, x := range []struct {
		name string
		i    int
		err  api.Errno
	}{
		{"x", 0, api.OK}, {"x", 1, api.ErrIndex}, {"x", -1, api.ErrIndex}, {"p", 0, api.OK}, {"p", 1, api.ErrIndex}, {"a", 0, api.OK}, {"a", 1, api.OK}, {"a", 2, api.ErrIndex}, {"a", -1, api.ErrIndex}, {"n", 0, api.OK}, {"n", 1, api.ErrIndex}, {"q", 0, api.OK}, {"q", 1, api.ErrIndex}, {"zz", 0, api.ErrNone}, {"zz", -5, api.ErrNone}, {"", 0, api.ErrNone},
	} {
		want := api.Cell{}
		if x.err == api.OK {
			want = at(x.name, x.i)
		}
		if c, err := m.Place(x.name, x.i); c != want || err != x.err {
			t.Error(x, c, err)
		}
		w, err := m.Get(at(x.name, x.i))
		wantErr := x.err
		if x.name == "" {
			wantErr = api.ErrNull
		}
		if err != wantErr || x.err == api.OK && w != (api.Word{Ptr: x.name == "p" || x.name == "q"}) || x.err != api.OK && w != (api.Word{}) {
			t.Error(x, w, err)
		}
		if err := m.Set(at(x.name, x.i), w); err != wantErr {
			t.Error(x, err)
		}
	}
	want := []Held{{C: at("a", 0)}, {C: at("a", 1)}, {C: at("n", 0)}, {C: at("p", 0), W: null}, {C: at("q", 0), W: null}, {C: at("x", 0)}}
	if l := m.All(); !slices.Equal(l, want) {
		t.Error(l)
	}
	if l := New(api.Program{}).All(); len(l) != 0 {
		t.Error(l)
	}
}

// P19.2, P19.4
func TestWords(t *testing.T) {
	m := world()
	five, to := api.Word{N: 5}, api.Word{Ptr: true, To: at("a", 1)}
	for _, x := range []struct {
		c   api.Cell
		w   api.Word
		err api.Errno
	}{
		{at("x", 0), five, api.OK}, {at("a", 1), api.Word{N: -7}, api.OK}, {at("p", 0), to, api.OK},
		{at("x", 0), null, api.ErrType}, {at("a", 0), to, api.ErrType}, {at("p", 0), five, api.ErrType}, {at("a", 2), null, api.ErrIndex}, {at("zz", 0), five, api.ErrNone}, {at("", 0), five, api.ErrNull}, {at("", 7), five, api.ErrNull},
	} {
		if err := m.Set(x.c, x.w); err != x.err {
			t.Error(x, err)
		}
	}
	want := []Held{{C: at("a", 0)}, {C: at("a", 1), W: api.Word{N: -7}}, {C: at("n", 0)}, {C: at("p", 0), W: to}, {C: at("q", 0), W: null}, {C: at("x", 0), W: five}}
	if l := m.All(); !slices.Equal(l, want) {
		t.Error(l)
	}
	for _, h := range want {
		if w, err := m.Get(h.C); w != h.W || err != api.OK {
			t.Error(h, w, err)
		}
	}
	m.Set(at("x", 0), api.Word{N: 9})
	if w, _ := m.Get(at("x", 0)); w.N != 9 {
		t.Error(w)
	}
	if w, _ := world().Get(at("x", 0)); w.N != 0 {
		t.Error("another memory", w)
	}
}

// A global with an empty name has no place that can be reached through a pointer.
func TestEmptyName(t *testing.T) {
	m := New(api.Program{Globals: []api.Global{{}}})
	if _, err := m.Place("", 0); err != api.OK {
		t.Error(err)
	}
	if _, err := m.Get(api.Cell{}); err != api.ErrNull {
		t.Error(err)
	}
	if err := m.Set(api.Cell{}, null); err != api.ErrNull {
		t.Error(err)
	}
}

// P19.3
func TestNil(t *testing.T) {
	var m *Mem
	if c, err := m.Place("x", 0); c != (api.Cell{}) || err != api.ErrNil {
		t.Error(c, err)
	}
	if w, err := m.Get(at("", 0)); w != (api.Word{}) || err != api.ErrNil {
		t.Error(w, err)
	}
	if err := m.Set(at("x", 0), null); err != api.ErrNil {
		t.Error(err)
	}
	if len(m.All()) != 0 {
		t.Error("all")
	}
}
