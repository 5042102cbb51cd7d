package seek_test

import (
	"testing"

	"sondage/api"
	. "sondage/seek"
)

func TestFirst(t *testing.T) {
	f := api.Func{Name: "f", Params: []api.Var{{Name: "a"}, {Name: "b", Ptr: true}}, Locals: []api.Var{{Name: "c"}, {Name: "a", Ptr: true}}, At: 1}
	p := api.Program{Globals: []api.Global{{Name: "g", At: 1}, {Name: "h"}, {Name: "g", At: 2}}, Funcs: []api.Func{f, {Name: "f", At: 2}}}
	if got, ok := Func(p, "f"); !ok || got.At != 1 {
		t.Error(got, ok)
	}
	if got, ok := Global(p, "g"); !ok || got.At != 1 {
		t.Error(got, ok)
	}
	for _, x := range []struct {
		name    string
		ptr, ok bool
	}{{"a", false, true}, {"b", true, true}, {"c", false, true}, {"d", false, false}, {"", false, false}} {
		if v, ok := Var(f, x.name); ok != x.ok || v.Ptr != x.ptr || ok && v.Name != x.name {
			t.Error(x, v, ok)
		}
	}
	if got, ok := Func(p, "g"); ok || got.Name != "" {
		t.Error(got, ok)
	}
	if got, ok := Global(p, "f"); ok || got != (api.Global{}) {
		t.Error(got, ok)
	}
}
