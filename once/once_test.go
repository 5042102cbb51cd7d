package once_test

import (
	"slices"
	"testing"

	"sondage/api"
	. "sondage/once"
)

func TestAdd(t *testing.T) {
	a, b, c := api.Key{Name: "a"}, api.Key{Name: "b"}, api.Key{Name: "a", Node: 1}
	if l := Add(nil, b, a, b, c, a); !slices.Equal(l, []api.Key{b, a, c}) {
		t.Error(l)
	}
	if l := Add([]api.Key{a, a}, a, b); !slices.Equal(l, []api.Key{a, a, b}) {
		t.Error(l)
	}
	if l := Add([]api.Key{a}); !slices.Equal(l, []api.Key{a}) {
		t.Error(l)
	}
}
