package sample_test

import (
	"strings"
	"testing"

	"sondage/api"
	"sondage/check"
	. "sondage/sample"
)

func TestValid(t *testing.T) {
	shapes := []Shape{Full(), Plain(), {}, {Calls: true, Funcs: 4, Deep: 1}, {Globals: true, Loops: true}}
	for seed := range 300 {
		for _, shape := range shapes {
			p := Program(seed, shape)
			if i, at, err := check.Program(p); err != api.OK || len(p.Funcs) != shape.Funcs+1 {
				t.Fatal(seed, i, at, err, strings.Join(Texts(seed, shape), "\n"))
			}
		}
	}
	if strings.Join(Texts(5, Full()), "") != strings.Join(Texts(5, Full()), "") || strings.Join(Texts(5, Full()), "") == strings.Join(Texts(6, Full()), "") {
		t.Error("seeds")
	}
}
