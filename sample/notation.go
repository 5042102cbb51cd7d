package sample

import (
	"strings"

	"sondage/api"
	"sondage/grammar"
	"sondage/key"
)

// Lines returns the program of some texts, each a global or a function. A text that is neither is a mistake of a test, and ends it by a panic.
func Lines(texts ...string) api.Program {
	var p api.Program
	for _, text := range texts {
		f, _, err := grammar.FuncText([]byte(text))
		if err == api.OK {
			p.Funcs = append(p.Funcs, f)
			continue
		}
		g, _, err := grammar.GlobalText([]byte(text))
		if err != api.OK {
			panic("no global or function: " + text)
		}
		p.Globals = append(p.Globals, g)
	}
	return p
}

// Key returns the unknown with a text. Another text is a mistake of a test, and ends it by a panic.
func Key(text string) api.Key {
	k, err := key.Read(text)
	if err != api.OK {
		panic("no unknown: " + text)
	}
	return k
}

// Keys returns the unknowns of texts that are separated by blanks.
func Keys(texts string) []api.Key {
	var l []api.Key
	for _, text := range strings.Fields(texts) {
		l = append(l, Key(text))
	}
	return l
}

// Show returns the texts of unknowns, separated by blanks.
func Show(l []api.Key) string {
	var texts []string
	for _, k := range l {
		texts = append(texts, key.Text(k))
	}
	return strings.Join(texts, " ")
}
