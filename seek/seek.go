// Package seek finds the functions, globals and variables of a program by their names. Of several with one name the first one counts.
package seek

import "sondage/api"

// Func returns the function with a name, and whether there is one.
func Func(p api.Program, name string) (api.Func, bool) {
	for _, f := range p.Funcs {
		if f.Name == name {
			return f, true
		}
	}
	return api.Func{}, false
}

// Global returns the global with a name, and whether there is one.
func Global(p api.Program, name string) (api.Global, bool) {
	for _, g := range p.Globals {
		if g.Name == name {
			return g, true
		}
	}
	return api.Global{}, false
}

// Var returns the parameter or local variable with a name, and whether there is one.
func Var(f api.Func, name string) (api.Var, bool) {
	for _, l := range [][]api.Var{f.Params, f.Locals} {
		for _, v := range l {
			if v.Name == name {
				return v, true
			}
		}
	}
	return api.Var{}, false
}
