// Package once collects unknowns in the order in which they first occur, each once.
package once

import "sondage/api"

// Add appends the keys that are not in l.
func Add(l []api.Key, more ...api.Key) []api.Key {
	for _, k := range more {
		if !has(l, k) {
			l = append(l, k)
		}
	}
	return l
}

func has(l []api.Key, k api.Key) bool {
	for _, x := range l {
		if x == k {
			return true
		}
	}
	return false
}
