// Package sample makes small valid programs, for tests that try many of them.
package sample

import (
	"strconv"
	"strings"

	"sondage/api"
)

// Shape says which programs are made.
type Shape struct {
	Globals bool // globals and pointers
	Calls   bool
	Loops   bool
	Inputs  bool
	Funcs   int // functions beside main
	Deep    int // blocks within blocks
}

// Full is the shape of programs that have everything.
func Full() Shape {
	return Shape{Globals: true, Calls: true, Loops: true, Inputs: true, Funcs: 2, Deep: 3}
}

// Plain is the shape of a main without loops, calls, globals, pointers and input.
func Plain() Shape { return Shape{Deep: 3} }

// maker writes a program; its state decides what comes next.
type maker struct {
	shape Shape
	state uint64
	b     strings.Builder
	arity []string // the parameters of each function: a letter each, i or p
	here  int      // the function that is written, -1 for main
	ptrs  []string // the pointers that are in scope
}

// pick returns a number below n, the same one for the same seed.
func (m *maker) pick(n int) int {
	m.state = m.state*6364136223846793005 + 1442695040888963407
	return int(m.state>>33) % n
}

func (m *maker) one(l ...string) string { return l[m.pick(len(l))] }

func (m *maker) put(pieces ...string) {
	for _, s := range pieces {
		m.b.WriteString(s)
	}
}

// Texts returns the texts of the globals and then of the functions of a program; main comes last.
func Texts(seed int, shape Shape) []string {
	m := &maker{shape: shape, state: uint64(seed)*2862933555777941757 + 3037000493}
	m.pick(2)
	var l []string
	if shape.Globals {
		l = append(l, "int g;", "int h;", "int a[3];", "int *gp;")
	}
	for range shape.Funcs {
		m.arity = append(m.arity, m.one("", "i", "i", "ii", m.pointerParam()))
	}
	for i := range m.arity {
		l = append(l, m.function(i))
	}
	return append(l, m.function(-1))
}

func (m *maker) pointerParam() string {
	if m.shape.Globals {
		return "ip"
	}
	return "i"
}

// Program returns the program with these texts.
func Program(seed int, shape Shape) api.Program { return Lines(Texts(seed, shape)...) }

// function returns the text of function i, or of main.
func (m *maker) function(i int) string {
	m.here = i
	m.b.Reset()
	m.ptrs = nil
	name, arity := "main", ""
	if i >= 0 {
		name, arity = "f"+strconv.Itoa(i), m.arity[i]
	}
	var params []string
	for j, kind := range arity {
		if kind == 'p' {
			params = append(params, "int *p")
			m.ptrs = append(m.ptrs, "p")
		} else {
			params = append(params, "int n"+strconv.Itoa(j))
		}
	}
	m.put("int ", name, "(", strings.Join(params, ", "), ") { int x; int y; ")
	if m.shape.Globals {
		m.put("int *q; ")
		m.ptrs = append(m.ptrs, "q", "gp")
		// Most runs would end soon at a pointer that is null.
		m.put("q = &", m.one("g", "h", "a[1]"), "; ")
		if i < 0 {
			m.put("gp = &", m.one("g", "h", "a[2]"), "; ")
		}
	}
	m.block(m.shape.Deep, 2+m.pick(4))
	m.put("return ", m.expr(2), "; }")
	return m.b.String()
}

func (m *maker) block(deep, n int) {
	for range n {
		m.statement(deep)
	}
}

// target returns a name to which an int can be assigned.
func (m *maker) target() string {
	if m.shape.Globals && m.pick(3) == 0 {
		return m.one("g", "h")
	}
	return m.one("x", "y")
}

func (m *maker) statement(deep int) {
	kind := m.pick(10)
	if deep > 0 && kind < 3 {
		m.nested(deep - 1)
		return
	}
	if m.shape.Globals && kind < 6 {
		m.memory()
		return
	}
	switch {
	case m.shape.Calls && kind == 6 && len(m.arity) > 0:
		m.call()
	case m.shape.Inputs && kind == 7:
		m.put(m.target(), " = input(); ")
	case kind == 8:
		m.put("assert(", m.condition(), "); ")
	case kind == 9 && m.pick(3) == 0:
		m.put("return ", m.expr(1), "; ")
	default:
		m.put(m.target(), " = ", m.expr(2), "; ")
	}
}

// nested writes a statement that has blocks.
func (m *maker) nested(deep int) {
	if m.shape.Loops && m.pick(2) == 0 {
		m.put("while (", m.condition(), ") { ")
		m.block(deep, 1+m.pick(2))
		v := m.one("x", "y")
		m.put(v, " = ", v, " ", m.one("+", "+", "-"), " ", strconv.Itoa(1+m.pick(3)), "; } ")
		return
	}
	m.put("if (", m.condition(), ") { ")
	m.block(deep, 1+m.pick(2))
	m.put("} ")
	if m.pick(2) == 0 {
		m.put("else { ")
		m.block(deep, 1+m.pick(2))
		m.put("} ")
	}
}

// memory writes a statement about arrays and pointers.
func (m *maker) memory() {
	switch m.pick(4) {
	case 0:
		m.put("a[", m.expr(1), "] = ", m.expr(1), "; ")
	case 1:
		m.put("*", m.one(m.ptrs...), " = ", m.expr(1), "; ")
	default:
		m.put(m.one(m.ptrs...), " = ", m.pointer(), "; ")
	}
}

func (m *maker) pointer() string {
	switch m.pick(8) {
	case 0:
		return "null"
	case 1, 2:
		return "&a[" + m.expr(1) + "]"
	case 3:
		return m.one(m.ptrs...)
	}
	return m.one("&g", "&h")
}

func (m *maker) call() {
	i := m.pick(len(m.arity))
	var args []string
	for _, kind := range m.arity[i] {
		if kind == 'p' {
			args = append(args, m.pointer())
		} else {
			args = append(args, m.expr(1))
		}
	}
	if m.pick(3) > 0 {
		m.put(m.target(), " = ")
	}
	m.put("f", strconv.Itoa(i), "(", strings.Join(args, ", "), "); ")
}

func (m *maker) condition() string {
	switch m.pick(6) {
	case 0:
		if m.shape.Globals {
			return m.one(m.ptrs...) + m.one(" == ", " != ") + m.pointer()
		}
		return "!" + m.unit(0)
	case 1:
		return m.compare() + m.one(" && ", " || ") + m.compare()
	}
	return m.compare()
}

func (m *maker) compare() string {
	return m.unit(1) + m.one(" < ", " <= ", " == ", " != ", " < ") + m.unit(1)
}

func (m *maker) expr(deep int) string {
	if deep == 0 || m.pick(3) == 0 {
		return m.unit(deep)
	}
	return m.unit(deep-1) + m.one(" + ", " - ", " * ", " / ", " % ", " + ") + m.unit(deep-1)
}

func (m *maker) unit(deep int) string {
	switch m.pick(12) {
	case 0, 1, 2:
		return strconv.Itoa(m.pick(12))
	case 3:
		return m.one("9223372036854775807", "100", "1000", "-1", "-5", "2")
	case 4:
		if m.shape.Globals {
			return m.one("g", "h", "a[1]", "a[x]", "*"+m.one(m.ptrs...))
		}
	case 5:
		if m.here >= 0 && len(m.arity[m.here]) > 0 {
			return "n0"
		}
	case 6:
		if deep > 0 {
			return "(" + m.expr(deep) + ")"
		}
	case 7:
		return m.one("-", "!") + m.one("x", "y")
	}
	return m.one("x", "y")
}
