package types

import (
	"math"

	"kindling/api"
)

// generic is the level of a scheme's variables.
const generic = math.MaxInt

// node is a type of the search: a constructor's, or a variable, which may be bound to another type.
type node struct {
	stamp int // 0 of a variable
	name  string
	args  []*node
	bound *node
	level int // of a variable: how many lets and funs are around what it belongs to
}

// noType is what the search is given up with.
type noType struct{}

// fail gives up: there is no type.
func fail() { panic(noType{}) }

// local is a name that a pattern, a let or a fun has made; the generic variables of its type may be any.
type local struct {
	name string
	t    *node
}

// search looks for the types of one declaration.
type search struct {
	env    *Env
	level  int
	locals map[string][]*node // the types of a name, the innermost last
	parts  []*node            // the types of all parts so far
}

// attempt runs a search and tells whether it found types.
func attempt(run func()) (ok bool) {
	defer func() {
		if thrown := recover(); thrown != nil {
			if _, own := thrown.(noType); !own {
				panic(thrown)
			}
			ok = false
		}
	}()
	run()
	return true
}

// push makes names known; pop forgets them.
func (s *search) push(l []local) {
	for _, x := range l {
		s.locals[x.name] = append(s.locals[x.name], x.t)
	}
}

func (s *search) pop(l []local) {
	for _, x := range l {
		s.locals[x.name] = s.locals[x.name][:len(s.locals[x.name])-1]
	}
}

// part notes the type of a part.
func (s *search) part(t *node) *node {
	s.parts = append(s.parts, t)
	return t
}

func (s *search) variable() *node { return &node{level: s.level} }

// variables are new ones.
func (s *search) variables(n int) []*node {
	var l []*node
	for range n {
		l = append(l, s.variable())
	}
	return l
}

func made(stamp int, name string, l ...*node) *node { return &node{stamp: stamp, name: name, args: l} }

func whole() *node         { return made(api.SInt, "int") }
func text() *node          { return made(api.SString, "string") }
func unit() *node          { return made(api.SUnit, "unit") }
func exn() *node           { return made(api.SExn, "exn") }
func truth() *node         { return made(api.SBool, "bool") }
func refTo(t *node) *node  { return made(api.SRef, "ref", t) }
func listOf(t *node) *node { return made(api.SList, "list", t) }

func arrow(from, to *node) *node { return made(api.SArrow, "->", from, to) }

func tuple(l []*node) *node {
	if len(l) == 0 {
		return unit()
	}
	return made(api.STuple, "*", l...)
}

// seen is what a type is bound to in the end.
func seen(t *node) *node {
	for t.bound != nil {
		t = t.bound
	}
	return t
}

// each tells a type's parts. It gives up a type that has too many: whatever the search meets is the type of a part of the declaration, or stands in it.
func each(t *node, tell func(*node)) {
	left := api.MaxType
	var walk func(*node)
	walk = func(t *node) {
		if t, left = seen(t), left-1; left < 0 {
			fail()
		}
		tell(t)
		for _, a := range t.args {
			walk(a)
		}
	}
	walk(t)
}

// bind binds a variable to a type in which it does not stand.
func bind(v, t *node) {
	each(t, func(part *node) {
		if part == v {
			fail()
		}
		if part.stamp == 0 {
			part.level = min(part.level, v.level)
		}
	})
	v.bound = t
}

// same makes two types the same, in so many pairs at most: each of them is another part of what both become.
func same(a, b *node) {
	left := api.MaxType
	unify(a, b, &left)
}

func unify(a, b *node, left *int) {
	a, b = seen(a), seen(b)
	if *left--; *left < 0 {
		fail()
	}
	switch {
	case a == b:
	case a.stamp == 0:
		bind(a, b)
	case b.stamp == 0:
		bind(b, a)
	case a.stamp != b.stamp || len(a.args) != len(b.args):
		fail()
	default:
		for i := range a.args {
			unify(a.args[i], b.args[i], left)
		}
	}
}

// free makes generic what is a variable of these names' types alone.
func (s *search) free(l []local) {
	for _, x := range l {
		each(x.t, func(t *node) {
			if t.stamp == 0 && t.level > s.level {
				t.level = generic
			}
		})
	}
}

// use is a name's type, with new variables in place of generic ones.
func (s *search) use(t *node) *node {
	each(t, func(*node) {}) // what has too many parts is not copied
	return s.copy(t, map[*node]*node{})
}

func (s *search) copy(t *node, fresh map[*node]*node) *node {
	t = seen(t)
	if t.stamp == 0 {
		if t.level != generic {
			return t
		}
		if fresh[t] == nil {
			fresh[t] = s.variable()
		}
		return fresh[t]
	}
	var l []*node
	for _, a := range t.args {
		l = append(l, s.copy(a, fresh))
	}
	return made(t.stamp, t.name, l...)
}

// build is a type of the search with these variables.
func build(t api.Type, vars []*node) *node {
	if t.Kind == api.KVar {
		return vars[t.N]
	}
	var l []*node
	for _, a := range t.L {
		l = append(l, build(a, vars))
	}
	return made(t.N, t.Name, l...)
}

// told is a type as it is told, its variables numbered in the order in which they stand.
func told(t *node, number map[*node]int) api.Type {
	t = seen(t)
	if t.stamp == 0 {
		if _, ok := number[t]; !ok {
			number[t] = len(number)
		}
		return api.Type{Kind: api.KVar, N: number[t]}
	}
	var l []api.Type
	for _, a := range t.args {
		l = append(l, told(a, number))
	}
	return con(t.stamp, t.name, l...)
}
