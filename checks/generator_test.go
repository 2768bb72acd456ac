package checks

import (
	"fmt"
	"strings"
)

// gty is a type for which the generator makes expressions: a name and arguments.
type gty struct {
	name string
	l    []gty
}

func base(name string) gty         { return gty{name: name} }
func of(name string, l ...gty) gty { return gty{name, l} }
func (t gty) is(u gty) bool        { return t.key() == u.key() }
func (t gty) arrow() bool          { return t.name == "->" }
func (t gty) from() gty            { return t.l[0] }
func (t gty) to() gty              { return t.l[1] }
func fnOf(a, b gty) gty            { return of("->", a, b) }
func listOf(t gty) gty             { return of("list", t) }
func pairOf(a, b gty) gty          { return of("*", a, b) }
func (t gty) key() string {
	s := t.name + "("
	for _, a := range t.l {
		s += a.key()
	}
	return s + ")"
}

// gvar is a name that is known, and its type.
type gvar struct {
	name string
	t    gty
}

// gen makes programs by chance, which is the same for the same seed.
type gen struct {
	x     uint64
	known []gvar
	count int
}

func (g *gen) n(n int) int {
	g.x = g.x*6364136223846793005 + 1442695040888963407
	return int(g.x>>33) % n
}

func (g *gen) pick(words ...string) string { return words[g.n(len(words))] }

// ty is a type.
func (g *gen) ty(deep int) gty {
	k := g.n(11)
	if deep <= 0 {
		k = g.n(5)
	}
	switch k {
	case 0, 1:
		return base("int")
	case 2:
		return base("bool")
	case 3:
		return base("string")
	case 4:
		return base("unit")
	case 5:
		return pairOf(g.ty(deep-1), g.ty(deep-1))
	case 6:
		return listOf(g.ty(deep - 1))
	case 7:
		return fnOf(g.ty(deep-1), g.ty(deep-1))
	case 8:
		return of("ref", g.ty(deep-1))
	case 9:
		return of("tree", g.ty(deep-1))
	}
	return base("exn")
}

// name is a name, one of a few, so that they hide one another.
func (g *gen) name() string {
	g.count++
	if g.n(3) == 0 {
		return g.pick("a", "b", "c", "x'", "it")
	}
	return fmt.Sprintf("v%d", g.count)
}

// with makes something where more names are known.
func (g *gen) with(more []gvar, in func() string) string {
	was := g.known
	g.known = append(was[:len(was):len(was)], more...)
	s := in()
	g.known = was
	return s
}

// variable is a name of a type that is known, if there is one.
func (g *gen) variable(t gty) (string, bool) {
	var l []string
	hidden := map[string]int{}
	for i := len(g.known) - 1; i >= 0; i-- {
		v := g.known[i]
		if hidden[v.name]++; hidden[v.name] == 1 && v.t.is(t) {
			l = append(l, v.name)
		}
	}
	if len(l) == 0 {
		return "", false
	}
	return l[g.n(len(l))], true
}

// function is a name of a function to a type, and what it takes.
func (g *gen) function(t gty) (string, gty, bool) {
	var l []gvar
	hidden := map[string]int{}
	for i := len(g.known) - 1; i >= 0; i-- {
		v := g.known[i]
		if hidden[v.name]++; hidden[v.name] == 1 && v.t.arrow() && v.t.to().is(t) {
			l = append(l, v)
		}
	}
	if len(l) == 0 {
		return "", gty{}, false
	}
	v := l[g.n(len(l))]
	return v.name, v.t.from(), true
}

// pat is a pattern of a type, and its variables, which are unlike those that are there.
func (g *gen) pat(t gty, deep int, there []gvar) (string, []gvar) {
	k := g.n(5)
	if k == 0 {
		return "_", there
	}
	if k > 1 && deep > 0 {
		switch t.name {
		case "int":
			return g.pick("0", "1", "~1", "2"), there
		case "bool":
			return g.pick("true", "false"), there
		case "string":
			return g.pick(`""`, `"a"`, `"ab"`), there
		case "unit":
			return "()", there
		case "*":
			p, there := g.pat(t.l[0], deep-1, there)
			q, there := g.pat(t.l[1], deep-1, there)
			return "(" + p + ", " + q + ")", there
		case "list":
			if g.n(3) == 0 {
				return "nil", there
			}
			p, there := g.pat(t.l[0], deep-1, there)
			q, there := g.pat(t, deep-1, there)
			return "(" + p + " :: " + q + ")", there
		case "tree":
			if g.n(3) == 0 {
				return "Leaf", there
			}
			p, there := g.pat(t, deep-1, there)
			q, there := g.pat(t.l[0], deep-1, there)
			r, there := g.pat(t, deep-1, there)
			return "(Node (" + p + ", " + q + ", " + r + "))", there
		case "exn":
			if g.n(2) == 0 {
				return g.pick("Plain", "Div", "Match", "Subscript"), there
			}
			p, there := g.pat(base("int"), deep-1, there)
			return "(Failed " + p + ")", there
		}
	}
	name := g.name()
	for _, v := range there {
		if v.name == name {
			return "_", there
		}
	}
	return name, append(there, gvar{name, t})
}

// arms are some arms from a type to another; often the last one holds of all.
func (g *gen) arms(from, to gty, deep int) string {
	var l []string
	for range 1 + g.n(3) {
		p, vars := g.pat(from, 2, nil)
		l = append(l, p+" => "+g.with(vars, func() string { return g.expr(to, deep) }))
	}
	if g.n(4) > 0 {
		l = append(l, "_ => "+g.expr(to, deep))
	}
	return strings.Join(l, " | ")
}

// expr is an expression of a type, in brackets where it needs them.
func (g *gen) expr(t gty, deep int) string {
	if v, ok := g.variable(t); ok && g.n(3) == 0 {
		return v
	}
	if deep <= 0 {
		return g.leaf(t)
	}
	deep--
	switch g.n(16) {
	case 0:
		return "(if " + g.expr(base("bool"), deep) + " then " + g.expr(t, deep) + " else " + g.expr(t, deep) + ")"
	case 1:
		from := g.ty(1)
		return "(case " + g.expr(from, deep) + " of " + g.arms(from, t, deep) + ")"
	case 2:
		from := g.ty(1)
		return "((fn " + g.arms(from, t, deep) + ") " + g.expr(from, deep) + ")"
	case 3:
		return "(" + g.expr(t, deep) + " handle " + g.arms(base("exn"), t, deep) + ")"
	case 4:
		return g.let(t, deep)
	case 5:
		return "(" + g.expr(base("unit"), deep) + "; " + g.expr(t, deep) + ")"
	case 6:
		return "(!" + g.expr(of("ref", t), deep) + ")"
	case 7, 8:
		if f, from, ok := g.function(t); ok {
			return "(" + f + " " + g.expr(from, deep) + ")"
		}
	case 9:
		if g.n(3) == 0 {
			return "(raise " + g.expr(base("exn"), deep) + ")"
		}
	case 10:
		if g.n(2) == 0 {
			return "(let val (q, _) = " + g.expr(pairOf(t, base("int")), deep) + " in q end)"
		}
	}
	return g.made(t, deep)
}

// hidden is a name that hides others, and is not used itself: that of a function within its body.
func hidden(name string) []gvar { return []gvar{{name, base("hidden")}} }

// let is a let of an expression of a type.
func (g *gen) let(t gty, deep int) string {
	var decls string
	was := g.known
	for range 1 + g.n(2) {
		if g.n(2) == 0 {
			u := g.ty(1)
			e := g.expr(u, deep)
			p, vars := g.pat(u, 1, nil)
			decls += " val " + p + " = " + e
			g.known = append(g.known[:len(g.known):len(g.known)], vars...)
			continue
		}
		f, a, b, c := g.name(), g.ty(1), g.ty(0), g.ty(1)
		p, vars := g.pat(a, 2, nil)
		q, vars := g.pat(b, 1, vars)
		decls += " fun " + f + " " + p + " " + q + " = " + g.with(append(hidden(f), vars...), func() string { return g.expr(c, deep) })
		g.known = append(g.known[:len(g.known):len(g.known)], gvar{f, fnOf(a, fnOf(b, c))})
	}
	s := "let" + decls + " in " + g.expr(t, deep) + " end"
	g.known = was
	return s
}

// leaf is a short expression of a type.
func (g *gen) leaf(t gty) string {
	switch t.name {
	case "int":
		return g.pick("0", "1", "2", "7", "(~3)", "4611686018427387903")
	case "bool":
		return g.pick("true", "false")
	case "string":
		return g.pick(`""`, `"a"`, `"ab\n"`, `"\x00xyz"`)
	case "unit":
		return "()"
	case "*":
		return "(" + g.leaf(t.l[0]) + ", " + g.leaf(t.l[1]) + ")"
	case "list":
		return "(" + g.leaf(t.l[0]) + " :: nil)"
	case "->":
		return "(fn _ => " + g.leaf(t.to()) + ")"
	case "ref":
		return "(ref " + g.leaf(t.l[0]) + ")"
	case "tree":
		return "(Node (Leaf, " + g.leaf(t.l[0]) + ", Leaf))"
	}
	return g.pick("Plain", "(Failed 5)", "Div", "Chr")
}

// made is an expression of a type that makes something of it.
func (g *gen) made(t gty, deep int) string {
	e := func(t gty) string { return g.expr(t, deep) }
	i, s, b := base("int"), base("string"), base("bool")
	switch t.name {
	case "int":
		switch g.n(8) {
		case 0:
			return "(size " + e(s) + ")"
		case 1:
			return "(ord (" + e(s) + ", " + e(i) + "))"
		case 2:
			return "(~ " + e(i) + ")"
		case 3:
			return "(sum " + e(listOf(i)) + ")"
		}
		return "(" + e(i) + " " + g.pick("+", "-", "*", "div", "mod") + " " + e(i) + ")"
	case "bool":
		switch g.n(5) {
		case 0:
			u := g.ty(1)
			return "(" + e(u) + " " + g.pick("=", "<>") + " " + e(u) + ")"
		case 1:
			return "(not " + e(b) + ")"
		case 2:
			return "(" + e(b) + " " + g.pick("andalso", "orelse") + " " + e(b) + ")"
		}
		return "(" + e(i) + " " + g.pick("<", "<=", ">", ">=") + " " + e(i) + ")"
	case "string":
		switch g.n(3) {
		case 0:
			return "(itos " + e(i) + ")"
		case 1:
			return "(str " + e(i) + ")"
		}
		return "(" + e(s) + " ^ " + e(s) + ")"
	case "unit":
		u := g.ty(0)
		return "(" + e(of("ref", u)) + " := " + e(u) + ")"
	case "*":
		return "(" + e(t.l[0]) + ", " + e(t.l[1]) + ")"
	case "list":
		switch g.n(5) {
		case 0:
			return "nil"
		case 1:
			u := g.ty(0)
			return "(map " + e(fnOf(u, t.l[0])) + " " + e(listOf(u)) + ")"
		case 2:
			return "(append " + e(t) + " " + e(t) + ")"
		}
		return "(" + e(t.l[0]) + " :: " + e(t) + ")"
	case "->":
		return "(fn " + g.arms(t.from(), t.to(), deep) + ")"
	case "ref":
		return "(ref " + e(t.l[0]) + ")"
	case "tree":
		if g.n(3) == 0 {
			return "Leaf"
		}
		return "(Node (" + e(t) + ", " + e(t.l[0]) + ", " + e(t) + "))"
	}
	if g.n(2) == 0 {
		return "(Failed " + e(i) + ")"
	}
	return g.leaf(t)
}

// preludes are the items that each program begins with.
func preludes() []string {
	return []string{
		"datatype 'a tree = Leaf | Node of 'a tree * 'a * 'a tree; exception Plain; exception Failed of int",
		"fun map f = fn nil => nil | y :: r => f y :: map f r",
		"fun append l m = case l of nil => m | y :: r => y :: append r m; fun sum l = case l of nil => 0 | y :: r => y + sum r",
	}
}

// items are a program's further items: each a declaration or two.
func (g *gen) items(n, deep int) []string {
	var l []string
	for range n {
		t := g.ty(2)
		switch g.n(4) {
		case 0:
			l = append(l, g.expr(t, deep))
			g.known = append(g.known, gvar{"it", t})
		case 1:
			f, a, c := g.name(), g.ty(1), g.ty(1)
			p, vars := g.pat(a, 2, nil)
			l = append(l, "fun "+f+" "+p+" = "+g.with(append(hidden(f), vars...), func() string { return g.expr(c, deep) }))
			g.known = append(g.known, gvar{f, fnOf(a, c)})
		case 2:
			e := g.expr(t, deep)
			p, vars := g.pat(t, 2, nil)
			l = append(l, "val "+p+" = "+e)
			g.known = append(g.known, vars...)
		case 3:
			name := g.name()
			l = append(l, "val "+name+" = "+g.expr(t, deep))
			g.known = append(g.known, gvar{name, t})
		}
	}
	return l
}
