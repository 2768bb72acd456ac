package types

import (
	"slices"

	"kindling/api"
)

// typed is the values that a val, a fun or an expression makes.
func (x *Env) typed(d api.Decl) ([]api.Bind, bool) {
	s := &search{env: x, locals: map[string][]*node{}}
	var l []api.Bind
	ok := attempt(func() {
		if d.Kind == api.DExpr {
			d = api.Decl{Kind: api.DVal, Pat: api.Pat{Kind: api.PVar, Name: "it"}, Expr: d.Expr}
		}
		made := s.decl(d)
		for _, t := range s.parts {
			each(t, func(*node) {})
		}
		for _, v := range made {
			l = append(l, s.bound(v))
		}
	})
	if !ok {
		return nil, false
	}
	return l, true
}

// bound is a name and its scheme; a variable that is not generic may not be left.
func (s *search) bound(v local) api.Bind {
	each(v.t, func(t *node) {
		if t.stamp == 0 && t.level != generic {
			fail()
		}
	})
	number := map[*node]int{}
	t := told(v.t, number)
	return api.Bind{Name: v.name, Scheme: api.Scheme{Vars: len(number), Type: t}}
}

// decl is the names that a val or a fun makes.
func (s *search) decl(d api.Decl) []local {
	if d.Kind == api.DFun {
		return s.funs(d.Funs)
	}
	value := s.isValue(d.Expr)
	if value {
		s.level++
	}
	var l []local
	t := s.expr(d.Expr)
	same(s.pat(d.Pat, &l), t)
	if value {
		s.level--
		s.free(l)
	}
	return l
}

func (s *search) funs(l []api.Fun) []local {
	s.level++
	var names []local
	for _, f := range l {
		names = append(names, local{f.Name, s.part(s.variable())})
	}
	s.push(names)
	for i, f := range l {
		var vars []local
		takes := s.pats(f.Pats, &vars)
		s.push(vars)
		t := s.expr(f.Body)
		s.pop(vars)
		for _, from := range slices.Backward(takes) {
			t = arrow(from, t)
		}
		same(names[i].t, t)
	}
	s.pop(names)
	s.level--
	s.free(names)
	return names
}

// isValue tells whether an expression is a value: whether it does nothing but stand there.
func (s *search) isValue(e api.Expr) bool {
	switch e.Kind {
	case api.EInt, api.EText, api.EVar, api.ECon, api.EFn:
		return true
	case api.EApp:
		k, _ := s.env.maker(e.L[0].Name)
		return e.L[0].Kind == api.ECon && k.Has && s.isValue(e.L[1])
	case api.EBin:
		return e.Name == "::" && s.isValue(e.L[0]) && s.isValue(e.L[1])
	case api.ETuple:
		for _, part := range e.L {
			if !s.isValue(part) {
				return false
			}
		}
		return true
	}
	return false
}

// expr is the type of an expression.
func (s *search) expr(e api.Expr) *node { return s.part(s.exprOf(e)) }

func (s *search) exprs(l []api.Expr) []*node {
	var types []*node
	for _, e := range l {
		types = append(types, s.expr(e))
	}
	return types
}

func (s *search) exprOf(e api.Expr) *node {
	switch e.Kind {
	case api.EInt:
		return whole()
	case api.EText:
		return text()
	case api.EVar:
		return s.name(e.Name)
	case api.ECon:
		k, _ := s.env.maker(e.Name)
		arg, t := s.maker(k)
		if k.Has {
			return arrow(arg, t)
		}
		return t
	case api.EFn:
		from, to := s.variable(), s.variable()
		s.arms(e.Pats, e.L, from, to)
		return arrow(from, to)
	case api.ECase:
		of, to := s.expr(e.L[0]), s.variable()
		s.arms(e.Pats, e.L[1:], of, to)
		return to
	case api.EHandle:
		to := s.expr(e.L[0])
		s.arms(e.Pats, e.L[1:], exn(), to)
		return to
	case api.ELet:
		return s.let(e)
	}
	return s.joined(e, s.exprs(e.L))
}

// name is the type of a name where it is used.
func (s *search) name(name string) *node {
	if l := s.locals[name]; len(l) > 0 {
		return s.use(l[len(l)-1])
	}
	scheme, _ := s.env.value(name)
	return build(scheme.Type, s.variables(scheme.Vars))
}

// maker is what a constructor takes, and its type, where it is used.
func (s *search) maker(k api.Maker) (*node, *node) {
	vars := s.variables(k.Vars)
	if !k.Has {
		return nil, build(k.Type, vars)
	}
	return build(k.Arg, vars), build(k.Type, vars)
}

// arms are arms that go from a type to another.
func (s *search) arms(pats []api.Pat, l []api.Expr, from, to *node) {
	for i, p := range pats {
		var vars []local
		same(s.pat(p, &vars), from)
		s.push(vars)
		same(s.expr(l[i]), to)
		s.pop(vars)
	}
}

func (s *search) let(e api.Expr) *node {
	var all []local
	for _, d := range e.Decls {
		l := s.decl(d)
		s.push(l)
		all = append(all, l...)
	}
	t := s.expr(e.L[0])
	s.pop(all)
	return t
}

// joined is the type of an expression whose parts have these types and see the same names.
func (s *search) joined(e api.Expr, l []*node) *node {
	switch e.Kind {
	case api.EApp:
		to := s.variable()
		same(l[0], arrow(l[1], to))
		return to
	case api.EIf:
		same(l[0], truth())
		same(l[1], l[2])
		return l[1]
	case api.ERaise:
		same(l[0], exn())
		return s.variable()
	case api.ESeq:
		return l[len(l)-1]
	case api.EBin:
		return between(e.Name, l[0], l[1])
	case api.EUn:
		return s.behind(e.Name, l[0])
	}
	return tuple(l)
}

// between is the type of an operator between two.
func between(name string, a, b *node) *node {
	operand, t := whole(), whole()
	switch name {
	case "^":
		operand, t = text(), text()
	case "<", "<=", ">", ">=":
		t = truth()
	case "=", "<>":
		same(a, b)
		return truth()
	case "andalso", "orelse":
		operand, t = truth(), truth()
	case ":=":
		same(a, refTo(b))
		return unit()
	case "::":
		same(b, listOf(a))
		return b
	}
	same(a, operand)
	same(b, operand)
	return t
}

// behind is the type of what stands behind a word.
func (s *search) behind(name string, a *node) *node {
	switch name {
	case "not":
		same(a, truth())
		return truth()
	case "ref":
		return refTo(a)
	case "!":
		t := s.variable()
		same(a, refTo(t))
		return t
	case "size":
		same(a, text())
		return whole()
	case "ord":
		same(a, tuple([]*node{text(), whole()}))
		return whole()
	}
	same(a, whole())
	if name == "~" {
		return whole()
	}
	return text()
}

// pat is the type of a pattern, whose variables are told.
func (s *search) pat(p api.Pat, vars *[]local) *node { return s.part(s.patOf(p, vars)) }

func (s *search) pats(l []api.Pat, vars *[]local) []*node {
	var types []*node
	for _, p := range l {
		types = append(types, s.pat(p, vars))
	}
	return types
}

func (s *search) patOf(p api.Pat, vars *[]local) *node {
	switch p.Kind {
	case api.PInt:
		return whole()
	case api.PText:
		return text()
	case api.PTuple:
		return tuple(s.pats(p.L, vars))
	case api.PVar:
		t := s.variable()
		*vars = append(*vars, local{p.Name, t})
		return t
	case api.PCon:
		k, _ := s.env.maker(p.Name)
		if k.Has != (len(p.L) > 0) {
			fail()
		}
		arg, t := s.maker(k)
		for _, part := range s.pats(p.L, vars) {
			same(part, arg)
		}
		return t
	}
	return s.variable()
}
