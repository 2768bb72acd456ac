package types

import "kindling/api"

// around counts the names that patterns, lets and funs have made around an expression.
type around struct {
	env    *Env
	locals map[string]int
}

// named tells whether a declaration has no wrong name.
func (x *Env) named(d api.Decl) bool {
	a := &around{env: x, locals: map[string]int{}}
	switch d.Kind {
	case api.DData:
		return x.namedData(d.Data)
	case api.DExn:
		return namedCon(d.Con) && x.namedTys(d.Con.Arg, nil, nil)
	case api.DExpr:
		return a.expr(d.Expr)
	}
	_, ok := a.bind(d)
	return ok
}

// open takes names along; shut leaves them.
func (a *around) open(names []string) {
	for _, n := range names {
		a.locals[n]++
	}
}

func (a *around) shut(names []string) {
	for _, n := range names {
		a.locals[n]--
	}
}

// bind goes through a val or a fun, and takes its names along.
func (a *around) bind(d api.Decl) ([]string, bool) {
	var names []string
	if d.Kind == api.DVal {
		if !a.expr(d.Expr) {
			return nil, false
		}
		names, ok := a.pats([]api.Pat{d.Pat})
		a.open(names)
		return names, ok
	}
	for _, f := range d.Funs {
		names = append(names, f.Name)
	}
	if !unlike(names) {
		return nil, false
	}
	a.open(names)
	for _, f := range d.Funs {
		if !a.arm(f.Pats, f.Body) {
			return nil, false
		}
	}
	return names, true
}

// arm goes through an expression behind its patterns.
func (a *around) arm(pats []api.Pat, e api.Expr) bool {
	names, ok := a.pats(pats)
	if !ok {
		return false
	}
	a.open(names)
	defer a.shut(names)
	return a.expr(e)
}

func (a *around) expr(e api.Expr) bool {
	switch e.Kind {
	case api.EVar:
		_, ok := a.env.value(e.Name)
		return ok || a.locals[e.Name] > 0
	case api.ECon:
		_, ok := a.env.maker(e.Name)
		return ok
	case api.ELet:
		return a.let(e)
	}
	// The parts that have no pattern stand ahead of the arms.
	ahead := len(e.L) - len(e.Pats)
	for i, part := range e.L {
		var pats []api.Pat
		if i >= ahead {
			pats = []api.Pat{e.Pats[i-ahead]}
		}
		if !a.arm(pats, part) {
			return false
		}
	}
	return true
}

func (a *around) let(e api.Expr) bool {
	for _, d := range e.Decls {
		names, ok := a.bind(d)
		if !ok {
			return false
		}
		defer a.shut(names)
	}
	return a.expr(e.L[0])
}

// pats are the variables of patterns, from the left; false, if two of them have one name, or a constructor is not there.
func (a *around) pats(l []api.Pat) ([]string, bool) {
	var names []string
	for _, p := range l {
		part, ok := a.pat(p)
		if !ok {
			return nil, false
		}
		names = append(names, part...)
	}
	return names, unlike(names)
}

func (a *around) pat(p api.Pat) ([]string, bool) {
	switch p.Kind {
	case api.PVar:
		return []string{p.Name}, true
	case api.PCon:
		if _, ok := a.env.maker(p.Name); !ok {
			return nil, false
		}
	}
	return a.pats(p.L)
}

// unlike tells whether no two of some names are the same.
func unlike(names []string) bool {
	seen := map[string]int{}
	for _, n := range names {
		if seen[n]++; seen[n] > 1 {
			return false
		}
	}
	return true
}

func (x *Env) namedData(d api.Data) bool {
	var cons []string
	for _, c := range d.Cons {
		if !namedCon(c) || !x.namedTys(c.Arg, d.Vars, []string{d.Name}) {
			return false
		}
		cons = append(cons, c.Name)
	}
	return unlike(cons) && unlike(d.Vars)
}

// namedCon tells whether a constructor may be called so.
func namedCon(c api.Con) bool { return c.Name != "true" && c.Name != "false" && c.Name != "nil" }

// namedTys tells whether all names of types are there, or among those that are made, and all variables among those of the datatype.
func (x *Env) namedTys(l []api.Ty, vars, made []string) bool {
	for _, t := range l {
		switch t.Kind {
		case api.YVar:
			if index(vars, t.Name) < 0 {
				return false
			}
		case api.YCon:
			if _, ok := x.typeName(t.Name); !ok && index(made, t.Name) < 0 {
				return false
			}
		}
		if !x.namedTys(t.L, vars, made) {
			return false
		}
	}
	return true
}

// index is the place of a name among some; -1, if it is not there.
func index(names []string, name string) int {
	for i, n := range names {
		if n == name {
			return i
		}
	}
	return -1
}
