package core

import (
	"slices"

	"kindling/api"
	"kindling/num"
	"kindling/syntax"
)

// Name is a value's name, and the global that holds it.
type Name struct {
	Name string
	N    int
}

// The number that :: makes its tuples with.
const consTag = 1

// lowering makes a core expression. What is wrong on the way is noted, and told by its order in the end.
type lowering struct {
	names  []Name
	makers []api.Maker
	locals map[string][]int // those that a name stands for, the innermost last
	next   int              // the number of the next local

	noName, noKind, noGlobal bool
}

// Lower makes a core expression of a declaration, and tells the names that are there then.
func Lower(d api.Decl, names []Name, makers []api.Maker, nums []int) (api.Core, []Name, api.Errno) {
	if !syntax.Right([]api.Decl{d}) {
		return api.Core{}, nil, api.ErrForm
	}
	l := &lowering{names: names, makers: makers, locals: map[string][]int{}}
	made := makes(d)
	puts := nums[:min(len(made), len(nums))]
	c := l.decl(d, func() api.Core { return l.puts(made[:len(puts)], puts) })
	for _, n := range puts {
		l.noGlobal = l.noGlobal || !isGlobal(n)
	}
	switch {
	case l.noName:
		return api.Core{}, nil, api.ErrName
	case l.noKind:
		return api.Core{}, nil, api.ErrKind
	case len(made) > len(nums):
		return api.Core{}, nil, api.ErrLong
	case l.noGlobal:
		return api.Core{}, nil, api.ErrArg
	}
	// Cut without room behind, so that what is appended is new memory.
	all := append(names[:0:0], names...)
	for i, name := range made {
		all = append(all, Name{name, nums[i]})
	}
	return c, all, api.OK
}

// makes is the names of the values that a declaration makes, in order.
func makes(d api.Decl) []string {
	switch d.Kind {
	case api.DVal:
		return variables(d.Pat, nil)
	case api.DFun:
		var l []string
		for _, f := range d.Funs {
			l = append(l, f.Name)
		}
		return l
	case api.DExpr:
		return []string{"it"}
	}
	return nil
}

// variables are names, and behind them a pattern's variables, from the left.
func variables(p api.Pat, names []string) []string {
	if p.Kind == api.PVar {
		names = append(names, p.Name)
	}
	for _, part := range p.L {
		names = variables(part, names)
	}
	return names
}

// puts puts the values of names into globals; it is worth 0.
func (l *lowering) puts(names []string, nums []int) api.Core {
	c := integer(0)
	for i, name := range slices.Backward(names) {
		put := api.Core{Kind: api.CPut, N: nums[i], L: []api.Core{l.name(name)}}
		if i == len(names)-1 {
			c = put
		} else {
			c = l.then(put, c)
		}
	}
	return c
}

func integer(n int64) api.Core { return api.Core{Kind: api.CInt, Num: n} }

func variable(n int) api.Core { return api.Core{Kind: api.CVar, N: n} }

func tuple(l ...api.Core) api.Core { return api.Core{Kind: api.CTuple, L: l} }

func prim(op int, l ...api.Core) api.Core { return api.Core{Kind: api.CPrim, N: op, L: l} }

func field(n int, c api.Core) api.Core { return api.Core{Kind: api.CField, N: n, L: []api.Core{c}} }

func choice(test, yes, no api.Core) api.Core {
	return api.Core{Kind: api.CIf, L: []api.Core{test, yes, no}}
}

func raise(c api.Core) api.Core { return api.Core{Kind: api.CRaise, L: []api.Core{c}} }

func let(n int, c, in api.Core) api.Core {
	return api.Core{Kind: api.CLet, N: n, L: []api.Core{c, in}}
}

// fresh is a local that nothing else has.
func (l *lowering) fresh() int {
	l.next++
	return l.next - 1
}

// then is one expression behind another one, whose worth plays no part.
func (l *lowering) then(first, behind api.Core) api.Core { return let(l.fresh(), first, behind) }

// with is what a closure makes of a local that is what an expression is worth.
func (l *lowering) with(c api.Core, in func(api.Core) api.Core) api.Core {
	if c.Kind == api.CVar {
		return in(c)
	}
	n := l.fresh()
	return let(n, c, in(variable(n)))
}

// open makes a name stand for a local; shut ends that.
func (l *lowering) open(name string, n int) { l.locals[name] = append(l.locals[name], n) }

func (l *lowering) shut(names []string) {
	for _, name := range names {
		l.locals[name] = l.locals[name][:len(l.locals[name])-1]
	}
}

// name is what a name in an expression stands for.
func (l *lowering) name(name string) api.Core {
	if ns := l.locals[name]; len(ns) > 0 {
		return variable(ns[len(ns)-1])
	}
	for _, n := range slices.Backward(l.names) {
		if n.Name == name {
			l.noGlobal = l.noGlobal || !isGlobal(n.N)
			return api.Core{Kind: api.CGlobal, N: n.N}
		}
	}
	l.noName = true
	return integer(0)
}

// maker is the constructor of a name.
func (l *lowering) maker(name string) api.Maker {
	for _, k := range slices.Backward(l.makers) {
		if k.Name == name {
			return k
		}
	}
	l.noName = true
	return api.Maker{}
}

// tag is a constructor's number.
func tag(k api.Maker) api.Core { return integer(num.Wrap(int64(k.Tag))) }

// decl works out a declaration, and behind it, where its names are known, the rest.
func (l *lowering) decl(d api.Decl, rest func() api.Core) api.Core {
	switch d.Kind {
	case api.DVal:
		return l.val(d.Pat, d.Expr, rest)
	case api.DFun:
		return l.fix(d.Funs, rest)
	case api.DExpr:
		return l.val(api.Pat{Kind: api.PVar, Name: "it"}, d.Expr, rest)
	}
	return rest()
}

// val binds a pattern to what an expression is worth.
func (l *lowering) val(p api.Pat, e api.Expr, rest func() api.Core) api.Core {
	return l.with(l.expr(e), func(v api.Core) api.Core {
		return l.arm([]api.Pat{p}, []api.Core{v}, rest, raise(integer(api.XBind)))
	})
}

// fix makes the functions of a fun, all of which see all of them.
func (l *lowering) fix(funs []api.Fun, rest func() api.Core) api.Core {
	c := api.Core{Kind: api.CFix}
	var names []string
	for _, f := range funs {
		n := l.fresh()
		l.open(f.Name, n)
		names = append(names, f.Name)
		c.Ns = append(c.Ns, n, l.fresh())
	}
	for i, f := range funs {
		c.L = append(c.L, l.fun(f, c.Ns[2*i+1]))
	}
	c.L = append(c.L, rest())
	l.shut(names)
	return c
}

// fun is the body of a function whose first parameter is a local: functions within it for its other patterns, and all looked at within the last one.
func (l *lowering) fun(f api.Fun, first int) api.Core {
	params := []api.Core{variable(first)}
	for range len(f.Pats) - 1 {
		params = append(params, variable(l.fresh()))
	}
	c := l.arm(f.Pats, params, func() api.Core { return l.expr(f.Body) }, raise(integer(api.XMatch)))
	for _, p := range slices.Backward(params[1:]) {
		c = api.Core{Kind: api.CFn, N: p.N, L: []api.Core{c}}
	}
	return c
}
