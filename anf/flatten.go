// Package anf is layer 11: it takes core expressions apart into functions without names of others around, whose steps each do one thing.
package anf

import (
	"kindling/api"
	"kindling/core"
)

// list is the functions that are being made.
type list struct {
	funcs []api.Func
}

// function is a function that is being made.
type function struct {
	list   *list
	outer  *function
	scope  map[int][]api.Atom // what the core locals are that it binds, the innermost last
	places map[int]int        // by the core locals that it has with it: which of these values they are
	with   []api.Atom         // what they are in the outer function
	locals int
}

// block is a block that is being written: behind its end nothing is written any more.
type block struct {
	api.Block
	f    *function
	tail bool // may an EndCall stand here?
}

// Flatten takes an expression apart.
func Flatten(c api.Core) ([]api.Func, api.Errno) {
	if !core.Right(c) || len(core.Free(c)) > 0 {
		return nil, api.ErrForm
	}
	if functions(c) >= api.MaxCodes {
		return nil, api.ErrLong
	}
	l := &list{}
	l.add(nil, func(f *function, b *block) { b.finish(c, 0) })
	return l.funcs, api.OK
}

// functions is how many functions an expression makes.
func functions(c api.Core) int {
	n := 0
	switch c.Kind {
	case api.CFn:
		n = 1
	case api.CFix:
		n = len(c.Ns) / 2
	}
	for _, part := range c.L {
		n += functions(part)
	}
	return n
}

// add adds a function whose body a closure writes, and tells its number and what it is made with.
func (l *list) add(outer *function, body func(*function, *block)) (int, []api.Atom) {
	n := len(l.funcs)
	l.funcs = append(l.funcs, api.Func{})
	f := &function{list: l, outer: outer, scope: map[int][]api.Atom{}, places: map[int]int{}}
	b := &block{f: f, tail: true}
	body(f, b)
	l.funcs[n] = api.Func{Free: len(f.with), Locals: f.locals, Body: b.Block}
	return n, f.with
}

func (f *function) bind(n int, a api.Atom) { f.scope[n] = append(f.scope[n], a) }

func (f *function) unbind(n int) { f.scope[n] = f.scope[n][:len(f.scope[n])-1] }

// find is what a core local is in a function, which has it with it if an outer one binds it.
func (f *function) find(n int) api.Atom {
	if l := f.scope[n]; len(l) > 0 {
		return l[len(l)-1]
	}
	if place, ok := f.places[n]; ok {
		return api.Atom{Kind: api.AFree, N: place}
	}
	a := f.outer.find(n)
	if a.Kind == api.AInt {
		return a
	}
	f.places[n] = len(f.with)
	f.with = append(f.with, a)
	return api.Atom{Kind: api.AFree, N: f.places[n]}
}

// local is a local of the function.
func (f *function) local(n int) api.Atom {
	f.locals = max(f.locals, n+1)
	return api.Atom{Kind: api.ALocal, N: n}
}

func integer(n int64) api.Atom { return api.Atom{Kind: api.AInt, Num: n} }

// above is the first local that is free where those from base on are, but the one that an atom is.
func above(base int, a api.Atom) int {
	if a.Kind == api.ALocal {
		return max(base, a.N+1)
	}
	return base
}

// sub is a block within this one.
func (b *block) sub(tail bool, write func(*block)) api.Block {
	s := &block{f: b.f, tail: tail}
	write(s)
	return s.Block
}

func (b *block) step(s api.Step) {
	if b.End == 0 {
		b.Steps = append(b.Steps, s)
	}
}

// give writes a step that gives a local something.
func (b *block) give(to int, s api.Step) api.Atom {
	s.To = to
	b.step(s)
	return b.f.local(to)
}

func (b *block) end(kind int, args []api.Atom, blocks ...api.Block) {
	if b.End == 0 {
		b.End, b.Args, b.Blocks = kind, args, blocks
	}
}

// finish ends the block with what an expression is worth; the locals from base on are free.
func (b *block) finish(c api.Core, base int) {
	switch {
	case c.Kind == api.CApp && b.tail:
		args, _ := b.atoms(c.L, base)
		b.end(api.EndCall, args)
	case c.Kind == api.CIf:
		test, yes, no := branches(c)
		a := b.value(test, base)
		b.end(api.EndIf, []api.Atom{a},
			b.sub(b.tail, func(s *block) { s.finish(yes, base) }),
			b.sub(b.tail, func(s *block) { s.finish(no, base) }))
	case c.Kind == api.CLet:
		b.let(c, base, func(base int) { b.finish(c.L[1], base) })
	case c.Kind == api.CFix:
		b.fix(c, base, func(base int) { b.finish(c.L[len(c.L)-1], base) })
	default:
		a := b.value(c, base)
		b.end(api.EndReturn, []api.Atom{a})
	}
}

// value is an atom that is what an expression is worth, written behind the steps so far; the locals from base on are free.
func (b *block) value(c api.Core, base int) (a api.Atom) {
	switch c.Kind {
	case api.CInt:
		return integer(c.Num)
	case api.CText:
		return api.Atom{Kind: api.AText, Text: c.Text}
	case api.CVar:
		return b.f.find(c.N)
	case api.CGlobal:
		return api.Atom{Kind: api.AGlobal, N: c.N}
	case api.CFn:
		return b.give(base, b.closed(c.N, c.L[0]))
	case api.CLet:
		b.let(c, base, func(base int) { a = b.value(c.L[1], base) })
	case api.CFix:
		b.fix(c, base, func(base int) { a = b.value(c.L[len(c.L)-1], base) })
	case api.CIf:
		return b.either(c, base)
	case api.CTry:
		return b.try(c, base)
	case api.CRaise:
		a = b.value(c.L[0], base)
		b.end(api.EndRaise, []api.Atom{a})
		return integer(0)
	case api.CPut:
		a = b.value(c.L[0], base)
		b.step(api.Step{Kind: api.SPut, N: c.N, Args: []api.Atom{a}})
		return integer(0)
	default:
		args, _ := b.atoms(c.L, base)
		return b.give(base, api.Step{Kind: stepOf(c.Kind), N: c.N, Args: args})
	}
	return a
}

// stepOf is the kind of the step that does an expression with its parts' values.
func stepOf(kind int) int {
	switch kind {
	case api.CTuple:
		return api.SMake
	case api.CApp:
		return api.SCall
	case api.CField:
		return api.SField
	}
	return api.SPrim
}

// atoms are the values of parts, from the left, and the first local that is free then.
func (b *block) atoms(l []api.Core, base int) ([]api.Atom, int) {
	args := make([]api.Atom, 0, len(l))
	for i, c := range l {
		a := b.value(c, base)
		if a.Kind == api.AGlobal && !still(l[i+1:]) {
			a = b.keep(a, base)
		}
		args = append(args, a)
		base = above(base, a)
	}
	return args, base
}

// keep gives a local what an atom is now.
func (b *block) keep(a api.Atom, base int) api.Atom {
	return b.give(base, api.Step{Kind: api.SMove, Args: []api.Atom{a}})
}

// still tells whether working parts out surely changes no global.
func still(l []api.Core) bool {
	for _, c := range l {
		switch c.Kind {
		case api.CInt, api.CText, api.CVar, api.CGlobal, api.CFn:
		default:
			return false
		}
	}
	return true
}

// let binds a local in the rest.
func (b *block) let(c api.Core, base int, rest func(base int)) {
	a := b.value(c.L[0], base)
	if a.Kind == api.AGlobal {
		a = b.keep(a, base)
	}
	b.f.bind(c.N, a)
	rest(above(base, a))
	b.f.unbind(c.N)
}

// either is a test with blocks, the one or the other of which is worked out.
func (b *block) either(c api.Core, base int) api.Atom {
	test, yes, no := branches(c)
	a := b.value(test, base)
	return b.give(base, api.Step{Kind: api.SIf, Args: []api.Atom{a}, Blocks: []api.Block{
		b.sub(false, func(s *block) { s.finish(yes, base) }),
		b.sub(false, func(s *block) { s.finish(no, base) }),
	}})
}

// try is a block, and one for what it raises.
func (b *block) try(c api.Core, base int) api.Atom {
	return b.give(base, api.Step{Kind: api.STry, N: base, Blocks: []api.Block{
		b.sub(false, func(s *block) { s.finish(c.L[0], base) }),
		b.sub(false, func(s *block) {
			b.f.bind(c.N, b.f.local(base))
			s.finish(c.L[1], base+1)
			b.f.unbind(c.N)
		}),
	}})
}

// closed is a step that makes a function.
func (b *block) closed(param int, body api.Core) api.Step {
	n, with := b.f.list.add(b.f, func(f *function, in *block) {
		f.bind(param, api.Atom{Kind: api.AArg})
		in.finish(body, 0)
	})
	return api.Step{Kind: api.SClose, N: n, Args: with}
}

// fix makes functions that see one another, and binds them in the rest.
func (b *block) fix(c api.Core, base int, rest func(base int)) {
	count := len(c.Ns) / 2
	for i := range count {
		b.f.bind(c.Ns[2*i], b.f.local(base+i))
	}
	var fills []api.Step
	for i := range count {
		s := b.closed(c.Ns[2*i+1], c.L[i])
		for k, a := range s.Args {
			// A function that is not made yet is filled in when all are.
			if a.Kind == api.ALocal && a.N >= base+i {
				fills = append(fills, api.Step{Kind: api.SFill, N: k, Args: []api.Atom{b.f.local(base + i), a}})
				s.Args[k] = integer(0)
			}
		}
		b.give(base+i, s)
	}
	for _, s := range fills {
		b.step(s)
	}
	rest(base + count)
	for i := range count {
		b.f.unbind(c.Ns[2*i])
	}
}

// branches is the test of a CIf and what is worked out by it, where the test is no CIf itself if that can be.
func branches(c api.Core) (test, yes, no api.Core) {
	test, yes, no = c.L[0], c.L[1], c.L[2]
	for test.Kind == api.CIf {
		first, then, other := test.L[0], test.L[1], test.L[2]
		switch {
		case is(then, 0) && is(other, 1): // not
			yes, no = no, yes
		case is(other, 0) && small(no): // andalso
			yes = choice(then, yes, no)
		case is(then, 1) && small(yes): // orelse
			no = choice(other, yes, no)
		default:
			return test, yes, no
		}
		test = first
	}
	return test, yes, no
}

func choice(test, yes, no api.Core) api.Core {
	return api.Core{Kind: api.CIf, L: []api.Core{test, yes, no}}
}

// is tells whether an expression is an integer.
func is(c api.Core, n int64) bool { return c.Kind == api.CInt && c.Num == n }

// small tells whether an expression may as well be written twice.
func small(c api.Core) bool {
	return c.Kind == api.CInt || c.Kind == api.CVar || c.Kind == api.CRaise && c.L[0].Kind == api.CInt
}
