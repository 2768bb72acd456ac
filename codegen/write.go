package codegen

import "kindling/api"

// What the registers are for. A function that calls none and handles nothing has its locals in registers, others have them in slots.
const (
	closureReg = 0
	argReg     = 1
	oneReg     = 2 // these two are free between any two steps
	twoReg     = 3
	firstLocal = 4
	localRegs  = api.Regs - firstLocal
)

// ended is the place of what a block ends with where it is the function's end, and no local's.
const ended = -1

// writer writes one code.
type writer struct {
	code   api.Code
	places map[api.Lit]int // where a literal stands
	slots  bool            // are the locals in slots?
	arg    int             // the slot of what the function is applied to
	own    int             // the slot of the function itself
	local  int             // the slot of the first local
}

// code is the code of a function in which there is so much.
func code(f api.Func, t tally) api.Code {
	w := &writer{places: map[api.Lit]int{}, slots: t.calls || f.Locals > localRegs}
	if w.slots {
		w.enter(t, f.Locals)
	}
	w.block(f.Body, ended)
	return w.code
}

// enter makes the slots of a function, and keeps there what it makes use of.
func (w *writer) enter(t tally, locals int) {
	var saves []api.Ins
	if t.free {
		w.own = w.local
		w.local++
		saves = append(saves, api.Ins{Op: api.OpSave, A: closureReg, N: w.own})
	}
	if t.arg {
		w.arg = w.local
		w.local++
		saves = append(saves, api.Ins{Op: api.OpSave, A: argReg, N: w.arg})
	}
	w.lines(api.Ins{Op: api.OpEnter, N: w.local + locals})
	w.lines(saves...)
}

// lines writes instructions.
func (w *writer) lines(l ...api.Ins) { w.code.Ins = append(w.code.Ins, l...) }

// hole writes an instruction that jumps; the closure that it answers sets it to the place that is written next then.
func (w *writer) hole(i api.Ins) func() {
	at := len(w.code.Ins)
	w.lines(i)
	return func() { w.code.Ins[at].N = len(w.code.Ins) - at - 1 }
}

// literal writes what brings a literal to a register.
func (w *writer) literal(to int, l api.Lit) {
	n, ok := w.places[l]
	if !ok {
		n = len(w.code.Lits)
		w.places[l] = n
		w.code.Lits = append(w.code.Lits, l)
	}
	w.lines(api.Ins{Op: api.OpLit, A: to, N: n})
}

// take answers the register in which an atom is: its own, or a free one to which it is brought.
func (w *writer) take(free int, a api.Atom) int {
	switch a.Kind {
	case api.AInt:
		if a.Num < api.MinImm || a.Num > api.MaxImm {
			w.literal(free, api.Lit{Kind: api.LInt, Num: a.Num})
			break
		}
		w.lines(api.Ins{Op: api.OpInt, A: free, N: int(a.Num)})
	case api.AText:
		w.literal(free, api.Lit{Kind: api.LText, Text: a.Text})
	case api.AGlobal:
		w.literal(free, api.Lit{Kind: api.LGlobal, N: a.N})
	case api.ALocal:
		return w.from(free, w.local+a.N, firstLocal+a.N)
	case api.AArg:
		return w.from(free, w.arg, argReg)
	case api.AFree:
		own := w.from(free, w.own, closureReg)
		w.lines(api.Ins{Op: api.OpField, A: free, B: own, N: 1 + a.N})
	}
	return free
}

// from is a register of its own, or a free one to which a slot is brought.
func (w *writer) from(free, slot, reg int) int {
	if !w.slots {
		return reg
	}
	w.lines(api.Ins{Op: api.OpLoad, A: free, N: slot})
	return free
}

// pair takes two atoms.
func (w *writer) pair(l []api.Atom) (int, int) {
	one := w.take(oneReg, l[0])
	return one, w.take(twoReg, l[1])
}

// goal is the register in which what a local is given is best made.
func (w *writer) goal(to int) int {
	if w.slots {
		return oneReg
	}
	return firstLocal + to
}

// keep gives a local what a register holds.
func (w *writer) keep(to, reg int) {
	switch {
	case w.slots:
		w.lines(api.Ins{Op: api.OpSave, A: reg, N: w.local + to})
	case reg != firstLocal+to:
		w.lines(api.Ins{Op: api.OpMove, A: firstLocal + to, B: reg})
	}
}

// give gives a local an atom.
func (w *writer) give(to int, a api.Atom) { w.keep(to, w.take(w.goal(to), a)) }

// block writes a block; what it ends with goes to a local, or is the function's end.
func (w *writer) block(b api.Block, to int) {
	for _, s := range b.Steps {
		w.step(s)
	}
	switch b.End {
	case api.EndReturn:
		if to != ended {
			w.give(to, b.Args[0])
			return
		}
		w.lines(api.Ins{Op: api.OpReturn, A: w.take(oneReg, b.Args[0])})
	case api.EndCall:
		f, x := w.pair(b.Args)
		w.lines(api.Ins{Op: api.OpTail, A: f, B: x})
	case api.EndRaise:
		w.lines(api.Ins{Op: api.OpRaise, A: w.take(oneReg, b.Args[0])})
	case api.EndIf:
		w.fork(b.Args[0], b.Blocks, to)
	}
}

// fork writes a test, and two blocks of which the one or the other is run.
func (w *writer) fork(test api.Atom, l []api.Block, to int) {
	other := w.hole(api.Ins{Op: api.OpUnless, A: w.take(oneReg, test)})
	w.block(l[0], to)
	if to != ended && l[0].End != api.EndRaise {
		behind := w.hole(api.Ins{Op: api.OpJump})
		defer behind()
	}
	other()
	w.block(l[1], to)
}

// try writes a block with a handler, and what the handler runs.
func (w *writer) try(s api.Step) {
	handler := w.hole(api.Ins{Op: api.OpHandle})
	w.block(s.Blocks[0], s.To)
	w.lines(api.Ins{Op: api.OpUnhandle})
	behind := w.hole(api.Ins{Op: api.OpJump})
	defer behind()
	handler()
	w.keep(s.N, 0) // where a raise leaves what was raised
	w.block(s.Blocks[1], s.To)
}

func (w *writer) step(s api.Step) {
	switch s.Kind {
	case api.SMove:
		w.give(s.To, s.Args[0])
	case api.SPrim:
		w.prim(s)
	case api.SMake:
		w.make(s, api.OpTuple, nil)
	case api.SClose:
		w.make(s, api.OpClosure, []api.Lit{{Kind: api.LCode, N: s.N}})
	case api.SFill:
		f, x := w.pair(s.Args)
		// No function has so many values with it as a greater number would need: it is stuck either way.
		w.lines(api.Ins{Op: api.OpFill, A: f, B: x, N: 1 + min(s.N, api.MaxSize)})
	case api.SField:
		from, to := w.take(oneReg, s.Args[0]), w.goal(s.To)
		w.lines(api.Ins{Op: api.OpField, A: to, B: from, N: s.N})
		w.keep(s.To, to)
	case api.SCall:
		f, x := w.pair(s.Args)
		w.lines(api.Ins{Op: api.OpCall, A: f, B: x})
		w.keep(s.To, 0) // where a return leaves what is returned
	case api.SPut:
		w.lines(api.Ins{Op: api.OpPut, A: w.take(oneReg, s.Args[0]), N: s.N})
	case api.SIf:
		w.fork(s.Args[0], s.Blocks, s.To)
	case api.STry:
		w.try(s)
	}
}

// prim writes an operation.
func (w *writer) prim(s api.Step) {
	i := api.Ins{Op: s.N, A: w.goal(s.To)}
	switch {
	case s.N == api.OpAssign:
		ref, x := w.pair(s.Args)
		w.lines(api.Ins{Op: s.N, A: ref, B: x})
		w.give(s.To, api.Atom{Kind: api.AInt})
		return
	case len(s.Args) == 2:
		i.B, i.C = w.pair(s.Args)
	default:
		i.B = w.take(oneReg, s.Args[0])
	}
	w.lines(i)
	w.keep(s.To, i.A)
}

// make writes what makes an object of some literals and a step's atoms.
func (w *writer) make(s api.Step, op int, lits []api.Lit) {
	at := w.goal(s.To)
	for _, a := range s.Args {
		if a.Kind == api.ALocal && a.N == s.To { // it is read when the object is there already
			at = oneReg
		}
	}
	w.lines(api.Ins{Op: op, A: at, N: len(lits) + len(s.Args)})
	for i, l := range lits {
		w.literal(twoReg, l)
		w.lines(api.Ins{Op: api.OpFill, A: at, B: twoReg, N: i})
	}
	for i, a := range s.Args {
		w.lines(api.Ins{Op: api.OpFill, A: at, B: w.take(twoReg, a), N: len(lits) + i})
	}
	w.keep(s.To, at)
}
