package machine

import (
	"kindling/api"
	"kindling/isa"
	"kindling/num"
	"kindling/rts"
)

// goesOn is the kind of a run that has not ended.
const goesOn = 0

// Result is how a run ended, and how many steps it made.
type Result struct {
	Kind, Steps int
}

// Run runs the code that is loaded.
func (x *Machine) Run(budget, stop, every int) Result {
	if x.none() || !num.IsPtr(x.code) {
		return Result{}
	}
	budget = min(max(budget, 0), api.MaxSteps)
	x.begin()
	r := Result{}
steps:
	for {
		switch {
		case stop > 0 && r.Steps >= stop:
			r.Kind = api.MInterrupt
			break steps
		case r.Steps >= budget:
			r.Kind = api.MTimeout
			break steps
		}
		r.Steps++
		if every > 0 && r.Steps%every == 0 {
			x.Collect()
		}
		switch i, ok := x.fetch(); {
		case !ok:
			r.Kind = api.MStuck
			break steps
		case i.Op == api.OpSame:
			kind, more := x.same(i, budget-r.Steps+1)
			r.Steps += more
			if r.Kind = kind; kind != goesOn {
				break steps
			}
		default:
			if r.Kind = x.do(i); r.Kind != goesOn {
				break steps
			}
		}
	}
	x.end()
	return r
}

// begin makes one frame, of the loaded code. (What end has left is as it must be.)
func (x *Machine) begin() {
	x.value = num.Int(0)
	x.push(x.code)
}

// end leaves neither registers nor frames that would keep something.
func (x *Machine) end() {
	for i := range x.regs {
		x.regs[i] = num.Int(0)
	}
	x.frames, x.slots, x.handlers = nil, nil, nil
}

// fetch is the instruction at the place of the uppermost frame, behind which the place is then.
func (x *Machine) fetch() (api.Ins, bool) {
	f := x.top()
	if f.place < 0 || f.place >= f.ins {
		return api.Ins{}, false
	}
	w, _ := x.mem.Load(num.ToPtr(f.code), f.lits+f.place)
	i, e := isa.Decode(w)
	f.place++
	return i, e == api.OK
}

// do does an instruction, but same, and tells how the run ends by it, if it does.
func (x *Machine) do(i api.Ins) int {
	switch i.Op {
	case api.OpInt, api.OpLit, api.OpMove, api.OpPut, api.OpLoad, api.OpSave:
		return x.carry(i)
	case api.OpAdd, api.OpSub, api.OpMul, api.OpDiv, api.OpMod, api.OpNeg, api.OpLess, api.OpAtMost:
		return x.reckon(i)
	case api.OpTuple, api.OpClosure, api.OpRef, api.OpField, api.OpFill, api.OpAssign, api.OpTag:
		return x.build(i)
	case api.OpJoin, api.OpSize, api.OpStr, api.OpOrd, api.OpDigits:
		return x.spell(i)
	}
	return x.control(i)
}

// carry does what brings words to registers, slots and globals.
func (x *Machine) carry(i api.Ins) int {
	f := x.top()
	slots := x.slots[f.base:]
	switch i.Op {
	case api.OpInt:
		x.regs[i.A] = num.Int(int64(i.N))
	case api.OpLit:
		if i.N < 0 || i.N >= f.lits {
			return api.MStuck
		}
		x.regs[i.A] = x.field(num.ToPtr(f.code), i.N)
	case api.OpMove:
		x.regs[i.A] = x.regs[i.B]
	case api.OpPut:
		if !isGlobal(i.N) {
			return api.MStuck
		}
		x.globals[i.N] = x.regs[i.A]
		x.used = max(x.used, i.N+1)
	case api.OpLoad, api.OpSave:
		if i.N < 0 || i.N >= len(slots) {
			return api.MStuck
		}
		if i.Op == api.OpLoad {
			x.regs[i.A] = slots[i.N]
		} else {
			slots[i.N] = x.regs[i.A]
		}
	}
	return goesOn
}

// field is a field that is known to be there.
func (x *Machine) field(a, i int) uint64 {
	w, _ := x.mem.Load(a, i)
	return w
}

// reckon does sums, products and what holds numbers against each other.
func (x *Machine) reckon(i api.Ins) int {
	if !num.IsInt(x.regs[i.B]) {
		return api.MStuck
	}
	b := num.ToInt(x.regs[i.B])
	if i.Op == api.OpNeg {
		x.regs[i.A] = num.Int(num.Neg(b))
		return goesOn
	}
	if !num.IsInt(x.regs[i.C]) {
		return api.MStuck
	}
	a, e := result(i.Op, b, num.ToInt(x.regs[i.C]))
	if e != api.OK {
		return x.raise(num.Int(api.XDiv))
	}
	x.regs[i.A] = num.Int(a)
	return goesOn
}

// result is what an operation of two integers makes.
func result(op int, b, c int64) (int64, api.Errno) {
	switch op {
	case api.OpAdd:
		return num.Add(b, c), api.OK
	case api.OpSub:
		return num.Sub(b, c), api.OK
	case api.OpMul:
		return num.Mul(b, c), api.OK
	case api.OpDiv:
		return num.Div(b, c)
	case api.OpMod:
		return num.Mod(b, c)
	case api.OpLess:
		return truth(b < c), api.OK
	}
	return truth(b <= c), api.OK
}

// truth is 1 of what holds, and 0 of what does not.
func truth(holds bool) int64 {
	if holds {
		return 1
	}
	return 0
}

// same holds two values against each other, in so many steps at most, and tells how the run ends by it and how many steps it needs more than one.
func (x *Machine) same(i api.Ins, most int) (int, int) {
	how, steps, e := rts.Same(x.mem, x.regs[i.B], x.regs[i.C], most)
	switch {
	case e != api.OK:
		return api.MStuck, 0
	case how == rts.Late:
		return api.MTimeout, steps - 1
	case how == rts.Function:
		return x.raise(num.Int(api.XEqual)), steps - 1
	}
	x.regs[i.A] = num.Int(truth(how == rts.Alike))
	return goesOn, steps - 1
}
