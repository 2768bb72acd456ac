package machine

import (
	"kindling/api"
	"kindling/num"
)

// top is the uppermost frame.
func (x *Machine) top() *frame { return &x.frames[len(x.frames)-1] }

// fits tells whether the stack may have so many words more.
func (x *Machine) fits(more int) bool {
	return frameWords*len(x.frames)+len(x.slots)+handlerWords*len(x.handlers)+more <= x.stack
}

// handling tells whether the uppermost handler is that of the uppermost frame.
func (x *Machine) handling() bool {
	return len(x.handlers) > 0 && x.handlers[len(x.handlers)-1].frame == len(x.frames)-1
}

// push makes a frame of a code.
func (x *Machine) push(code uint64) {
	_, size, lits, _ := x.mem.Look(num.ToPtr(code))
	x.frames = append(x.frames, frame{code: code, lits: lits, ins: size - lits, base: len(x.slots)})
}

// drop drops the frames from the n-th one on.
func (x *Machine) drop(n int) {
	if n < len(x.frames) {
		x.slots = x.slots[:x.frames[n].base]
		x.frames = x.frames[:n]
	}
}

// control does what changes the place, the frames and the handlers.
func (x *Machine) control(i api.Ins) int {
	f := x.top()
	switch i.Op {
	case api.OpJump:
		f.place += i.N
	case api.OpUnless:
		if !num.IsInt(x.regs[i.A]) {
			return api.MStuck
		}
		if x.regs[i.A] == num.Int(0) {
			f.place += i.N
		}
	case api.OpEnter:
		return x.enter(i.N)
	case api.OpCall, api.OpTail:
		return x.call(i)
	case api.OpReturn:
		return x.leave(x.regs[i.A])
	case api.OpHandle:
		if !x.fits(handlerWords) {
			return api.MDeep
		}
		x.handlers = append(x.handlers, handler{frame: len(x.frames) - 1, place: f.place + i.N})
	case api.OpUnhandle:
		if !x.handling() {
			return api.MStuck
		}
		x.handlers = x.handlers[:len(x.handlers)-1]
	case api.OpRaise:
		return x.raise(x.regs[i.A])
	default:
		return api.MStuck
	}
	return goesOn
}

// enter gives the uppermost frame so many slots in place of those that it has.
func (x *Machine) enter(n int) int {
	base := x.top().base
	switch {
	case n < 0:
		return api.MStuck
	case !x.fits(n - (len(x.slots) - base)):
		return api.MDeep
	}
	x.slots = x.slots[:base]
	for range n {
		x.slots = append(x.slots, num.Int(0))
	}
	return goesOn
}

// call makes a frame of a function's code; of tail in place of the one that there is.
func (x *Machine) call(i api.Ins) int {
	a, b := x.regs[i.A], x.regs[i.B]
	closure, kind := x.object(a)
	if kind != api.KClosure {
		return api.MStuck
	}
	code := x.field(closure, 0)
	if _, kind := x.object(code); kind != api.KCode {
		return api.MStuck
	}
	if i.Op == api.OpTail {
		if x.handling() {
			return api.MStuck
		}
		x.drop(len(x.frames) - 1)
	}
	if !x.fits(frameWords) {
		return api.MDeep
	}
	x.push(code)
	x.regs[0], x.regs[1] = a, b
	return goesOn
}

// leave gives a word back to the frame below.
func (x *Machine) leave(w uint64) int {
	if x.handling() {
		return api.MStuck
	}
	x.drop(len(x.frames) - 1)
	if len(x.frames) == 0 {
		x.value = w
		return api.MDone
	}
	x.regs[0] = w
	return goesOn
}

// raise gives a word to the uppermost handler, and ends the run where there is none.
func (x *Machine) raise(w uint64) int {
	if len(x.handlers) == 0 {
		x.value = w
		return api.MRaised
	}
	h := x.handlers[len(x.handlers)-1]
	x.handlers = x.handlers[:len(x.handlers)-1]
	x.drop(h.frame + 1)
	x.top().place = h.place
	x.regs[0] = w
	return goesOn
}
