package machine

import (
	"kindling/api"
	"kindling/num"
	"kindling/rts"
)

// object is the address and the kind of the object of a word; 0 and 0, if it is none's.
func (x *Machine) object(w uint64) (int, int) {
	a := num.ToPtr(w)
	kind, _, _, e := x.mem.Look(a)
	if e != api.OK {
		return 0, 0
	}
	return a, kind
}

// build does what makes objects, reads and changes them.
func (x *Machine) build(i api.Ins) int {
	switch i.Op {
	case api.OpTuple:
		return x.fresh(i, api.KTuple, i.N)
	case api.OpClosure:
		return x.fresh(i, api.KClosure, i.N)
	case api.OpRef:
		return x.refTo(i.A, i.B)
	case api.OpField:
		a, kind := x.object(x.regs[i.B])
		if kind != api.KTuple && kind != api.KRef && kind != api.KClosure {
			return api.MStuck
		}
		w, e := x.mem.Load(a, i.N)
		if e != api.OK {
			return api.MStuck
		}
		x.regs[i.A] = w
	case api.OpFill:
		a, kind := x.object(x.regs[i.A])
		if kind != api.KTuple && kind != api.KClosure || x.mem.Store(a, i.N, x.regs[i.B]) != api.OK {
			return api.MStuck
		}
	case api.OpAssign:
		a, kind := x.object(x.regs[i.A])
		if kind != api.KRef {
			return api.MStuck
		}
		x.mem.Store(a, 0, x.regs[i.B])
	case api.OpTag:
		return x.tag(i)
	}
	return goesOn
}

// fresh makes a tuple or a closure of so many fields.
func (x *Machine) fresh(i api.Ins, kind, size int) int {
	if size < 1 || size > api.MaxSize {
		return api.MStuck
	}
	if !x.room(1 + size) {
		return api.MMemory
	}
	a, _ := x.mem.Alloc(kind, size, size)
	x.regs[i.A] = num.Ptr(a)
	return goesOn
}

// refTo makes a ref that holds what a register holds.
func (x *Machine) refTo(to, from int) int {
	if !x.room(2) {
		return api.MMemory
	}
	a, _ := x.mem.Alloc(api.KRef, 1, 1)
	// The register is read only now: making room may have moved what it holds.
	x.mem.Store(a, 0, x.regs[from])
	x.regs[to] = num.Ptr(a)
	return goesOn
}

// tag tells a constructor's number.
func (x *Machine) tag(i api.Ins) int {
	w := x.regs[i.B]
	if !num.IsInt(w) {
		a, kind := x.object(w)
		if kind != api.KTuple {
			return api.MStuck
		}
		w = x.field(a, 0)
	}
	if !num.IsInt(w) {
		return api.MStuck
	}
	x.regs[i.A] = w
	return goesOn
}

// spell does what makes and reads texts.
func (x *Machine) spell(i api.Ins) int {
	switch i.Op {
	case api.OpJoin:
		return x.join(i)
	case api.OpSize:
		_, n, ok := x.text(x.regs[i.B])
		if !ok {
			return api.MStuck
		}
		x.regs[i.A] = num.Int(int64(n))
		return goesOn
	case api.OpOrd:
		return x.ord(i)
	}
	if !num.IsInt(x.regs[i.B]) {
		return api.MStuck
	}
	n := num.ToInt(x.regs[i.B])
	switch {
	case i.Op == api.OpDigits:
		return x.write(i.A, num.Text(n))
	case n < 0 || n > 255:
		return x.raise(num.Int(api.XChr))
	}
	return x.write(i.A, string([]byte{byte(n)}))
}

// text is the address of a text's object, and the number of its bytes. (All objects of that kind here are texts.)
func (x *Machine) text(w uint64) (int, int, bool) {
	a, kind := x.object(w)
	if kind != api.KBytes {
		return 0, 0, false
	}
	return a, int(x.field(a, 0)), true
}

// write makes a register hold a new text.
func (x *Machine) write(to int, s string) int {
	if !x.room(textWords(len(s))) {
		return api.MMemory
	}
	x.regs[to], _ = rts.PutText(x.mem, s)
	return goesOn
}

// join makes a text of two.
func (x *Machine) join(i api.Ins) int {
	_, n, first := x.text(x.regs[i.B])
	_, m, second := x.text(x.regs[i.C])
	switch {
	case !first || !second:
		return api.MStuck
	case n+m > maxText:
		return api.MMemory
	}
	b, _ := rts.GetText(x.mem, x.regs[i.B])
	c, _ := rts.GetText(x.mem, x.regs[i.C])
	return x.write(i.A, b+c)
}

// ord tells a text's byte.
func (x *Machine) ord(i api.Ins) int {
	a, n, ok := x.text(x.regs[i.B])
	if !ok || !num.IsInt(x.regs[i.C]) {
		return api.MStuck
	}
	place := num.ToInt(x.regs[i.C])
	if place < 0 || place >= int64(n) {
		return x.raise(num.Int(api.XSubscript))
	}
	x.regs[i.A] = num.Int(int64(x.field(a, 1+int(place/8)) >> (8 * (place % 8)) & 0xff))
	return goesOn
}
