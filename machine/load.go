package machine

import (
	"kindling/api"
	"kindling/isa"
	"kindling/num"
	"kindling/rts"
)

// maxText is how many bytes the greatest text object has: one of its fields is their number.
const maxText = 8 * (api.MaxSize - 1)

// textWords is how many words the object of a text of n bytes needs: a header, the number of bytes, the text.
func textWords(n int) int { return 2 + (n+7)/8 }

// Load makes the objects of some codes, of which the first one is loaded.
func (x *Machine) Load(codes []api.Code) api.Errno {
	switch {
	case x.none():
		return api.ErrNil
	case len(codes) > api.MaxCodes:
		return api.ErrLong
	case len(codes) == 0:
		return api.ErrArg
	}
	need := 0
	for _, c := range codes {
		words, e := wordsOf(c, len(codes))
		if e != api.OK {
			return e
		}
		need += words
	}
	x.code, x.value = num.Int(0), num.Int(0)
	if !x.room(need) {
		return api.ErrFull
	}
	x.make(codes)
	return api.OK
}

// wordsOf is how many words a code and its texts need, or what is wrong with it among so many codes.
func wordsOf(c api.Code, codes int) (int, api.Errno) {
	if len(c.Lits)+len(c.Ins) > api.MaxSize {
		return 0, api.ErrLong
	}
	words := 1 + len(c.Lits) + len(c.Ins)
	for _, l := range c.Lits {
		switch l.Kind {
		case api.LInt:
		case api.LText:
			if len(l.Text) > maxText {
				return 0, api.ErrLong
			}
			words += textWords(len(l.Text))
		case api.LCode:
			if l.N < 0 || l.N >= codes {
				return 0, api.ErrLink
			}
		case api.LGlobal:
			if !isGlobal(l.N) {
				return 0, api.ErrLink
			}
		default:
			return 0, api.ErrArg
		}
	}
	for _, i := range c.Ins {
		if e := isa.Check(i); e != api.OK {
			return 0, e
		}
	}
	return words, api.OK
}

// make makes the objects of codes for which there is room, so that nothing is moved meanwhile.
func (x *Machine) make(codes []api.Code) {
	made := make([]int, len(codes))
	for i, c := range codes {
		made[i], _ = x.mem.Alloc(api.KCode, len(c.Lits)+len(c.Ins), len(c.Lits))
	}
	for i, c := range codes {
		for k, l := range c.Lits {
			x.mem.Store(made[i], k, x.literal(l, made))
		}
		for k, ins := range c.Ins {
			w, _ := isa.Encode(ins)
			x.mem.Store(made[i], len(c.Lits)+k, w)
		}
	}
	x.code = num.Ptr(made[0])
}

// literal is a literal's word.
func (x *Machine) literal(l api.Lit, made []int) uint64 {
	switch l.Kind {
	case api.LText:
		w, _ := rts.PutText(x.mem, l.Text)
		return w
	case api.LCode:
		return num.Ptr(made[l.N])
	case api.LGlobal:
		return x.globals[l.N]
	}
	return num.Int(l.Num)
}
