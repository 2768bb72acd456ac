// Package rts is layer 5: values as they lie in memory, held against each other and told as text.
package rts

import (
	"kindling/api"
	"kindling/mem"
	"kindling/num"
)

// How two values are.
const (
	Unlike   = 0
	Alike    = 1
	Function = 2
	Late     = 3
)

// inside is what look says of two tuples, whose fields decide.
const inside = -1

// pair is two tuples whose fields are being looked at.
type pair struct {
	a, b int
	next int // the field that is looked at next
	size int
}

// Same tells whether two values are the same, and how many pairs of words were looked at.
func Same(m *mem.Mem, a, b uint64, most int) (int, int, api.Errno) {
	if m == nil {
		return 0, 0, api.ErrNil
	}
	var open []pair
	how, steps := Alike, 0
looking:
	for {
		if steps >= most {
			how = Late
			break looking
		}
		steps++
		found, size, e := look(m, a, b)
		switch {
		case e != api.OK:
			return 0, 0, e
		case found == inside:
			open = append(open, pair{num.ToPtr(a), num.ToPtr(b), 0, size})
		case found != Alike:
			how = found
			break looking
		}
		if len(open) == 0 {
			break looking
		}
		last := &open[len(open)-1]
		a, b = fieldOf(m, last.a, last.next), fieldOf(m, last.b, last.next)
		// It is dropped ahead of its last fields: so a list takes no room here, however long it is.
		if last.next++; last.next == last.size {
			open = open[:len(open)-1]
		}
	}
	return how, steps, api.OK
}

// fieldOf is a field that is known to be there.
func fieldOf(m *mem.Mem, a, i int) uint64 {
	w, _ := m.Load(a, i)
	return w
}

// look tells of one pair of words how they are, or that they are tuples of so many fields.
func look(m *mem.Mem, a, b uint64) (int, int, api.Errno) {
	x, y := num.ToPtr(a), num.ToPtr(b)
	kind, size, _, e := m.Look(x)
	if e != api.OK && !num.IsInt(a) {
		return 0, 0, api.ErrWord
	}
	other, otherSize, _, e := m.Look(y)
	if e != api.OK && !num.IsInt(b) {
		return 0, 0, api.ErrWord
	}
	switch {
	case num.IsInt(a) || num.IsInt(b):
		return alike(a == b), 0, api.OK
	case isCode(kind) || isCode(other):
		return Function, 0, api.OK
	case kind != other:
		return Unlike, 0, api.OK
	case kind == api.KRef:
		return alike(x == y), 0, api.OK
	case size != otherSize:
		return Unlike, 0, api.OK
	case kind == api.KBytes:
		return alike(sameFields(m, x, y, size)), 0, api.OK
	}
	return inside, size, api.OK
}

// isCode tells whether objects of a kind can't be held against others.
func isCode(kind int) bool { return kind == api.KClosure || kind == api.KCode }

// alike is Alike or Unlike.
func alike(same bool) int {
	if same {
		return Alike
	}
	return Unlike
}

// sameFields tells whether two objects have the same words in their fields.
func sameFields(m *mem.Mem, x, y, size int) bool {
	for i := range size {
		if fieldOf(m, x, i) != fieldOf(m, y, i) {
			return false
		}
	}
	return true
}
