// Package codegen is layer 12: it makes codes of functions, which the machine runs.
package codegen

import (
	"kindling/anf"
	"kindling/api"
)

// What one function may have.
const (
	maxLocals = 500
	maxFree   = 200
	maxParts  = 2000 // steps, ends and atoms
)

// maxText is how many bytes the greatest text object has: one of its fields is their number.
const maxText = 8 * (api.MaxSize - 1)

// Gen makes codes of functions: the function of a number is the code of that number.
func Gen(l []api.Func) ([]api.Code, api.Errno) {
	if !anf.Right(l) {
		return nil, api.ErrForm
	}
	named, put := map[int]int{}, map[int]int{}
	long := len(l) > api.MaxCodes
	codes := make([]api.Code, 0, len(l))
	for _, f := range l {
		t := tally{named: named, put: put}
		t.block(f.Body)
		long = long || f.Locals > maxLocals || f.Free > maxFree || t.parts > maxParts || t.text > maxText
		if !long {
			codes = append(codes, code(f, t))
		}
	}
	for n := range put {
		if named[n] > 0 {
			return nil, api.ErrLink
		}
	}
	if long {
		return nil, api.ErrLong
	}
	return codes, api.OK
}

// tally is what there is in a function.
type tally struct {
	parts int         // steps, ends and atoms
	text  int         // bytes of the longest text
	named map[int]int // globals, by how many atoms name them
	put   map[int]int // globals, by how many steps put them
	arg   bool        // is what it is applied to named?
	free  bool        // is something named that it has with it?
	calls bool        // does it call or handle? The registers are another's behind that
}

func (t *tally) block(b api.Block) {
	for _, s := range b.Steps {
		t.parts++
		if s.Kind == api.SPut {
			t.put[s.N]++
		}
		t.calls = t.calls || s.Kind == api.SCall || s.Kind == api.STry
		t.atoms(s.Args)
		t.blocks(s.Blocks)
	}
	t.parts++
	t.atoms(b.Args)
	t.blocks(b.Blocks)
}

func (t *tally) blocks(l []api.Block) {
	for _, b := range l {
		t.block(b)
	}
}

func (t *tally) atoms(l []api.Atom) {
	for _, a := range l {
		t.parts++
		t.text = max(t.text, len(a.Text))
		t.arg = t.arg || a.Kind == api.AArg
		t.free = t.free || a.Kind == api.AFree
		if a.Kind == api.AGlobal {
			t.named[a.N]++
		}
	}
}
