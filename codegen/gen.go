// Package codegen is layer 12: it makes codes of functions, which the machine runs.
package codegen

import (
	"kindling/anf"
	"kindling/api"
)

// What one function may have.
const (
	maxLocals = 500
	maxFree   = 200
	maxParts  = 2000 // steps, ends and atoms
)

// maxText is how many bytes the greatest text object has: one of its fields is their number.
const maxText = 8 * (api.MaxSize - 1)

// Gen makes codes of functions: the function of a number is the code of that number.
func Gen(l []api.Func) ([]api.Code, api.Errno) {
	if !anf.Right(l) {
		return nil, api.ErrForm
	}
	c := counter{named: map[int]int{}, put: map[int]int{}}
	long := len(l) > api.MaxCodes
	for _, f := range l {
		c.parts = 0
		c.block(f.Body)
		long = long || f.Locals > maxLocals || f.Free > maxFree || c.parts > maxParts
	}
	for n := range c.put {
		if c.named[n] > 0 {
			return nil, api.ErrLink
		}
	}
	if long || c.text > maxText {
		return nil, api.ErrLong
	}
	codes := make([]api.Code, 0, len(l))
	for _, f := range l {
		codes = append(codes, code(f))
	}
	return codes, api.OK
}

// counter goes through functions and counts.
type counter struct {
	parts int         // steps, ends and atoms
	text  int         // bytes of the longest text
	named map[int]int // globals, by how many atoms name them
	put   map[int]int // globals, by how many steps put them
}

func (c *counter) block(b api.Block) {
	for _, s := range b.Steps {
		c.parts++
		if s.Kind == api.SPut {
			c.put[s.N]++
		}
		c.atoms(s.Args)
		c.blocks(s.Blocks)
	}
	c.parts++
	c.atoms(b.Args)
	c.blocks(b.Blocks)
}

func (c *counter) blocks(l []api.Block) {
	for _, b := range l {
		c.block(b)
	}
}

func (c *counter) atoms(l []api.Atom) {
	for _, a := range l {
		c.parts++
		c.text = max(c.text, len(a.Text))
		if a.Kind == api.AGlobal {
			c.named[a.N]++
		}
	}
}

// use is what a function makes use of.
type use struct {
	arg, free bool
	calls     bool // or handles: the registers are another's then
}

// uses looks through a block.
func (u *use) block(b api.Block) {
	for _, s := range b.Steps {
		u.calls = u.calls || s.Kind == api.SCall || s.Kind == api.STry
		u.atoms(s.Args)
		u.blocks(s.Blocks)
	}
	u.atoms(b.Args)
	u.blocks(b.Blocks)
}

func (u *use) blocks(l []api.Block) {
	for _, b := range l {
		u.block(b)
	}
}

func (u *use) atoms(l []api.Atom) {
	for _, a := range l {
		u.arg = u.arg || a.Kind == api.AArg
		u.free = u.free || a.Kind == api.AFree
	}
}
