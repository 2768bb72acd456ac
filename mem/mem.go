// Package mem is layer 2: a memory of words in two halves, of which one is in use.
package mem

import (
	"iter"
	"slices"

	"kindling/api"
	"kindling/num"
)

// Where a header's parts lie in its word: bit 0 marks it, a part of partBits bits each for the size and the tagged ones.
const (
	markBit     = 1
	kindShift   = 1
	sizeShift   = 4
	taggedShift = 28
	kindMask    = 1<<(sizeShift-kindShift) - 1
	partMask    = 1<<(taggedShift-sizeShift) - 1
)

// blockCells is how many cells one word of marks tells of.
const blockCells = 64

// Mem is a memory.
type Mem struct {
	words  int
	half   int
	spaces [2]space
}

// space is what is filled of a half.
type space struct {
	cells []uint64 // headers and fields; the header of an object that was moved is its new address's word
	marks []uint64 // a bit a cell, up to the block of the last header: is it a header?
}

// Header is the word of a header's parts.
func Header(kind, size, tagged int) (uint64, api.Errno) {
	if !headed(kind, size, tagged) {
		return 0, api.ErrHead
	}
	return markBit | uint64(kind)<<kindShift | uint64(size)<<sizeShift | uint64(tagged)<<taggedShift, api.OK
}

// headed tells whether they are a header's parts.
func headed(kind, size, tagged int) bool {
	if size < 0 || size > api.MaxSize || tagged < 0 || tagged > size {
		return false
	}
	switch kind {
	case api.KTuple, api.KClosure:
		return size >= 1 && tagged == size
	case api.KRef:
		return size == 1 && tagged == 1
	case api.KBytes:
		return size >= 1 && tagged == 0
	case api.KCode:
		return true
	}
	return false
}

// Parts are the kind, the size and the tagged ones of a header's word.
func Parts(h uint64) (int, int, int, bool) {
	kind, size, tagged := split(h)
	if w, e := Header(kind, size, tagged); e != api.OK || w != h {
		return 0, 0, 0, false
	}
	return kind, size, tagged, true
}

// split is Parts of a word that is known to be a header's.
func split(h uint64) (int, int, int) {
	return int(h >> kindShift & kindMask), int(h >> sizeShift & partMask), int(h >> taggedShift & partMask)
}

// New makes a memory whose halves have so many words.
func New(words int) (*Mem, api.Errno) {
	if words < api.MinWords || words > api.MaxWords {
		return nil, api.ErrArg
	}
	return &Mem{words: words}, api.OK
}

// Words is how many words a half has.
func (m *Mem) Words() int {
	if m == nil {
		return 0
	}
	return m.words
}

// Half is the half in use.
func (m *Mem) Half() int {
	if m == nil {
		return 0
	}
	return m.half
}

// Next is the first address that is free.
func (m *Mem) Next() int {
	if m == nil {
		return 0
	}
	return m.address(m.half, len(m.spaces[m.half].cells))
}

// Free is how many addresses are free in the half in use.
func (m *Mem) Free() int {
	if m == nil {
		return 0
	}
	return m.words - len(m.spaces[m.half].cells)
}

// address is that of a half's cell.
func (m *Mem) address(half, cell int) int { return half*m.words + cell + 1 }

// Alloc makes an object behind the last one.
func (m *Mem) Alloc(kind, size, tagged int) (int, api.Errno) {
	if m == nil {
		return 0, api.ErrNil
	}
	h, e := Header(kind, size, tagged)
	if e != api.OK {
		return 0, e
	}
	if m.Free() < size+1 {
		return 0, api.ErrFull
	}
	a, s := m.Next(), &m.spaces[m.half]
	s.mark()
	s.cells = slices.Grow(s.cells, size+1)
	s.cells = append(s.cells, h)
	for range tagged {
		s.cells = append(s.cells, num.Int(0))
	}
	for range size - tagged {
		s.cells = append(s.cells, 0)
	}
	return a, api.OK
}

// mark says that the next cell will be a header.
func (s *space) mark() {
	cell := len(s.cells)
	for len(s.marks) <= cell/blockCells {
		s.marks = append(s.marks, 0)
	}
	s.marks[cell/blockCells] |= 1 << (cell % blockCells)
}

// marked tells whether a cell is a header. (Marks may end ahead of the cells: the last object may go on for blocks behind its header.)
func (s *space) marked(cell int) bool {
	block := cell / blockCells
	return block < len(s.marks) && s.marks[block]>>(cell%blockCells)&1 == 1
}

// find is the cell of the header of the object at an address in a half.
func (m *Mem) find(half, a int) (int, bool) {
	if a < m.address(half, 0) {
		return 0, false
	}
	cell := a - m.address(half, 0)
	if !m.spaces[half].marked(cell) {
		return 0, false
	}
	return cell, true
}

// Look is the kind, the size and the tagged ones of an object.
func (m *Mem) Look(a int) (int, int, int, api.Errno) {
	if m == nil {
		return 0, 0, 0, api.ErrNil
	}
	cell, ok := m.find(m.half, a)
	if !ok {
		return 0, 0, 0, api.ErrRange
	}
	kind, size, tagged := split(m.spaces[m.half].cells[cell])
	return kind, size, tagged, api.OK
}

// field is the cell of an object's field in the half in use.
func (m *Mem) field(a, i int) (int, api.Errno) {
	if m == nil {
		return 0, api.ErrNil
	}
	cell, ok := m.find(m.half, a)
	if !ok {
		return 0, api.ErrRange
	}
	if _, size, _ := split(m.spaces[m.half].cells[cell]); i < 0 || i >= size {
		return 0, api.ErrRange
	}
	return cell + 1 + i, api.OK
}

// Load is an object's field.
func (m *Mem) Load(a, i int) (uint64, api.Errno) {
	cell, e := m.field(a, i)
	if e != api.OK {
		return 0, e
	}
	return m.spaces[m.half].cells[cell], api.OK
}

// Store makes an object's field w.
func (m *Mem) Store(a, i int, w uint64) api.Errno {
	cell, e := m.field(a, i)
	if e != api.OK {
		return e
	}
	m.spaces[m.half].cells[cell] = w
	return api.OK
}

// Objects tells the addresses of the objects in the half in use, rising, as they are when each one is told.
func (m *Mem) Objects() iter.Seq[int] {
	return func(yield func(int) bool) {
		if m == nil {
			return
		}
		for a, ok := m.after(0); ok; a, ok = m.after(a) {
			if !yield(a) {
				return
			}
		}
	}
}

// after is the first object in the half in use that stands behind an address.
func (m *Mem) after(a int) (int, bool) {
	first := max(m.address(m.half, 0), a+1) - m.address(m.half, 0)
	s := &m.spaces[m.half]
	found := -1
search:
	for block := first / blockCells; block < len(s.marks); block++ {
		for cell := max(first, block*blockCells); cell < (block+1)*blockCells; cell++ {
			if s.marked(cell) {
				found = cell
				break search
			}
		}
	}
	return m.address(m.half, found), found >= 0
}

// Flip takes the other half into use, empty; the one that was in use is the old half.
func (m *Mem) Flip() api.Errno {
	if m == nil {
		return api.ErrNil
	}
	m.half = 1 - m.half
	s := &m.spaces[m.half]
	s.cells, s.marks = s.cells[:0], s.marks[:0]
	return api.OK
}

// Move moves an object of the old half, if it was not moved since Flip.
func (m *Mem) Move(a int) (int, api.Errno) {
	if m == nil {
		return 0, api.ErrNil
	}
	cell, ok := m.find(1-m.half, a)
	if !ok {
		return 0, api.ErrRange
	}
	old := &m.spaces[1-m.half]
	if num.IsPtr(old.cells[cell]) {
		return num.ToPtr(old.cells[cell]), api.OK
	}
	_, size, _ := split(old.cells[cell])
	if m.Free() < size+1 {
		return 0, api.ErrFull
	}
	to, s := m.Next(), &m.spaces[m.half]
	s.mark()
	s.cells = append(s.cells, old.cells[cell:cell+size+1]...)
	old.cells[cell] = num.Ptr(to)
	return to, api.OK
}

// Copy is a memory as this one is, old half and all.
func (m *Mem) Copy() *Mem {
	if m == nil {
		return nil
	}
	c := *m
	for i, s := range m.spaces {
		c.spaces[i] = space{cells: slices.Clone(s.cells), marks: slices.Clone(s.marks)}
	}
	return &c
}
