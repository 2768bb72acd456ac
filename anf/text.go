package anf

import (
	"strings"

	"kindling/api"
	"kindling/isa"
	"kindling/num"
	"kindling/rts"
)

// Text is a list of functions as text; the empty text of one that is not right.
func Text(l []api.Func) string {
	if !Right(l) {
		return ""
	}
	w := &writer{}
	for _, f := range l {
		w.out.WriteString("(fun")
		w.words("", f.Free, f.Locals)
		w.block(f.Body)
		w.out.WriteString(")\n")
	}
	return w.out.String()
}

// writer writes what it is given, each behind a blank.
type writer struct {
	out strings.Builder
}

// words writes numbers, each behind a mark.
func (w *writer) words(mark string, ns ...int) {
	for _, n := range ns {
		w.out.WriteString(" " + mark + num.Text(int64(n)))
	}
}

func (w *writer) block(b api.Block) {
	w.out.WriteString(" [ ")
	for _, s := range b.Steps {
		w.step(s)
	}
	w.out.WriteString("(" + [...]string{"", "return", "tail", "raise", "branch"}[b.End])
	w.atoms(b.Args)
	w.rest(b.Blocks)
	w.out.WriteString("]")
}

// rest writes the blocks at the end of a step or an end, and what closes that.
func (w *writer) rest(l []api.Block) {
	for _, b := range l {
		w.block(b)
	}
	w.out.WriteString(") ")
}

func (w *writer) step(s api.Step) {
	w.out.WriteString("(" + [...]string{"", "move", "prim", "make", "close", "fill", "field", "call", "put", "if", "try"}[s.Kind])
	if s.Kind == api.SPrim {
		w.out.WriteString(" " + isa.Name(s.N))
	}
	if gives(s.Kind) {
		w.words("%", s.To)
	}
	switch s.Kind {
	case api.SClose, api.SFill, api.SField:
		w.words("", s.N)
	case api.SPut:
		w.words("$", s.N)
	case api.STry:
		w.words("%", s.N)
	}
	w.atoms(s.Args)
	w.rest(s.Blocks)
}

func (w *writer) atoms(l []api.Atom) {
	for _, a := range l {
		switch a.Kind {
		case api.AInt:
			w.out.WriteString(" " + num.Text(a.Num))
		case api.AText:
			w.out.WriteString(" " + rts.Quote(a.Text))
		case api.ALocal:
			w.words("%", a.N)
		case api.AArg:
			w.out.WriteString(" arg")
		case api.AFree:
			w.words("^", a.N)
		case api.AGlobal:
			w.words("$", a.N)
		}
	}
}
