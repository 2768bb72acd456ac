package anf

import (
	"kindling/api"
	"kindling/core"
)

// looker looks at one function of a list.
type looker struct {
	all   []api.Func
	n     int         // the function's number
	given map[int]int // how many steps ahead have given a local something
}

// Right tells whether a list of functions is right.
func Right(l []api.Func) bool {
	for i, f := range l {
		look := &looker{all: l, n: i, given: map[int]int{}}
		if f.Free < 0 || f.Locals < 0 || !look.block(f.Body, true) {
			return false
		}
	}
	return len(l) > 0 && l[0].Free == 0
}

func (k *looker) isLocal(n int) bool { return n >= 0 && n < k.all[k.n].Locals }

// block looks at a block, in which an EndCall may stand or not. What it gives is forgotten behind it.
func (k *looker) block(b api.Block, tail bool) bool {
	gave := 0
	for _, s := range b.Steps {
		if !k.step(s) {
			break
		}
		if gives(s.Kind) {
			k.given[s.To]++
		}
		gave++
	}
	ok := gave == len(b.Steps) && k.end(b, tail)
	for _, s := range b.Steps[:gave] {
		if gives(s.Kind) {
			k.given[s.To]--
		}
	}
	return ok
}

// gives tells whether steps of a kind give a local something.
func gives(kind int) bool { return kind != api.SFill && kind != api.SPut }

func (k *looker) end(b api.Block, tail bool) bool {
	args, blocks := len(b.Args), len(b.Blocks)
	if !k.atoms(b.Args) {
		return false
	}
	switch b.End {
	case api.EndReturn, api.EndRaise:
		return args == 1 && blocks == 0
	case api.EndCall:
		return args == 2 && blocks == 0 && tail
	case api.EndIf:
		return args == 1 && blocks == 2 && k.block(b.Blocks[0], tail) && k.block(b.Blocks[1], tail)
	}
	return false
}

func (k *looker) step(s api.Step) bool {
	if gives(s.Kind) && !k.isLocal(s.To) || !gives(s.Kind) && s.To != 0 {
		return false
	}
	if !k.atoms(s.Args) || !k.fits(s) {
		return false
	}
	switch s.Kind {
	case api.SIf:
		return len(s.Blocks) == 2 && k.block(s.Blocks[0], false) && k.block(s.Blocks[1], false)
	case api.STry:
		if len(s.Blocks) != 2 || !k.block(s.Blocks[0], false) {
			return false
		}
		k.given[s.N]++
		ok := k.block(s.Blocks[1], false)
		k.given[s.N]--
		return ok
	}
	return len(s.Blocks) == 0
}

// fits tells whether a step has the number and as many atoms as its kind names.
func (k *looker) fits(s api.Step) bool {
	args := len(s.Args)
	switch s.Kind {
	case api.SMove, api.SIf:
		return args == 1 && s.N == 0
	case api.SPrim:
		return args <= 2 && core.Right(api.Core{Kind: api.CPrim, N: s.N, L: zeros(args)})
	case api.SMake:
		return args >= 1 && s.N == 0
	case api.SClose:
		return s.N >= 0 && s.N < len(k.all) && args == k.all[s.N].Free
	case api.SFill:
		return args == 2 && s.N >= 0
	case api.SField:
		return args == 1 && s.N >= 0 && s.N < api.MaxSize
	case api.SCall:
		return args == 2 && s.N == 0
	case api.SPut:
		return args == 1 && isGlobal(s.N)
	case api.STry:
		return args == 0 && k.isLocal(s.N)
	}
	return false
}

// zeros are so many core expressions.
func zeros(n int) []api.Core {
	l := make([]api.Core, n)
	for i := range l {
		l[i].Kind = api.CInt
	}
	return l
}

func isGlobal(n int) bool { return n >= 0 && n < api.MaxGlobal }

func (k *looker) atoms(l []api.Atom) bool {
	for _, a := range l {
		if !k.atom(a) {
			return false
		}
	}
	return true
}

func (k *looker) atom(a api.Atom) bool {
	if a.Kind != api.AInt && a.Num != 0 || a.Kind != api.AText && a.Text != "" {
		return false
	}
	switch a.Kind {
	case api.AInt:
		return a.N == 0 && api.MinInt <= a.Num && a.Num <= api.MaxInt
	case api.AText:
		return a.N == 0
	case api.ALocal:
		return k.isLocal(a.N) && k.given[a.N] > 0
	case api.AArg:
		return a.N == 0 && k.n > 0
	case api.AFree:
		return a.N >= 0 && a.N < k.all[k.n].Free
	case api.AGlobal:
		return isGlobal(a.N)
	}
	return false
}
