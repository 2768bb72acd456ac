package codegen

import (
	"strings"

	"kindling/api"
	"kindling/isa"
	"kindling/num"
	"kindling/rts"
)

// Sound tells whether codes are sound.
func Sound(l []api.Code) bool {
	for _, c := range l {
		if !sound(c, len(l)) {
			return false
		}
	}
	return len(l) >= 1 && len(l) <= api.MaxCodes
}

// sound tells whether a code is, among so many.
func sound(c api.Code, codes int) bool {
	if len(c.Ins) == 0 || len(c.Lits)+len(c.Ins) > api.MaxSize {
		return false
	}
	for _, l := range c.Lits {
		if !soundLit(l, codes) {
			return false
		}
	}
	slots := 0
	for _, i := range c.Ins {
		if isa.Check(i) != api.OK {
			return false
		}
		if i.Op == api.OpEnter {
			slots = max(slots, i.N)
		}
	}
	for at, i := range c.Ins {
		if !soundIns(i, len(c.Lits), slots) || !staysIn(i, at, len(c.Ins)) {
			return false
		}
	}
	return true
}

func soundLit(l api.Lit, codes int) bool {
	if l.Kind != api.LInt && l.Num != 0 || l.Kind != api.LText && l.Text != "" {
		return false
	}
	switch l.Kind {
	case api.LInt:
		return l.N == 0 && api.MinInt <= l.Num && l.Num <= api.MaxInt
	case api.LText:
		return l.N == 0 && len(l.Text) <= maxText
	case api.LCode:
		return l.N >= 0 && l.N < codes
	case api.LGlobal:
		return l.N >= 0 && l.N < api.MaxGlobal
	}
	return false
}

// soundIns tells whether the number of an instruction is that of something that is there.
func soundIns(i api.Ins, lits, slots int) bool {
	end := 0
	switch i.Op {
	case api.OpLit:
		end = lits
	case api.OpPut:
		end = api.MaxGlobal
	case api.OpLoad, api.OpSave:
		end = slots
	case api.OpEnter:
		return i.N >= 0
	default:
		return true
	}
	return i.N >= 0 && i.N < end
}

// staysIn tells whether all places to which an instruction may go are there.
func staysIn(i api.Ins, at, all int) bool {
	next, ok := at+1, true
	switch i.Op {
	case api.OpJump, api.OpUnless, api.OpHandle:
		ok = next+i.N >= 0 && next+i.N < all
	}
	switch i.Op {
	case api.OpJump, api.OpReturn, api.OpTail, api.OpRaise:
		return ok
	}
	return ok && next < all
}

// Text is codes as text; the empty text, if they are not sound.
func Text(l []api.Code) string {
	if !Sound(l) {
		return ""
	}
	var out strings.Builder
	line := func(words ...string) {
		out.WriteString(strings.Join(words, " "))
		out.WriteByte('\n')
	}
	for n, c := range l {
		line("code", digits(n))
		for i, lit := range c.Lits {
			line("lit", digits(i), litText(lit))
		}
		for i, ins := range c.Ins {
			line(digits(i), isa.Text(ins))
		}
	}
	return out.String()
}

func digits(n int) string { return num.Text(int64(n)) }

func litText(l api.Lit) string {
	switch l.Kind {
	case api.LInt:
		return "int " + num.Text(l.Num)
	case api.LText:
		return "text " + rts.Quote(l.Text)
	case api.LCode:
		return "code " + digits(l.N)
	}
	return "global " + digits(l.N)
}
