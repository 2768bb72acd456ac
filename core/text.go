package core

import (
	"strings"

	"kindling/api"
	"kindling/isa"
	"kindling/num"
	"kindling/rts"
)

// Text is an expression as text; the empty text of one that is not right.
func Text(c api.Core) string {
	if !Right(c) {
		return ""
	}
	var out strings.Builder
	write(&out, c)
	return out.String()
}

// digits is a number's text behind a mark.
func digits(mark string, n int) string { return mark + num.Text(int64(n)) }

func write(out *strings.Builder, c api.Core) {
	switch c.Kind {
	case api.CInt:
		out.WriteString(num.Text(c.Num))
	case api.CText:
		out.WriteString(rts.Quote(c.Text))
	case api.CVar:
		out.WriteString(digits("%", c.N))
	case api.CGlobal:
		out.WriteString(digits("$", c.N))
	default:
		out.WriteString("(" + head(c))
		for i, part := range c.L {
			if c.Kind == api.CFix && i < len(c.Ns)/2 {
				out.WriteString(digits(" %", c.Ns[2*i]) + digits(" %", c.Ns[2*i+1]))
			}
			out.WriteByte(' ')
			write(out, part)
		}
		out.WriteByte(')')
	}
}

// head is what stands in an expression's brackets ahead of its parts.
func head(c api.Core) string {
	switch c.Kind {
	case api.CTuple:
		return "tuple"
	case api.CFn:
		return digits("fn %", c.N)
	case api.CFix:
		return "fix"
	case api.CApp:
		return "app"
	case api.CIf:
		return "if"
	case api.CLet:
		return digits("let %", c.N)
	case api.CField:
		return digits("field ", c.N)
	case api.CPrim:
		return isa.Name(c.N)
	case api.CRaise:
		return "raise"
	case api.CTry:
		return digits("try %", c.N)
	case api.CPut:
		return digits("put $", c.N)
	}
	return ""
}
