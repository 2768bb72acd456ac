package types

import (
	"strings"

	"kindling/api"
	"kindling/num"
)

// letterCount is how many variables are told by a letter alone.
const letterCount = 26

// Text is a type as text.
func Text(t api.Type) string {
	var out strings.Builder
	write(&out, t)
	return out.String()
}

func write(out *strings.Builder, t api.Type) {
	switch {
	case t.Kind == api.KVar:
		out.WriteString(variableText(t.N))
	case t.Kind != api.KCon:
		out.WriteByte('?')
	case isArrow(t):
		writePart(out, t.L[0], isArrow(t.L[0]))
		out.WriteString(" -> ")
		write(out, t.L[1])
	case isTuple(t):
		for i, part := range t.L {
			if i > 0 {
				out.WriteString(" * ")
			}
			writePart(out, part, isArrow(part) || isTuple(part))
		}
	default:
		writeArgs(out, t.L)
		out.WriteString(t.Name)
	}
}

// writeArgs writes what stands ahead of a constructor's name.
func writeArgs(out *strings.Builder, l []api.Type) {
	switch len(l) {
	case 0:
		return
	case 1:
		writePart(out, l[0], isArrow(l[0]) || isTuple(l[0]))
	default:
		for i, part := range l {
			out.WriteString([...]string{"(", ", "}[min(i, 1)])
			write(out, part)
		}
		out.WriteByte(')')
	}
	out.WriteByte(' ')
}

// writePart writes a type, in brackets if it is to be.
func writePart(out *strings.Builder, t api.Type, brackets bool) {
	if !brackets {
		write(out, t)
		return
	}
	out.WriteByte('(')
	write(out, t)
	out.WriteByte(')')
}

func isArrow(t api.Type) bool { return t.Kind == api.KCon && t.N == api.SArrow && len(t.L) == 2 }

func isTuple(t api.Type) bool { return t.Kind == api.KCon && t.N == api.STuple && len(t.L) >= 2 }

func variableText(n int) string {
	letter := (n%letterCount + letterCount) % letterCount
	s := "'" + string([]byte{byte('a' + letter)})
	if n >= letterCount {
		s += num.Text(int64(n / letterCount))
	}
	return s
}
