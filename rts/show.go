package rts

import (
	"iter"

	"kindling/api"
	"kindling/mem"
	"kindling/num"
)

const (
	noValue = "?"   // in the place of what is no value of its type
	tooDeep = "#"   // in the place of what is too deep
	cut     = "..." // behind a text that is too long
)

// The numbers of list's constructors.
const (
	nilTag  = 0
	consTag = 1
)

// teller tells values of a memory.
type teller struct {
	m      *mem.Mem
	makers []api.Maker
}

// Show is a value as text, by its type.
func Show(m *mem.Mem, w uint64, t api.Type, makers []api.Maker) string {
	if m == nil {
		return noValue
	}
	s, _ := teller{m, makers}.tell(w, t, 1)
	if len(s) > api.MaxShow {
		return s[:api.MaxShow] + cut
	}
	return s
}

// long tells whether a text is so long that what comes behind it is cut anyway.
func long(s string) bool { return len(s) > api.MaxShow }

// tell is the text of a value at a depth, and whether it is of two parts: "ref " or a constructor, and something.
func (l teller) tell(w uint64, t api.Type, depth int) (string, bool) {
	if depth > api.ShowDeep {
		return tooDeep, false
	}
	switch t.Kind {
	case api.KVar:
		return "_", false
	case api.KCon:
		return l.tellOf(w, t, depth)
	}
	return noValue, false
}

// tellOf is tell by the type's stamp.
func (l teller) tellOf(w uint64, t api.Type, depth int) (string, bool) {
	switch {
	case t.N == api.SInt && num.IsInt(w):
		return num.Text(num.ToInt(w)), false
	case t.N == api.SUnit && w == num.Int(0):
		return "()", false
	case t.N == api.SString:
		if s, e := GetText(l.m, w); e == api.OK {
			return Quote(s), false
		}
		return noValue, false
	case t.N == api.SArrow && l.is(w, api.KClosure):
		return "fn", false
	case t.N == api.SInt || t.N == api.SUnit || t.N == api.SArrow:
		return noValue, false
	case t.N == api.STuple && len(t.L) >= 2:
		return l.tuple(w, t.L, depth), false
	case t.N == api.SRef && len(t.L) == 1:
		if !l.is(w, api.KRef) {
			return noValue, false
		}
		return l.behind("ref", fieldOf(l.m, num.ToPtr(w), 0), t.L[0], depth), true
	case t.N == api.SList && len(t.L) == 1:
		return l.list(w, t.L[0], depth), false
	}
	return l.constructor(w, t, depth)
}

// is tells whether a word is that of an object of a kind.
func (l teller) is(w uint64, kind int) bool {
	k, _, _, e := l.m.Look(num.ToPtr(w))
	return e == api.OK && k == kind
}

// tupleOf is the address of a tuple of so many parts.
func (l teller) tupleOf(w uint64, parts int) (int, bool) {
	a := num.ToPtr(w)
	k, size, _, e := l.m.Look(a)
	return a, e == api.OK && k == api.KTuple && size == parts
}

// behind is a word, a blank and the text of what stands behind it, in brackets where that has two parts itself.
func (l teller) behind(word string, w uint64, t api.Type, depth int) string {
	s, parts := l.tell(w, t, depth+1)
	if parts {
		return word + " (" + s + ")"
	}
	return word + " " + s
}

// tuple is a tuple's text.
func (l teller) tuple(w uint64, types []api.Type, depth int) string {
	a, ok := l.tupleOf(w, len(types))
	if !ok {
		return noValue
	}
	s, between := "(", ""
	for i, t := range types {
		part, _ := l.tell(fieldOf(l.m, a, i), t, depth+1)
		if s += between + part; long(s) {
			return s
		}
		between = ", "
	}
	return s + ")"
}

// list is a list's text.
func (l teller) list(w uint64, t api.Type, depth int) string {
	s, between := "[", ""
	for element, ok := range l.elements(w) {
		part := noValue
		if ok {
			part, _ = l.tell(element, t, depth+1)
		}
		if s += between + part; long(s) {
			return s
		}
		between = ", "
	}
	return s + "]"
}

// elements tells a list's elements; where a rest is no list, false, and that is the last one.
func (l teller) elements(w uint64) iter.Seq2[uint64, bool] {
	return func(yield func(uint64, bool) bool) {
		for rest := w; rest != num.Int(nilTag); {
			cell, ok := l.cell(rest)
			if !ok {
				yield(0, false)
				return
			}
			if !yield(fieldOf(l.m, cell, 0), true) {
				return
			}
			rest = fieldOf(l.m, cell, 1)
		}
	}
}

// cell is the address of the first element and the rest of a list that has one.
func (l teller) cell(w uint64) (int, bool) {
	a, ok := l.tupleOf(w, 2)
	if !ok || fieldOf(l.m, a, 0) != num.Int(consTag) {
		return 0, false
	}
	return l.tupleOf(fieldOf(l.m, a, 1), 2)
}

// constructor is the text of a constructor's value.
func (l teller) constructor(w uint64, t api.Type, depth int) (string, bool) {
	if num.IsInt(w) {
		if k, ok := l.maker(t.N, w); ok && !k.Has {
			return k.Name, false
		}
		return noValue, false
	}
	a, ok := l.tupleOf(w, 2)
	if !ok {
		return noValue, false
	}
	if k, ok := l.maker(t.N, fieldOf(l.m, a, 0)); ok && k.Has {
		return l.behind(k.Name, fieldOf(l.m, a, 1), put(k.Arg, k.Vars, t.L), depth), true
	}
	return noValue, false
}

// maker is the first constructor of a stamp with the number of a word.
func (l teller) maker(stamp int, tag uint64) (api.Maker, bool) {
	for _, k := range l.makers {
		if k.Type.N == stamp && num.IsInt(tag) && int64(k.Tag) == num.ToInt(tag) {
			return k, true
		}
	}
	return api.Maker{}, false
}

// put is a type with a type's arguments in its variables' places; a variable without one becomes a type of no Kind.
func put(t api.Type, vars int, args []api.Type) api.Type {
	if t.Kind == api.KVar {
		if t.N < 0 || t.N >= vars || t.N >= len(args) {
			return api.Type{}
		}
		return args[t.N]
	}
	l := make([]api.Type, len(t.L))
	for i, part := range t.L {
		l[i] = put(part, vars, args)
	}
	t.L = l
	return t
}

// Makers are the constructors that are there from the beginning.
func Makers() []api.Maker {
	boolean := api.Type{Kind: api.KCon, N: api.SBool, Name: "bool"}
	exn := api.Type{Kind: api.KCon, N: api.SExn, Name: "exn"}
	l := []api.Maker{
		{Name: "false", Tag: 0, Type: boolean},
		{Name: "true", Tag: 1, Type: boolean},
		{Name: "nil", Tag: nilTag, Vars: 1, Type: listOf()},
		{Name: "::", Tag: consTag, Has: true, Vars: 1, Arg: cellOf(), Type: listOf()},
	}
	for tag, name := range [...]string{
		api.XMatch: "Match", api.XBind: "Bind", api.XDiv: "Div", api.XChr: "Chr", api.XSubscript: "Subscript", api.XEqual: "Equal",
	} {
		l = append(l, api.Maker{Name: name, Tag: tag, Type: exn})
	}
	return l
}

// element is the variable that stands for a list's elements.
func element() api.Type { return api.Type{Kind: api.KVar, N: 0} }

// listOf is the type of lists.
func listOf() api.Type {
	return api.Type{Kind: api.KCon, N: api.SList, Name: "list", L: []api.Type{element()}}
}

// cellOf is the type of what :: takes.
func cellOf() api.Type {
	return api.Type{Kind: api.KCon, N: api.STuple, Name: "*", L: []api.Type{element(), listOf()}}
}
