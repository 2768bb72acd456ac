// Package checks holds several layers against one another: each has here a plain model of what the document says, that is run beside it.
package checks

import (
	"strings"

	"kindling/api"
	"kindling/num"
	"kindling/rts"
)

// value is an int64, a string, a *tup, a *cell or a *closure.
type value any

type tup struct{ l []value }

type cell struct{ v value }

// closure is a function; with is the values that it has with it, where a model fills them in.
type closure struct {
	apply func(value) value
	with  []value
}

// thrown is what a model is left with when something is raised; stuck and late when it can't go on, or takes too long.
type thrown struct{ v value }
type stuck struct{}
type late struct{}

// How a model ends.
const (
	done = iota
	raised
	isStuck
	isLate
)

// outcome runs a model and tells how it ends.
func outcome(run func() value) (v value, how int) {
	defer func() {
		switch x := recover().(type) {
		case nil:
		case thrown:
			v, how = x.v, raised
		case stuck:
			v, how = nil, isStuck
		case late:
			v, how = nil, isLate
		default:
			panic(x)
		}
	}()
	return run(), done
}

// clock counts a model's steps, so that it ends.
type clock struct{ left int }

func (c *clock) tick() {
	if c.left--; c.left < 0 {
		panic(late{})
	}
}

func throw(n int64) { panic(thrown{n}) }

func intOf(v value) int64 {
	n, ok := v.(int64)
	if !ok {
		panic(stuck{})
	}
	return n
}

func textOf(v value) string {
	s, ok := v.(string)
	if !ok {
		panic(stuck{})
	}
	return s
}

func truth(b bool) value {
	if b {
		return int64(1)
	}
	return int64(0)
}

// fieldOf is a field of a tuple, or what a ref holds.
func fieldOf(v value, n int) value {
	switch x := v.(type) {
	case *tup:
		if n < len(x.l) {
			return x.l[n]
		}
	case *cell:
		if n == 0 {
			return x.v
		}
	}
	panic(stuck{})
}

func tagOf(v value) int64 {
	if t, ok := v.(*tup); ok {
		return intOf(t.l[0])
	}
	return intOf(v)
}

func apply(f, x value) value {
	c, ok := f.(*closure)
	if !ok {
		panic(stuck{})
	}
	return c.apply(x)
}

// same holds two values against each other as the document says; a function raises Equal.
func same(c *clock, a, b value) bool {
	c.tick()
	_, aInt := a.(int64)
	_, bInt := b.(int64)
	if aInt || bInt {
		return a == b
	}
	_, aFn := a.(*closure)
	_, bFn := b.(*closure)
	if aFn || bFn {
		throw(api.XEqual)
	}
	x, aTup := a.(*tup)
	y, bTup := b.(*tup)
	if !aTup || !bTup {
		return a == b
	}
	if len(x.l) != len(y.l) {
		return false
	}
	for i := range x.l {
		if !same(c, x.l[i], y.l[i]) {
			return false
		}
	}
	return true
}

// prim is what an operation makes.
func prim(c *clock, op int, l []value) value {
	switch op {
	case api.OpAdd:
		return num.Add(intOf(l[0]), intOf(l[1]))
	case api.OpSub:
		return num.Sub(intOf(l[0]), intOf(l[1]))
	case api.OpMul:
		return num.Mul(intOf(l[0]), intOf(l[1]))
	case api.OpDiv, api.OpMod:
		a, b := intOf(l[0]), intOf(l[1])
		f := num.Div
		if op == api.OpMod {
			f = num.Mod
		}
		n, e := f(a, b)
		if e != api.OK {
			throw(api.XDiv)
		}
		return n
	case api.OpNeg:
		return num.Neg(intOf(l[0]))
	case api.OpLess:
		return truth(intOf(l[0]) < intOf(l[1]))
	case api.OpAtMost:
		return truth(intOf(l[0]) <= intOf(l[1]))
	case api.OpSame:
		return truth(same(c, l[0], l[1]))
	case api.OpRef:
		return &cell{l[0]}
	case api.OpAssign:
		r, ok := l[0].(*cell)
		if !ok {
			panic(stuck{})
		}
		r.v = l[1]
		return int64(0)
	case api.OpTag:
		return tagOf(l[0])
	case api.OpJoin:
		return textOf(l[0]) + textOf(l[1])
	case api.OpSize:
		return int64(len(textOf(l[0])))
	case api.OpStr:
		n := intOf(l[0])
		if n < 0 || n > 255 {
			throw(api.XChr)
		}
		return string([]byte{byte(n)})
	case api.OpOrd:
		s, n := textOf(l[0]), intOf(l[1])
		if n < 0 || n >= int64(len(s)) {
			throw(api.XSubscript)
		}
		return int64(s[n])
	case api.OpDigits:
		return num.Text(intOf(l[0]))
	}
	panic(stuck{})
}

// shown is a value as text by its type, as layer 5 says, and whether it is of two parts.
func shown(v value, t api.Type, makers []api.Maker, deep int) (string, bool) {
	if deep > api.ShowDeep {
		return "#", false
	}
	if t.Kind == api.KVar {
		return "_", false
	}
	behind := func(word string, v value, t api.Type) (string, bool) {
		s, two := shown(v, t, makers, deep+1)
		if two {
			s = "(" + s + ")"
		}
		return word + " " + s, true
	}
	switch t.N {
	case api.SInt:
		return num.Text(v.(int64)), false
	case api.SUnit:
		return "()", false
	case api.SString:
		return rts.Quote(v.(string)), false
	case api.SArrow:
		return "fn", false
	case api.STuple:
		var l []string
		for i, part := range t.L {
			s, _ := shown(v.(*tup).l[i], part, makers, deep+1)
			l = append(l, s)
		}
		return "(" + strings.Join(l, ", ") + ")", false
	case api.SRef:
		return behind("ref", v.(*cell).v, t.L[0])
	case api.SList:
		var l []string
		for w, more := v.(*tup); more; w, more = fieldOf(w.l[1], 1).(*tup) {
			s, _ := shown(fieldOf(w.l[1], 0), t.L[0], makers, deep+1)
			l = append(l, s)
		}
		return "[" + strings.Join(l, ", ") + "]", false
	}
	for _, k := range makers {
		if k.Type.N == t.N && int64(k.Tag) == tagOf(v) {
			if !k.Has {
				return k.Name, false
			}
			return behind(k.Name, fieldOf(v, 1), put(k.Arg, t.L))
		}
	}
	return "?", false
}

// put is a type with arguments in its variables' places.
func put(t api.Type, args []api.Type) api.Type {
	if t.Kind == api.KVar {
		return args[t.N]
	}
	var l []api.Type
	for _, part := range t.L {
		l = append(l, put(part, args))
	}
	t.L = l
	return t
}

// cut is a value's whole text as it is told.
func cut(v value, t api.Type, makers []api.Maker) string {
	s, _ := shown(v, t, makers, 1)
	if len(s) > api.MaxShow {
		s = s[:api.MaxShow] + "..."
	}
	return s
}

// alike tells whether two models have left the same: functions are alike, refs by what they hold.
func alike(a, b value) bool {
	switch x := a.(type) {
	case *closure:
		_, ok := b.(*closure)
		return ok
	case *cell:
		y, ok := b.(*cell)
		return ok && alike(x.v, y.v)
	case *tup:
		y, ok := b.(*tup)
		if !ok || len(x.l) != len(y.l) {
			return false
		}
		for i := range x.l {
			if !alike(x.l[i], y.l[i]) {
				return false
			}
		}
		return true
	}
	return a == b
}
