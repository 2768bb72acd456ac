// Package types is layer 9: it finds the types of declarations.
package types

import (
	"slices"

	"kindling/api"
	"kindling/rts"
	"kindling/syntax"
)

// Env is an environment. Nothing that its lists hold is ever changed: copies may share it.
type Env struct {
	values []api.Bind
	makers []api.Maker
	names  []typeName
	stamp  int // of the next datatype
	exn    int // the number of the next exception
}

// typeName is the name of a type, and how many arguments that takes.
type typeName struct {
	name  string
	stamp int
	args  int
}

// New is the environment that is there from the beginning.
func New() *Env {
	return &Env{
		makers: rts.Makers(),
		names: []typeName{
			{"int", api.SInt, 0}, {"string", api.SString, 0}, {"unit", api.SUnit, 0}, {"exn", api.SExn, 0},
			{"bool", api.SBool, 0}, {"ref", api.SRef, 1}, {"list", api.SList, 1},
		},
		stamp: api.SFirst,
		exn:   api.XFirst,
	}
}

// Copy is an environment as this one.
func (x *Env) Copy() *Env {
	if x == nil {
		return nil
	}
	return &Env{
		values: slices.Clone(x.values),
		makers: slices.Clone(x.makers),
		names:  slices.Clone(x.names),
		stamp:  x.stamp,
		exn:    x.exn,
	}
}

// Add adds declarations, all or none, and tells the values that each one makes.
func (x *Env) Add(l []api.Decl) ([][]api.Bind, int, api.Errno) {
	if x == nil {
		return nil, 0, api.ErrNil
	}
	if !syntax.Right(l) {
		return nil, 0, api.ErrForm
	}
	y := x.Copy()
	var told [][]api.Bind
	for i, d := range l {
		if !y.named(d) {
			return nil, i, api.ErrName
		}
		made, ok := y.add(d)
		if !ok {
			return nil, i, api.ErrType
		}
		told = append(told, copyBinds(made))
	}
	*x = *y
	return told, 0, api.OK
}

// add adds a declaration that has no wrong names, if it has a type.
func (x *Env) add(d api.Decl) ([]api.Bind, bool) {
	switch d.Kind {
	case api.DData:
		return nil, x.addData(d.Data)
	case api.DExn:
		return nil, x.addExn(d.Con)
	}
	made, ok := x.typed(d)
	x.values = append(x.values, made...)
	return made, ok
}

// value is the scheme of a name's value.
func (x *Env) value(name string) (api.Scheme, bool) {
	for _, b := range slices.Backward(x.values) {
		if b.Name == name {
			return b.Scheme, true
		}
	}
	return api.Scheme{}, false
}

// maker is the constructor of a name.
func (x *Env) maker(name string) (api.Maker, bool) {
	for _, k := range slices.Backward(x.makers) {
		if k.Name == name {
			return k, true
		}
	}
	return api.Maker{}, false
}

// typeName is what a type's name stands for.
func (x *Env) typeName(name string) (typeName, bool) {
	for _, n := range slices.Backward(x.names) {
		if n.name == name {
			return n, true
		}
	}
	return typeName{}, false
}

// Find is the scheme of a name's value.
func (x *Env) Find(name string) (api.Scheme, bool) {
	if x == nil {
		return api.Scheme{}, false
	}
	s, ok := x.value(name)
	s.Type = copyType(s.Type)
	return s, ok
}

// Values are all values, in the order in which they came.
func (x *Env) Values() []api.Bind {
	if x == nil {
		return nil
	}
	return copyBinds(x.values)
}

// Makers are all makers, in the order in which they came.
func (x *Env) Makers() []api.Maker {
	if x == nil {
		return nil
	}
	l := slices.Clone(x.makers)
	for i, k := range l {
		l[i].Arg, l[i].Type = copyType(k.Arg), copyType(k.Type)
	}
	return l
}

// Stamps are the numbers of the next datatype and the next exception.
func (x *Env) Stamps() (int, int) {
	if x == nil {
		return 0, 0
	}
	return x.stamp, x.exn
}

func copyBinds(l []api.Bind) []api.Bind {
	l = slices.Clone(l)
	for i, b := range l {
		l[i].Scheme.Type = copyType(b.Scheme.Type)
	}
	return l
}

func copyType(t api.Type) api.Type {
	t.L = slices.Clone(t.L)
	for i, part := range t.L {
		t.L[i] = copyType(part)
	}
	return t
}
