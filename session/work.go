package session

import (
	"slices"
	"strings"

	"kindling/anf"
	"kindling/api"
	"kindling/codegen"
	"kindling/core"
	"kindling/num"
	"kindling/types"
)

// work is an item that is being done in a session.
type work struct {
	*Session
	item   api.Item
	steps  int // how many were made so far
	makers int // how many constructors there are up to the declaration at hand
	lines  []string
}

// refused is the answer to an item that is not read or not typed.
func refused(kind int, e api.Errno, at int) api.Response {
	what := ""
	switch e {
	case api.ErrToken:
		what = "no token at "
	case api.ErrSyntax:
		what = "wrong token at "
	case api.ErrLong:
		what = "too long at "
	case api.ErrDeep:
		what = "too deep at "
	case api.ErrName:
		what = "no such name in "
	default:
		what = "no type in "
	}
	return said(kind, what+num.Text(int64(at)))
}

func said(kind int, line string) api.Response {
	return api.Response{Kind: kind, Lines: []string{line}}
}

// noRoom is the answer where codes, values or names find no room.
func noRoom() api.Response { return said(api.RMemory, "out of memory") }

// all does typed declarations, one behind the other.
func (w *work) all(l []api.Decl, values [][]api.Bind) api.Response {
	makers := w.env.Makers()
	for i, d := range l {
		w.makers += makes(d)
		if r := w.one(d, values[i], makers[:w.makers]); r.Kind != api.RDone {
			return r
		}
	}
	if len(l) > 0 {
		w.idle()
	}
	return api.Response{Kind: api.RDone, Lines: w.lines}
}

// makes is how many constructors a declaration makes.
func makes(d api.Decl) int {
	switch d.Kind {
	case api.DData:
		return len(d.Data.Cons)
	case api.DExn:
		return 1
	}
	return 0
}

// idle loads a code that does nothing, so that the last declaration's and what it names are not kept.
func (w *work) idle() {
	w.machine.Load([]api.Code{{Ins: []api.Ins{{Op: api.OpReturn}}}})
}

// one does a declaration, whose lines are told then.
func (w *work) one(d api.Decl, values []api.Bind, makers []api.Maker) api.Response {
	globals, ok := w.take(len(values))
	if !ok || !w.load(d, makers, globals) {
		return noRoom()
	}
	if r := w.run(makers); r.Kind != api.RDone {
		return r
	}
	for i, v := range values {
		h := held{global: globals[i], order: w.made, t: v.Scheme.Type}
		w.made++
		w.name(v.Name, h)
		w.lines = append(w.lines, w.line(v.Name, h, makers))
	}
	switch d.Kind {
	case api.DData:
		w.lines = append(w.lines, "datatype "+vars(len(d.Data.Vars))+d.Data.Name)
	case api.DExn:
		w.lines = append(w.lines, "exception "+d.Con.Name)
	}
	return api.Response{Kind: api.RDone}
}

// vars is what stands ahead of a datatype's name.
func vars(count int) string {
	var l []string
	for n := range count {
		l = append(l, types.Text(api.Type{Kind: api.KVar, N: n}))
	}
	switch count {
	case 0:
		return ""
	case 1:
		return l[0] + " "
	}
	return "(" + strings.Join(l, ", ") + ") "
}

// load compiles a declaration and loads its codes; false, if they are too long or find no room.
func (w *work) load(d api.Decl, makers []api.Maker, globals []int) bool {
	c, _, e := core.Lower(d, w.known(), makers, globals)
	if e != api.OK {
		return false
	}
	l, e := anf.Flatten(c)
	if e != api.OK {
		return false
	}
	codes, e := codegen.Gen(l)
	return e == api.OK && w.machine.Load(codes) == api.OK
}

// known is the names and the globals that hold their values.
func (w *work) known() []core.Name {
	l := make([]core.Name, 0, len(w.names))
	for name, h := range w.names {
		l = append(l, core.Name{Name: name, N: h.global})
	}
	slices.SortFunc(l, func(a, b core.Name) int { return a.N - b.N })
	return l
}

// run runs what is loaded with the steps that are left to the item.
func (w *work) run(makers []api.Maker) api.Response {
	stop := 0
	if w.item.Stop > 0 {
		stop = w.item.Stop - w.steps
		if stop <= 0 {
			return said(api.RInterrupt, "interrupted")
		}
	}
	r := w.machine.Run(max(w.item.Budget, 0)-w.steps, stop, w.every)
	w.steps += r.Steps
	switch r.Kind {
	case api.MDone:
		return api.Response{Kind: api.RDone}
	case api.MRaised:
		exn := api.Type{Kind: api.KCon, N: api.SExn, Name: "exn"}
		return said(api.RRaised, "uncaught exception "+w.show(w.machine.Value(), exn, makers))
	case api.MInterrupt:
		return said(api.RInterrupt, "interrupted")
	case api.MTimeout:
		return said(api.RTimeout, "timeout")
	case api.MDeep:
		return said(api.RDeep, "too deep")
	}
	return noRoom()
}
