package syntax

import "kindling/api"

func (r *reader) exp() api.Expr {
	switch {
	case r.take("if"):
		test := r.exp()
		r.need("then")
		yes := r.exp()
		r.need("else")
		return api.Expr{Kind: api.EIf, L: []api.Expr{test, yes, r.exp()}}
	case r.take("case"):
		of := r.exp()
		r.need("of")
		return r.match(api.ECase, of)
	case r.take("fn"):
		return r.match(api.EFn)
	case r.take("raise"):
		return api.Expr{Kind: api.ERaise, L: []api.Expr{r.exp()}}
	}
	e := r.operators(0)
	if r.take("handle") {
		return r.match(api.EHandle, e)
	}
	return e
}

// match reads arms, behind what they belong to.
func (r *reader) match(kind int, of ...api.Expr) api.Expr {
	e := api.Expr{Kind: kind, L: append([]api.Expr{}, of...)}
	for {
		e.Pats = append(e.Pats, r.pat())
		r.need("=>")
		e.L = append(e.L, r.exp())
		if !r.take("|") {
			return e
		}
	}
}

// operators reads operands with the operators between them whose levels are so high at least.
func (r *reader) operators(least int) api.Expr {
	left := r.prefixed()
	for {
		name := r.peek().Text
		at := levelOf(name)
		if at < least || !r.take(name) {
			return left
		}
		// The right operand has what binds more tightly, and to the right what binds equally, too.
		above := at + 1
		if levels[at].right {
			above = at
		}
		left = api.Expr{Kind: api.EBin, Name: name, L: []api.Expr{left, r.operators(above)}}
	}
}

func (r *reader) prefixed() api.Expr {
	if name := r.peek().Text; isPrefix(name) && r.take(name) {
		return api.Expr{Kind: api.EUn, Name: name, L: []api.Expr{r.prefixed()}}
	}
	e := r.atom()
	for r.seesAtom() {
		e = api.Expr{Kind: api.EApp, L: []api.Expr{e, r.atom()}}
	}
	return e
}

func (r *reader) seesAtom() bool {
	return r.seesKind(api.TInt, api.TText, api.TName, api.TCap) || r.sees("(") || r.sees("let")
}

func (r *reader) atom() api.Expr {
	t := r.peek()
	switch {
	case r.take("("):
		return r.bracket()
	case r.take("let"):
		return r.let()
	case !r.seesAtom():
		r.fail()
	}
	r.taken++
	switch t.Kind {
	case api.TInt:
		return api.Expr{Kind: api.EInt, Num: t.Num}
	case api.TText:
		return api.Expr{Kind: api.EText, Name: t.Text}
	case api.TCap:
		return api.Expr{Kind: api.ECon, Name: t.Text}
	}
	return api.Expr{Kind: api.EVar, Name: t.Text}
}

// bracket reads what stands behind a bracket that was taken.
func (r *reader) bracket() api.Expr {
	if r.take(")") {
		return api.Expr{Kind: api.ETuple}
	}
	e := r.exp()
	switch {
	case r.sees(","):
		e = api.Expr{Kind: api.ETuple, L: r.more(",", e)}
	case r.sees(";"):
		e = api.Expr{Kind: api.ESeq, L: r.more(";", e)}
	}
	r.need(")")
	return e
}

// more reads further expressions, each behind a sign.
func (r *reader) more(between string, first api.Expr) []api.Expr {
	l := []api.Expr{first}
	for r.take(between) {
		l = append(l, r.exp())
	}
	return l
}

// let reads what stands behind a let that was taken.
func (r *reader) let() api.Expr {
	e := api.Expr{Kind: api.ELet}
	for r.sees("val") || r.sees("fun") {
		e.Decls = append(e.Decls, r.bind())
		r.take(";")
	}
	r.need("in")
	l := r.more(";", r.exp())
	if len(l) > 1 {
		l = []api.Expr{{Kind: api.ESeq, L: l}}
	}
	e.L = l
	r.need("end")
	return e
}
