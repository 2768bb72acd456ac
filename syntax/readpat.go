package syntax

import "kindling/api"

func (r *reader) pat() api.Pat {
	p := r.parg()
	if !r.take("::") {
		return p
	}
	return api.Pat{Kind: api.PCon, Name: "::", L: []api.Pat{{Kind: api.PTuple, L: []api.Pat{p, r.pat()}}}}
}

func (r *reader) parg() api.Pat {
	if !r.seesKind(api.TCap) {
		return r.patom()
	}
	p := r.patom()
	if r.seesPatom() {
		p.L = []api.Pat{r.patom()}
	}
	return p
}

func (r *reader) seesPatom() bool {
	return r.seesKind(api.TName, api.TInt, api.TText, api.TCap) || r.sees("_") || r.sees("~") || r.sees("(")
}

func (r *reader) patom() api.Pat {
	t := r.peek()
	switch {
	case r.take("_"):
		return api.Pat{Kind: api.PWild}
	case r.take("~"):
		return api.Pat{Kind: api.PInt, Num: -r.token(api.TInt).Num}
	case r.take("("):
		return r.patBracket()
	case !r.seesPatom():
		r.fail()
	}
	r.taken++
	switch t.Kind {
	case api.TInt:
		return api.Pat{Kind: api.PInt, Num: t.Num}
	case api.TText:
		return api.Pat{Kind: api.PText, Name: t.Text}
	case api.TCap:
		return api.Pat{Kind: api.PCon, Name: t.Text}
	}
	return api.Pat{Kind: api.PVar, Name: t.Text}
}

// patBracket reads what stands behind a bracket that was taken.
func (r *reader) patBracket() api.Pat {
	if r.take(")") {
		return api.Pat{Kind: api.PTuple}
	}
	l := []api.Pat{r.pat()}
	for r.take(",") {
		l = append(l, r.pat())
	}
	r.need(")")
	if len(l) == 1 {
		return l[0]
	}
	return api.Pat{Kind: api.PTuple, L: l}
}

func (r *reader) ty() api.Ty {
	t := r.product()
	if !r.take("->") {
		return t
	}
	return api.Ty{Kind: api.YArrow, L: []api.Ty{t, r.ty()}}
}

func (r *reader) product() api.Ty {
	l := []api.Ty{r.post()}
	for r.take("*") {
		l = append(l, r.post())
	}
	if len(l) == 1 {
		return l[0]
	}
	return api.Ty{Kind: api.YTuple, L: l}
}

func (r *reader) post() api.Ty {
	var t api.Ty
	switch {
	case r.seesKind(api.TVar):
		t = api.Ty{Kind: api.YVar, Name: r.token(api.TVar).Text}
	case r.take("("):
		t = r.tyBracket()
	default:
		t = api.Ty{Kind: api.YCon, Name: r.tname()}
	}
	for r.seesKind(api.TName) || r.sees("ref") {
		t = api.Ty{Kind: api.YCon, Name: r.tname(), L: []api.Ty{t}}
	}
	return t
}

// tyBracket reads what stands behind a bracket that was taken: a type, or several ahead of a name.
func (r *reader) tyBracket() api.Ty {
	l := []api.Ty{r.ty()}
	for r.take(",") {
		l = append(l, r.ty())
	}
	r.need(")")
	if len(l) == 1 {
		return l[0]
	}
	return api.Ty{Kind: api.YCon, Name: r.tname(), L: l}
}

func (r *reader) tname() string {
	if r.take("ref") {
		return "ref"
	}
	return r.token(api.TName).Text
}
