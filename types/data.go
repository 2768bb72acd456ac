package types

import "kindling/api"

func con(stamp int, name string, l ...api.Type) api.Type {
	return api.Type{Kind: api.KCon, N: stamp, Name: name, L: l}
}

// addData adds a datatype, if it has a type.
func (x *Env) addData(d api.Data) bool {
	stamp := x.stamp
	x.stamp++
	x.names = append(x.names, typeName{d.Name, stamp, len(d.Vars)})
	var vars []api.Type
	for i := range d.Vars {
		vars = append(vars, api.Type{Kind: api.KVar, N: i})
	}
	for tag, c := range d.Cons {
		k, ok := x.made(c, d.Vars)
		if !ok {
			return false
		}
		k.Tag, k.Type = tag, con(stamp, d.Name, vars...)
		x.makers = append(x.makers, k)
	}
	return true
}

// addExn adds an exception, if it has a type.
func (x *Env) addExn(c api.Con) bool {
	k, ok := x.made(c, nil)
	if !ok {
		return false
	}
	k.Tag, k.Type = x.exn, con(api.SExn, "exn")
	x.exn++
	x.makers = append(x.makers, k)
	return true
}

// made is a constructor without its number and its own type.
func (x *Env) made(c api.Con, vars []string) (api.Maker, bool) {
	k := api.Maker{Name: c.Name, Vars: len(vars)}
	for _, t := range c.Arg {
		arg, ok := x.meant(t, vars)
		if !ok {
			return api.Maker{}, false
		}
		k.Has, k.Arg = true, arg
	}
	return k, true
}

// meant is the type that is written; false, if something takes more or fewer arguments.
func (x *Env) meant(t api.Ty, vars []string) (api.Type, bool) {
	if t.Kind == api.YVar {
		return api.Type{Kind: api.KVar, N: index(vars, t.Name)}, true
	}
	var l []api.Type
	for _, part := range t.L {
		p, ok := x.meant(part, vars)
		if !ok {
			return api.Type{}, false
		}
		l = append(l, p)
	}
	switch t.Kind {
	case api.YArrow:
		return con(api.SArrow, "->", l...), true
	case api.YTuple:
		return con(api.STuple, "*", l...), true
	}
	n, _ := x.typeName(t.Name)
	return con(n.stamp, t.Name, l...), n.args == len(l)
}
