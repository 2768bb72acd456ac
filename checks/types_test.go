package checks

import (
	"testing"

	"kindling/api"
	"kindling/syntax"
	"kindling/types"
)

// wanted is a generator's type as a written one, for what a type must allow.
func wanted(t gty) string {
	switch t.name {
	case "*":
		return "(" + wanted(t.l[0]) + " * " + wanted(t.l[1]) + ")"
	case "->":
		return "(" + wanted(t.l[0]) + " -> " + wanted(t.l[1]) + ")"
	case "list", "ref", "tree":
		return "(" + wanted(t.l[0]) + " " + t.name + ")"
	}
	return t.name
}

func TestP9_1_P9_6_ByConstruction(t *testing.T) {
	env := types.New()
	for _, s := range preludes() {
		l, _, _ := syntax.Parse(s)
		env.Add(l)
	}
	for seed := range uint64(3000) {
		g := &gen{x: seed + 21000}
		ty := g.ty(2)
		// The exception takes what the expression has by construction: so its type allows that.
		text := "exception Takes of " + wanted(ty) + "; fn () => Takes " + g.expr(ty, 5)
		l, _, e := syntax.Parse(text)
		if e == api.ErrLong {
			continue
		}
		if e != api.OK {
			t.Fatal(text, e)
		}
		x := env.Copy()
		made, at, e := x.Add(l)
		if e != api.OK || types.Text(made[1][0].Scheme.Type) != "unit -> exn" {
			t.Fatalf("%s: %d at %d", text, e, at)
		}
	}
}
