package checks

import (
	"slices"
	"strings"
	"testing"

	"kindling/api"
	"kindling/session"
	"kindling/types"
)

// expected is what an item answers by the model of its words, if that ends.
func (p *program) expected(t *testing.T, text string) (api.Response, bool) {
	t.Helper()
	was, top := p.env.Copy(), p.source.top
	back := func(kind int, lines ...string) (api.Response, bool) {
		p.env, p.source.top = was, top
		return api.Response{Kind: kind, Lines: lines}, true
	}
	l, made, ok := p.decls(t, text)
	if !ok {
		return back(api.RType)
	}
	all := p.env.Makers()
	p.source.makers = slices.Clone(all[:len(was.Makers())])
	p.source.clock = &clock{budget}
	var lines []string
	for i, d := range l {
		var more int
		switch d.Kind {
		case api.DData:
			more = len(d.Data.Cons)
			lines = append(lines, "datatype "+map[int]string{0: "", 1: "'a ", 2: "('a, 'b) "}[len(d.Data.Vars)]+d.Data.Name)
		case api.DExn:
			more = 1
			lines = append(lines, "exception "+d.Con.Name)
		}
		p.source.makers = all[:len(p.source.makers)+more]
		var values []value
		v, how := outcome(func() value { values = p.source.decl(d); return nil })
		switch how {
		case raised:
			exn := api.Type{Kind: api.KCon, N: api.SExn}
			return back(api.RRaised, "uncaught exception "+cut(v, exn, p.source.makers))
		case isLate, isStuck:
			r, _ := back(0)
			return r, false
		}
		for k, b := range made[i] {
			lines = append(lines, "val "+b.Name+" = "+cut(values[k], b.Scheme.Type, p.source.makers)+" : "+types.Text(b.Scheme.Type))
		}
	}
	return api.Response{Kind: api.RDone, Lines: lines}, true
}

func newSession(t *testing.T, words, stack, every int) *session.Session {
	t.Helper()
	s, e := session.New(api.Options{Words: words, Stack: stack, Every: every})
	if e != api.OK {
		t.Fatal(e)
	}
	return s
}

// told is all that a session tells of its names.
func told(s *session.Session) []string {
	var l []string
	for _, n := range s.Names() {
		line, ok := s.Line(n)
		if !ok {
			line = "none of " + n
		}
		l = append(l, line)
	}
	return l
}

// items are a program's items by chance: single declarations, and some of several.
func (g *gen) mixed() []string {
	l := append(preludes(), g.items(2+g.n(4), 4)...)
	if g.n(2) == 0 {
		l = append(l, strings.Join(g.items(1+g.n(3), 3), "; "))
	}
	return l
}

func TestP13_3_W2_ByChance(t *testing.T) {
	var kinds [10]int
	for seed := range uint64(1500) {
		g := &gen{x: seed + 7000}
		s, p := newSession(t, api.MaxWords, api.MaxStack, []int{0, 0, 0, 7}[seed%4]), newProgram()
		for _, text := range g.mixed() {
			want, ok := p.expected(t, text)
			before := told(s)
			if !ok {
				break
			}
			got := s.Do(api.Item{Text: text, Budget: 1 << 30})
			kinds[got.Kind]++
			if want.Kind == api.RType && want.Lines == nil && (got.Kind == api.RType || got.Kind == api.RSyntax) {
				break // the names that it makes are not there
			}
			if got.Kind != want.Kind || !slices.Equal(got.Lines, want.Lines) {
				t.Fatalf("seed %d: %s\nanswers %v\nnot %v", seed, text, got, want)
			}
			if got.Kind != api.RDone {
				if !slices.Equal(told(s), before) {
					t.Errorf("seed %d: %s leaves something", seed, text)
				}
				break
			}
		}
	}
	t.Log(kinds)
	if kinds[api.RDone] < 5000 || kinds[api.RRaised] < 100 {
		t.Error("too few", kinds)
	}
}

func TestP13_3_Chapter10(t *testing.T) {
	for _, text := range lowered() {
		s, p := newSession(t, api.MaxWords, api.MaxStack, 0), newProgram()
		for _, item := range append(preludes(), text) {
			want, ok := p.expected(t, item)
			got := s.Do(api.Item{Text: item, Budget: 1 << 30})
			if !ok || got.Kind != want.Kind || want.Kind != api.RType && !slices.Equal(got.Lines, want.Lines) {
				t.Errorf("%s\nanswers %v\nnot %v", item, got, want)
			}
		}
	}
}

// answers are what a session answers to items, each with its names' lines behind it.
func answers(s *session.Session, items []string, budget int) []string {
	var l []string
	for _, text := range items {
		r := s.Do(api.Item{Text: text, Budget: budget})
		l = append(l, strings.Join(r.Lines, "\n")+" "+strings.Join(told(s), "\n"))
	}
	return l
}

func TestP13_6_W3_Room(t *testing.T) {
	for seed := range uint64(200) {
		g := &gen{x: seed + 9000}
		items := g.mixed()
		want := answers(newSession(t, api.MaxWords, api.MaxStack, 0), items, 1<<30)
		for _, o := range []api.Options{{Words: api.MaxWords, Stack: 30000, Every: 1}, {Words: 20000, Stack: api.MaxStack, Every: 3}, {Words: 30000, Stack: 20000, Every: 100}} {
			if got := answers(newSession(t, o.Words, o.Stack, o.Every), items, 1<<29); !slices.Equal(got, want) {
				t.Fatalf("seed %d, %v:\n%s\nnot\n%s", seed, o, strings.Join(got, "\n"), strings.Join(want, "\n"))
			}
		}
	}
}

func TestP13_7_P13_5_Interrupted(t *testing.T) {
	for seed := range uint64(60) {
		g := &gen{x: seed + 11000}
		items := g.mixed()
		s, u := newSession(t, api.MaxWords, api.MaxStack, 0), newSession(t, api.MaxWords, api.MaxStack, 0)
		for i, text := range items {
			for _, stop := range []int{1, 2, 5, 11, 30, 100} {
				live, was := u.Live(), told(u)
				r := u.Copy().Do(api.Item{Text: text, Budget: 1 << 30, Stop: stop})
				q := u.Copy().Do(api.Item{Text: text, Budget: stop})
				if (r.Kind == api.RInterrupt) != (q.Kind == api.RTimeout) && q.Kind != api.RDone {
					t.Errorf("%s: %v at the stop %d, %v with that budget", text, r, stop, q)
				}
				if r.Kind == api.RInterrupt {
					r = u.Do(api.Item{Text: text, Budget: 1 << 30, Stop: stop})
					if !slices.Equal(r.Lines, []string{"interrupted"}) || u.Live() != live || !slices.Equal(told(u), was) {
						t.Errorf("%s leaves something: %v", text, r)
					}
				}
			}
			a, b := s.Do(api.Item{Text: text, Budget: 1 << 30}), u.Do(api.Item{Text: text, Budget: 1 << 30})
			if a.Kind != b.Kind || !slices.Equal(a.Lines, b.Lines) || s.Live() != u.Live() {
				t.Fatalf("seed %d, item %d: %v, not %v", seed, i, b, a)
			}
		}
	}
}

func TestP13_8_Joined(t *testing.T) {
	joined := 0
	for seed := range uint64(1500) {
		g := &gen{x: seed + 13000}
		prelude := preludes()
		two := []string{g.items(1, 3)[0], g.items(1, 3)[0]}
		if strings.Contains(strings.Join(two, ""), "ref") {
			continue
		}
		a, b := newSession(t, api.MaxWords, api.MaxStack, 0), newSession(t, api.MaxWords, api.MaxStack, 0)
		answers(a, prelude, 1<<20)
		answers(b, prelude, 1<<20)
		r := a.Do(api.Item{Text: two[0], Budget: 1 << 20})
		q := a.Do(api.Item{Text: two[1], Budget: 1 << 20})
		if r.Kind != api.RDone || q.Kind != api.RDone {
			continue
		}
		joined++
		both := b.Do(api.Item{Text: two[0] + ";" + two[1], Budget: 1 << 21})
		if both.Kind != api.RDone || !slices.Equal(both.Lines, append(r.Lines, q.Lines...)) || !slices.Equal(told(a), told(b)) || a.Live() != b.Live() {
			t.Errorf("%v: %v, not %v and %v", two, both, r, q)
		}
	}
	if joined < 50 {
		t.Error("too few", joined)
	}
}

func TestW1_OneText(t *testing.T) {
	for seed := range uint64(100) {
		g := &gen{x: seed + 17000}
		items := g.mixed()
		var other []string
		for _, s := range items {
			other = append(other, "(* a (* b *) *)\n"+strings.ReplaceAll(strings.ReplaceAll(s, "(", " ( (* c *) "), " then ", "\n\tthen  ")+" ")
		}
		a := answers(newSession(t, api.MaxWords, api.MaxStack, 0), items, 1<<20)
		b := answers(newSession(t, api.MaxWords, api.MaxStack, 0), other, 1<<20)
		for i := range a {
			if len(other[i]) < api.MaxSource && a[i] != b[i] {
				t.Fatalf("%s\n%s\nnot\n%s", other[i], b[i], a[i])
			}
			if len(other[i]) >= api.MaxSource {
				break
			}
		}
	}
}
