package desk

import (
	"strings"

	"kindling/api"
	"kindling/isa"
	"kindling/num"
	"kindling/session"
)

// What is answered beside what is asked for.
const (
	answerOK   = "ok"
	answerNone = "none"
)

// desk is the session at hand, and those that are kept.
type desk struct {
	hand  *session.Session
	slots [slotCount]*session.Session
}

// Run plays a script, and tells what is answered, line by line.
func Run(script string) (string, api.Errno) {
	if len(script) > api.MaxScript {
		return "", api.ErrLong
	}
	for n := range isa.Lines(script) {
		if n >= api.MaxItems {
			return "", api.ErrLong
		}
	}
	var out strings.Builder
	d := &desk{}
	for _, line := range isa.Lines(script) {
		for _, answer := range d.play(line) {
			out.WriteString(answer)
			out.WriteByte('\n')
		}
	}
	return out.String(), api.OK
}

// play does what a line says, and tells the lines that are answered.
func (d *desk) play(line string) []string {
	l, e := Parse(line)
	switch {
	case e != api.OK:
		return []string{failed(e)}
	case l.Kind == KNew:
		return []string{d.renew(l)}
	case l.Kind == KBack:
		return []string{d.back(l.A)}
	case d.hand == nil:
		return []string{answerNone}
	case l.Kind == KDo:
		return d.do(l)
	}
	return []string{d.ask(l)}
}

func failed(e api.Errno) string { return "error " + num.Text(int64(e)) }

func count(n int) string { return num.Text(int64(n)) }

// renew makes the session at hand a new one.
func (d *desk) renew(l Line) string {
	s, e := session.New(api.Options{Words: l.A, Stack: l.B, Every: l.C})
	if e != api.OK {
		return failed(e)
	}
	d.hand = s
	return answerOK
}

// back makes the session at hand a copy of a kept one.
func (d *desk) back(slot int) string {
	if d.slots[slot] == nil {
		return answerNone
	}
	d.hand = d.slots[slot].Copy()
	return answerOK
}

// do does an item.
func (d *desk) do(l Line) []string {
	r := d.hand.Do(api.Item{Text: l.Text, Budget: l.A, Stop: l.B})
	return append([]string{count(r.Kind) + " " + count(len(r.Lines))}, r.Lines...)
}

// ask answers what is asked of the session at hand, or keeps a copy of it.
func (d *desk) ask(l Line) string {
	switch l.Kind {
	case KNames:
		names := d.hand.Names()
		return strings.Join(append([]string{count(len(names))}, names...), " ")
	case KLine:
		if line, there := d.hand.Line(l.Text); there {
			return line
		}
		return answerNone
	case KLive:
		return count(d.hand.Live())
	}
	d.slots[l.A] = d.hand.Copy()
	return answerOK
}
