// Package desk is layer 14: it plays scripts, in which sessions are made, kept and asked, line by line.
package desk

import (
	"strings"

	"kindling/api"
	"kindling/lex"
	"kindling/num"
)

// The kinds of lines.
const (
	KNew   = 1
	KDo    = 2
	KNames = 3
	KLine  = 4
	KLive  = 5
	KSave  = 6
	KBack  = 7
)

// slotCount is how many slots there are.
const slotCount = 10

// Line is a line.
type Line struct {
	Kind, A, B, C int
	Text          string
}

// form is what a line of a kind has.
type form struct {
	word    string
	numbers int
	slot    bool // is its number a slot?
	text    bool
}

// forms stand at their kinds; 0 is none.
var forms = [...]form{
	KNew:   {word: "new", numbers: 3},
	KDo:    {word: "do", numbers: 2, text: true},
	KNames: {word: "names"},
	KLine:  {word: "line", text: true},
	KLive:  {word: "live"},
	KSave:  {word: "save", numbers: 1, slot: true},
	KBack:  {word: "back", numbers: 1, slot: true},
}

// Text is the text of a line that Parse could answer.
func Text(l Line) (string, api.Errno) {
	if l.Kind < KNew || l.Kind > KBack {
		return "", api.ErrForm
	}
	f := forms[l.Kind]
	text := f.word
	for i, n := range [...]int{l.A, l.B, l.C} {
		if i >= f.numbers && n != 0 || n < api.MinImm || n > api.MaxImm || f.slot && (n < 0 || n >= slotCount) {
			return "", api.ErrForm
		}
		if i < f.numbers {
			text += " " + num.Text(int64(n))
		}
	}
	if f.text {
		quoted, _ := lex.Print([]api.Token{{Kind: api.TText, Text: l.Text}})
		return text + " " + quoted, api.OK
	}
	if l.Text != "" {
		return "", api.ErrForm
	}
	return text, api.OK
}

// Parse is the line whose text s is.
func Parse(s string) (Line, api.Errno) {
	word, rest, _ := strings.Cut(s, " ")
	l := Line{Kind: kindOf(word)}
	for i, place := range [...]*int{&l.A, &l.B, &l.C} {
		if i < forms[l.Kind].numbers {
			word, rest, _ = strings.Cut(rest, " ")
			n, _ := num.Parse(word)
			*place = int(n)
		}
	}
	if forms[l.Kind].text {
		l.Text = unquoted(rest)
	}
	// Words that are missing, too many or written otherwise show by the text.
	if text, e := Text(l); e != api.OK || text != s {
		return Line{}, api.ErrForm
	}
	return l, api.OK
}

// kindOf is the kind of the lines that begin with a word; 0, if there is none.
func kindOf(word string) int {
	for kind, f := range forms {
		if kind >= KNew && f.word == word {
			return kind
		}
	}
	return 0
}

// unquoted is the text that a quoted text tells; of no use where s is none.
func unquoted(s string) string {
	told := make([]byte, 0, len(s))
	for at := 1; at < len(s)-1; at++ {
		c := s[at]
		if c == '\\' {
			at++
			switch c = s[at]; c {
			case 'n':
				c = '\n'
			case 't':
				c = '\t'
			case 'x':
				c = digit(s, at+1)<<4 | digit(s, at+2)
				at += 2
			}
		}
		told = append(told, c)
	}
	return string(told)
}

// digit is the number of a digit 0 to 9, A to F, at a place.
func digit(s string, at int) byte {
	if at >= len(s) {
		return 0
	}
	return byte(max(strings.IndexByte("0123456789ABCDEF", s[at]), 0))
}
