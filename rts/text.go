package rts

import (
	"kindling/api"
	"kindling/mem"
	"kindling/num"
)

// maxText is how many bytes the greatest text object has: one of its fields is their number.
const maxText = 8 * (api.MaxSize - 1)

// PutText makes a text object, and answers its word.
func PutText(m *mem.Mem, s string) (uint64, api.Errno) {
	if m == nil {
		return 0, api.ErrNil
	}
	if len(s) > maxText {
		return 0, api.ErrLong
	}
	words := num.Pack(s)
	a, e := m.Alloc(api.KBytes, 1+len(words), 0)
	if e != api.OK {
		return 0, e
	}
	m.Store(a, 0, uint64(len(s)))
	for i, w := range words {
		m.Store(a, 1+i, w)
	}
	return num.Ptr(a), api.OK
}

// GetText is the text of a text object's word.
func GetText(m *mem.Mem, w uint64) (string, api.Errno) {
	if m == nil {
		return "", api.ErrNil
	}
	a := num.ToPtr(w)
	kind, size, _, e := m.Look(a)
	if e != api.OK {
		return "", api.ErrWord
	}
	if kind != api.KBytes {
		return "", api.ErrKind
	}
	n, _ := m.Load(a, 0)
	if n > maxText {
		return "", api.ErrKind
	}
	var words []uint64
	for i := 1; i < size; i++ {
		w, _ := m.Load(a, i)
		words = append(words, w)
	}
	s, e := num.Unpack(words, int(n))
	if e != api.OK {
		return "", api.ErrKind
	}
	return s, api.OK
}

// hexDigits are the digits of \x in a quoted text.
const hexDigits = "0123456789ABCDEF"

// Quote is the quoted text.
func Quote(s string) string {
	quoted := make([]byte, 0, len(s)+2)
	quoted = append(quoted, '"')
	for i := range len(s) {
		switch c := s[i]; {
		case c == '"' || c == '\\':
			quoted = append(quoted, '\\', c)
		case c == '\n':
			quoted = append(quoted, `\n`...)
		case c == '\t':
			quoted = append(quoted, `\t`...)
		case c < ' ' || c > '~':
			quoted = append(quoted, '\\', 'x', hexDigits[c>>4], hexDigits[c&15])
		default:
			quoted = append(quoted, c)
		}
	}
	return string(append(quoted, '"'))
}
