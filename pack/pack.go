// Package pack reads and puts what object files and symbol files are made of.
package pack

import (
	"selfsame/api"
	"selfsame/word"
)

// Reader reads bytes from the first one on; behind a fault it reads noughts.
type Reader struct {
	rest  []byte
	fault bool
}

// NewReader is a reader of bytes.
func NewReader(b []byte) *Reader { return &Reader{rest: b} }

// Bytes are the next n bytes.
func (r *Reader) Bytes(n int) []byte {
	if n < 0 || n > len(r.rest) {
		r.fault, r.rest = true, nil
		return nil
	}
	b := r.rest[:n]
	r.rest = r.rest[n:]
	return b
}

// Byte is the next byte.
func (r *Reader) Byte() int {
	if b := r.Bytes(1); b != nil {
		return int(b[0])
	}
	return 0
}

// Word is a word of four bytes.
func (r *Reader) Word() uint32 {
	if l, _ := word.Of(r.Bytes(4)); len(l) == 1 {
		return l[0]
	}
	return 0
}

// Int is a word as a number.
func (r *Reader) Int() int { return int(r.Word()) }

// Name is a byte that tells how many, and so many bytes.
func (r *Reader) Name() string { return string(r.Bytes(r.Byte())) }

// Times reads how many (at most so many), and then does as often what reads one; as long as there is something to read.
func (r *Reader) Times(count func() int, most int, one func()) {
	n := count()
	if n > most {
		r.fault, r.rest = true, nil
	}
	for range n {
		if r.fault {
			return
		}
		one()
	}
}

// Left is how many bytes are left.
func (r *Reader) Left() int { return len(r.rest) }

// Done: was all read, and nothing more?
func (r *Reader) Done() bool { return !r.fault && len(r.rest) == 0 }

// Name puts a name.
func Name(b []byte, s string) []byte { return append(append(b, byte(len(s))), s...) }

// Int puts a number as a word.
func Int(b []byte, n int) []byte { return append(b, word.Bytes(uint32(n))...) }

// Unlike: is each of the texts another one?
func Unlike(l []string) bool {
	places := make(map[string]int, len(l))
	for i, s := range l {
		places[s] = i
	}
	return len(places) == len(l)
}

// MayName: may a name be, that files keep?
func MayName(s string) bool {
	if len(s) < 1 || len(s) > api.MaxName || !letter(s[0]) {
		return false
	}
	for i := range len(s) {
		if c := s[i]; !letter(c) && (c < '0' || c > '9') {
			return false
		}
	}
	return true
}

func letter(c byte) bool { return 'A' <= c && c <= 'Z' || 'a' <= c && c <= 'z' }

// Keyword: is it a keyword?
func Keyword(s string) bool {
	switch s {
	case "ARRAY", "BEGIN", "CONST", "DIV", "DO", "ELSE", "ELSIF", "END", "FALSE", "IF", "IMPORT", "IN", "MOD", "MODULE", "NIL",
		"OF", "OR", "POINTER", "PROCEDURE", "RECORD", "REPEAT", "RETURN", "THEN", "TO", "TRUE", "TYPE", "UNTIL", "VAR", "WHILE":
		return true
	}
	return false
}

// MayImports: may a module of that name have these imports?
func MayImports(own string, l []api.Import) bool {
	names := []string{own}
	for _, i := range l {
		if !MayName(i.Name) || len(names) > api.MaxImports {
			return false
		}
		names = append(names, i.Name)
	}
	return Unlike(names)
}

// Imports puts how many there are, and their names and keys.
func Imports(b []byte, l []api.Import) []byte {
	b = append(b, byte(len(l)))
	for _, i := range l {
		b = append(Name(b, i.Name), word.Bytes(i.Key)...)
	}
	return b
}

// Imports are names and keys, behind a byte that tells how many.
func (r *Reader) Imports() []api.Import {
	var l []api.Import
	r.Times(r.Byte, api.MaxImports, func() { l = append(l, api.Import{Name: r.Name(), Key: r.Word()}) })
	return l
}
