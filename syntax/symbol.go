package syntax

import (
	"strings"

	"selfsame/api"
	"selfsame/tree"
	"selfsame/word"
)

// kind is what a symbol is.
type kind int

const (
	kindEnd   kind = iota
	kindWrong      // a byte that begins no symbol, or one that may not be
	kindSign       // a keyword, too
	kindName
	kindNumber
	kindChar
	kindString
)

const (
	hexDigits  = 8
	someDigits = 10 // of the greatest decimal number
	signs      = "+-*/&~=#<>()[]{},;:.^"
)

// symbol is one of a source's, from at up to end.
type symbol struct {
	kind    kind
	text    string
	at, end int
	value   uint32
}

func letter(c byte) bool { return 'A' <= c && c <= 'Z' || 'a' <= c && c <= 'z' }

func digit(c byte) bool { return '0' <= c && c <= '9' }

func hexDigit(c byte) bool { return digit(c) || 'A' <= c && c <= 'F' }

func nameByte(c byte) bool { return letter(c) || digit(c) }

// run is where bytes that are all so end.
func run(s []byte, at int, are func(byte) bool) int {
	for at < len(s) && are(s[at]) {
		at++
	}
	return at
}

func blank(c byte) bool { return c <= ' ' }

func begins(s []byte, at int, text string) bool {
	return strings.HasPrefix(string(s[at:min(at+len(text), len(s))]), text)
}

// blanks is where blanks and comments end; a comment that does not end stays.
func blanks(s []byte, at int) (int, bool) {
	for {
		at = run(s, at, blank)
		if !begins(s, at, "(*") {
			return at, true
		}
		end, ok := comment(s, at)
		if !ok {
			return at, false
		}
		at = end
	}
}

// comment is where a comment ends.
func comment(s []byte, at int) (int, bool) {
	depth := 0
	for at < len(s) {
		switch {
		case begins(s, at, "(*"):
			depth++
			at += 2
		case begins(s, at, "*)"):
			depth--
			at += 2
		default:
			at++
		}
		if depth == 0 {
			return at, true
		}
	}
	return at, false
}

// next is the symbol behind a place.
func next(s []byte, at int) symbol {
	at, ok := blanks(s, at)
	x := symbol{at: at, end: at}
	switch {
	case !ok:
		x.kind = kindWrong
	case at == len(s):
	case letter(s[at]):
		x.end = run(s, at, nameByte)
		x.kind, x.text = kindName, string(s[at:x.end])
		if tree.Keyword(x.text) {
			x.kind = kindSign
		} else if len(x.text) > api.MaxName {
			x.kind = kindWrong
		}
	case digit(s[at]):
		number(s, &x)
	case s[at] == '"':
		text(s, &x)
	default:
		sign(s, &x)
	}
	return x
}

func number(s []byte, x *symbol) {
	x.kind, x.end = kindNumber, run(s, x.at, hexDigit)
	digits := strings.TrimLeft(string(s[x.at:x.end]), "0")
	ok := false
	switch {
	case x.end < len(s) && (s[x.end] == 'H' || s[x.end] == 'X'):
		if len(digits) <= hexDigits {
			w, _ := word.OfHex(strings.Repeat("0", hexDigits-len(digits)) + strings.ToLower(digits))
			x.value, ok = w, true
		}
		if s[x.end] == 'X' {
			x.kind = kindChar
			ok = ok && x.value <= 255
		}
		x.end++
	case run(s, x.at, digit) == x.end && len(digits) <= someDigits:
		if digits == "" {
			digits = "0"
		}
		w, e := word.OfDec(digits)
		x.value, ok = w, e == api.OK
	}
	if !ok {
		x.kind = kindWrong
	}
	x.text = string(s[x.at:x.end])
}

func text(s []byte, x *symbol) {
	x.end = run(s, x.at+1, func(c byte) bool { return ' ' <= c && c <= '~' && c != '"' })
	if x.end == len(s) || s[x.end] != '"' || x.end-x.at-1 > api.MaxString {
		x.kind = kindWrong
		return
	}
	x.kind = kindString
	x.end++
	x.text = string(s[x.at:x.end])
}

func sign(s []byte, x *symbol) {
	if strings.IndexByte(signs, s[x.at]) < 0 {
		x.kind = kindWrong
		return
	}
	x.kind, x.end = kindSign, x.at+1
	for _, two := range []string{"<=", ">=", ":="} {
		if begins(s, x.at, two) {
			x.end = x.at + len(two)
		}
	}
	x.text = string(s[x.at:x.end])
}
