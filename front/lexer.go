package front

import (
	"strconv"
	"strings"

	"binnacle/api"
)

// The kinds of tokens.
const (
	isEnd  = iota // the text's
	isSign        // a mark or a word
	isName
	isNumber
	isString
)

const (
	words     = " int char if else while return break continue "
	longMarks = " << <= >> >= == != && || "
	loneMarks = "(){}[];,*/%+-<>&^|=!~"
	digits    = "0123456789"
	letters   = "abcdefghijklmnopqrstuvwxyzABCDEFGHIJKLMNOPQRSTUVWXYZ_"
)

// token: where it begins, its text (of a string its bytes), of a number which one.
type token struct {
	kind, at int
	text     string
	n        int64
}

// fault is what a text is given up for.
type fault struct {
	e  api.Errno
	at int
}

// lexer cuts tokens off; place is where the rest begins.
type lexer struct {
	text  string
	place int
}

// skip goes behind blanks.
func (l *lexer) skip() {
	for l.place < len(l.text) {
		rest := l.text[l.place:]
		switch {
		case strings.HasPrefix(rest, "//"):
			n := strings.IndexByte(rest, '\n')
			if n < 0 {
				n = len(rest)
			}
			l.place += n
		case rest[0] == ' ' || rest[0] == '\t' || rest[0] == '\n':
			l.place++
		default:
			return
		}
	}
}

// token is the next one.
func (l *lexer) token() token {
	l.skip()
	t := token{at: l.place}
	rest := l.text[l.place:]
	n := 0 // bytes of it; 0: it is none
	switch {
	case rest == "":
		return t
	case strings.IndexByte(letters, rest[0]) >= 0:
		n = l.name(rest, &t)
	case strings.IndexByte(digits, rest[0]) >= 0:
		n = l.number(rest, &t)
	case rest[0] == '\'':
		n = l.quoted(rest, &t)
	case rest[0] == '"':
		n = l.stretch(rest, &t)
	default:
		n = l.mark(rest, &t)
	}
	if n == 0 {
		panic(fault{api.ErrSyntax, t.at})
	}
	l.place += n
	return t
}

// run is how many of the first bytes are some of these.
func run(s, these string) int {
	n := 0
	for n < len(s) && strings.IndexByte(these, s[n]) >= 0 {
		n++
	}
	return n
}

func (l *lexer) name(rest string, t *token) int {
	n := run(rest, letters+digits)
	if n > api.MaxIdent {
		return 0
	}
	t.kind, t.text = isName, rest[:n]
	if strings.Contains(words, " "+t.text+" ") {
		t.kind = isSign
	}
	return n
}

func (l *lexer) number(rest string, t *token) int {
	n := run(rest, digits)
	v, err := strconv.ParseInt(rest[:n], 10, 64)
	if err != nil || n > 1 && rest[0] == '0' {
		return 0
	}
	t.kind, t.n = isNumber, v
	return n
}

// char is the byte that stands first between quotes, and how many bytes say so; 0, if there is none.
func char(rest string, plain byte) (byte, int) {
	if rest == "" {
		return 0, 0
	}
	c := rest[0]
	if c != '\\' {
		if c < 32 || c > 126 || (c == '\'' || c == '"') && c != plain {
			return 0, 0
		}
		return c, 1
	}
	if len(rest) < 2 {
		return 0, 0
	}
	switch rest[1] {
	case 'n':
		return '\n', 2
	case 't':
		return '\t', 2
	case '0':
		return 0, 2
	case '\\', '\'', '"':
		return rest[1], 2
	}
	return 0, 0
}

func (l *lexer) quoted(rest string, t *token) int {
	c, n := char(rest[1:], '"')
	if n == 0 || 1+n >= len(rest) || rest[1+n] != '\'' {
		return 0
	}
	t.kind, t.n = isNumber, int64(c)
	return n + 2
}

func (l *lexer) stretch(rest string, t *token) int {
	var row []byte
	for at := 1; at < len(rest); {
		if rest[at] == '"' {
			t.kind, t.text = isString, string(row)
			return at + 1
		}
		c, n := char(rest[at:], '\'')
		if n == 0 || c == 0 || len(row) == api.MaxString {
			return 0
		}
		row = append(row, c)
		at += n
	}
	return 0
}

func (l *lexer) mark(rest string, t *token) int {
	t.kind = isSign
	if len(rest) > 1 && strings.Contains(longMarks, " "+rest[:2]+" ") {
		t.text = rest[:2]
		return 2
	}
	if strings.IndexByte(loneMarks, rest[0]) < 0 {
		return 0
	}
	t.text = rest[:1]
	return 1
}
