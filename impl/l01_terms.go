package impl

import (
	"slices"
	"strconv"
	"strings"
)

const (
	MaxTerm   = 4000
	MaxDeep   = 40
	MaxNumber = 1000000000
)

const (
	TmName = iota + 1
	TmSecret
	TmPair
	TmHash
	TmSign
	TmPub
	TmSeal
)

const maxName = 12

// A termShape says what stands in the brackets of a kind.
type termShape struct {
	word        string
	least, most int
	secretFirst bool
}

var termShapes = [...]termShape{
	TmPair: {"pair", 2, 2, false},
	TmHash: {"hash", 1, 8, false},
	TmSign: {"sign", 2, 2, true},
	TmPub:  {"pub", 1, 1, true},
	TmSeal: {"seal", 2, 2, false},
}

// A termNode is a term that has been read, with its text, so that parts need not be read again.
type termNode struct {
	kind  int64
	text  string
	parts []termNode
}

// A termReader goes through a text from its beginning; it panics with noTerm where no term goes on.
type termReader struct {
	text string
	at   int
}

type noTerm struct{}

func readTerm(t string) (n termNode, ok bool) {
	defer func() {
		if failed := recover(); failed != nil {
			if _, own := failed.(noTerm); !own {
				panic(failed)
			}
			n, ok = termNode{}, false
		}
	}()
	r := termReader{text: t}
	r.want(len(t) <= MaxTerm)
	n = r.term(0)
	r.want(r.at == len(t))
	return n, true
}

func (r *termReader) want(holds bool) {
	if !holds {
		panic(noTerm{})
	}
}

// next is 0 behind the end; no term has such a byte, so it needs no flag of its own.
func (r *termReader) next() byte {
	if r.at == len(r.text) {
		return 0
	}
	return r.text[r.at]
}

func (r *termReader) skip(b byte) {
	r.want(r.next() == b)
	r.at++
}

// term reads a term with so many brackets around it.
func (r *termReader) term(around int) termNode {
	start := r.at
	switch r.next() {
	case '(':
		return r.bracket(around)
	case '!':
		r.at++
		r.name()
		return termNode{kind: TmSecret, text: r.text[start:r.at]}
	}
	r.name()
	return termNode{kind: TmName, text: r.text[start:r.at]}
}

func (r *termReader) bracket(around int) termNode {
	r.want(around < MaxDeep)
	start := r.at
	r.skip('(')
	kind := kindOfWord(r.letters())
	r.want(kind != 0)
	shape := termShapes[kind]
	var parts []termNode
	for r.next() == ' ' {
		r.want(len(parts) < shape.most)
		r.at++
		parts = append(parts, r.term(around+1))
	}
	r.skip(')')
	r.want(len(parts) >= shape.least)
	r.want(!shape.secretFirst || parts[0].kind == TmSecret)
	return termNode{kind: kind, text: r.text[start:r.at], parts: parts}
}

func (r *termReader) name() {
	name := r.letters()
	r.want(len(name) >= 1 && len(name) <= maxName && name[0] >= 'a')
}

func (r *termReader) letters() string {
	start := r.at
	for inName(r.next()) {
		r.at++
	}
	return r.text[start:r.at]
}

func inName(b byte) bool {
	return b >= 'a' && b <= 'z' || b >= '0' && b <= '9'
}

func kindOfWord(word string) int64 {
	for kind := int64(TmPair); kind <= TmSeal; kind++ {
		if termShapes[kind].word == word {
			return kind
		}
	}
	return 0
}

func KindOf(t string) int64 {
	n, _ := readTerm(t)
	return n.kind
}

func PartsOf(t string) []string {
	n, _ := readTerm(t)
	var parts []string
	for _, p := range n.parts {
		parts = append(parts, p.text)
	}
	return parts
}

func Make(kind int64, parts []string) (string, bool) {
	if kind < TmPair || kind > TmSeal || len(parts) > termShapes[kind].most {
		return "", false
	}
	// A part such as "a b" would make a term of other parts than these.
	for _, p := range parts {
		if KindOf(p) == 0 {
			return "", false
		}
	}
	t := "(" + termShapes[kind].word + " " + strings.Join(parts, " ") + ")"
	if KindOf(t) != kind {
		return "", false
	}
	return t, true
}

// signOfHash is what all signed texts are: (sign SECRET (hash PARTS)).
func signOfHash(secret string, parts ...string) (string, bool) {
	told, ok := Make(TmHash, parts)
	if !ok {
		return "", false
	}
	return Make(TmSign, []string{secret, told})
}

func Stands(t string, sub string) bool {
	n, ok := readTerm(t)
	return ok && n.holds(sub)
}

func (n termNode) holds(sub string) bool {
	if n.text == sub {
		return true
	}
	for _, p := range n.parts {
		if p.holds(sub) {
			return true
		}
	}
	return false
}

func SecretsOf(t string) []string {
	n, _ := readTerm(t)
	secrets := n.secrets()
	slices.Sort(secrets)
	return slices.Compact(secrets)
}

func (n termNode) secrets() []string {
	if n.kind == TmSecret {
		return []string{n.text}
	}
	var all []string
	for _, p := range n.parts {
		all = append(all, p.secrets()...)
	}
	return all
}

func Number(n int64) (string, bool) {
	if n < 0 || n > MaxNumber {
		return "", false
	}
	return "n" + strconv.FormatInt(n, 10), true
}

func NumberOf(t string) int64 {
	digits, ok := strings.CutPrefix(t, "n")
	if !ok {
		return -1
	}
	n, err := strconv.ParseInt(digits, 10, 64)
	if err != nil {
		return -1
	}
	// ParseInt also reads signs and noughts ahead, which no such name has.
	if name, ok := Number(n); !ok || name != t {
		return -1
	}
	return n
}
