package tests

import (
	"math/rand"
	"slices"
	"strings"
	"testing"

	"loop.example/g00082/impl"
)

func nested(brackets int, inner string) string {
	return strings.Repeat("(hash ", brackets) + inner + strings.Repeat(")", brackets)
}

// termOf is a term of just so many bytes (at least 1), with few brackets around any of its terms.
func termOf(size int) string {
	if size <= 12 {
		return strings.Repeat("a", size)
	}
	left := (size - len("(pair  )")) / 2
	return "(pair " + termOf(left) + " " + termOf(size-len("(pair  )")-left) + ")"
}

// treeOf pairs terms up, so that few brackets are around each.
func treeOf(terms []string) string {
	if len(terms) == 1 {
		return terms[0]
	}
	half := len(terms) / 2
	return "(pair " + treeOf(terms[:half]) + " " + treeOf(terms[half:]) + ")"
}

func pick(r *rand.Rand, from ...string) string {
	return from[r.Intn(len(from))]
}

func someSecret(r *rand.Rand) string {
	return pick(r, "!a", "!b", "!c", "!d", "!e")
}

// someTerm is a term with at most so many brackets around any of its terms; few secrets, so that they meet.
func someTerm(r *rand.Rand, deep int) string {
	if deep == 0 || r.Intn(5) == 0 {
		return pick(r, "x", "y", "n1", someSecret(r), someSecret(r))
	}
	one, two := someTerm(r, deep-1), someTerm(r, deep-1)
	switch r.Intn(6) {
	case 0:
		return "(hash " + one + ")"
	case 1:
		return "(hash " + one + " " + two + " " + one + ")"
	case 2:
		return "(sign " + someSecret(r) + " " + two + ")"
	case 3:
		return "(pub " + someSecret(r) + ")"
	case 4:
		return "(pair " + one + " " + two + ")"
	}
	return "(seal " + one + " " + two + ")"
}

func someTerms(r *rand.Rand, most int) []string {
	var all []string
	for range r.Intn(most + 1) {
		all = append(all, someTerm(r, 3))
	}
	return all
}

func expect(t *testing.T, what string, got []string, want ...string) {
	t.Helper()
	if !slices.Equal(got, want) {
		t.Errorf("%s: got %q, want %q", what, got, want)
	}
}

// roomy is the same list with marked room behind it, to see whether somebody writes there.
func roomy[T any](list []T, mark T) []T {
	long := append(slices.Clone(list), mark, mark, mark)
	return long[:len(list)]
}

func expectParts(t *testing.T, term string, kind int64, want ...string) {
	t.Helper()
	if got := impl.KindOf(term); got != kind {
		t.Errorf("kind of %q: got %d, want %d", term, got, kind)
	}
	expect(t, "parts of "+term, impl.PartsOf(term), want...)
}
