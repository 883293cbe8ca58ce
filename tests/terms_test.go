package tests

import (
	"math"
	"math/rand"
	"slices"
	"strings"
	"testing"

	"loop.example/g00082/impl"
)

func TestKindsAndPartsOfTerms(t *testing.T) {
	expectParts(t, "a", impl.TmName)
	expectParts(t, "z9", impl.TmName)
	expectParts(t, "hash", impl.TmName)
	expectParts(t, "abcdefghijkl", impl.TmName)
	expectParts(t, "a0123456789z", impl.TmName)
	expectParts(t, "!a", impl.TmSecret)
	expectParts(t, "!pair", impl.TmSecret)
	expectParts(t, "!abcdefghijkl", impl.TmSecret)
	expectParts(t, "(pair a b)", impl.TmPair, "a", "b")
	expectParts(t, "(pair pair pair)", impl.TmPair, "pair", "pair")
	expectParts(t, "(hash !a)", impl.TmHash, "!a")
	expectParts(t, "(hash a b c d e f g h)", impl.TmHash, "a", "b", "c", "d", "e", "f", "g", "h")
	expectParts(t, "(sign !k (pair a (hash b c)))", impl.TmSign, "!k", "(pair a (hash b c))")
	expectParts(t, "(sign !k !k)", impl.TmSign, "!k", "!k")
	expectParts(t, "(pub !k)", impl.TmPub, "!k")
	expectParts(t, "(seal (pub !k) (sign !k a))", impl.TmSeal, "(pub !k)", "(sign !k a)")
	expectParts(t, "(seal a b)", impl.TmSeal, "a", "b")
}

func TestKindNumbers(t *testing.T) {
	kinds := []int64{impl.TmName, impl.TmSecret, impl.TmPair, impl.TmHash, impl.TmSign, impl.TmPub, impl.TmSeal}
	if !slices.Equal(kinds, []int64{1, 2, 3, 4, 5, 6, 7}) {
		t.Error(kinds)
	}
	if impl.MaxTerm != 4000 || impl.MaxDeep != 40 || impl.MaxNumber != 1000000000 {
		t.Error("limits")
	}
}

var noTerms = []string{
	"", " ", "!", "!!a", "! a", "!a!", "?a", "?", "1", "1a", "!1", "A", "aB", "a-b", "a_b", "é", "a\xff", "a\x00", "\x00", "a\n", "a\t",
	"abcdefghijklm", "!abcdefghijklm",
	" a", "a ", "!a ", " !a", "a b", " (pair a b)", "(pair a b) ", "(pair a b)\n",
	"(pair  a b)", "(pair a  b)", "(pair a b )", "( pair a b)", "(pair\ta b)", "(pair a\tb)", "(pair a b", "pair a b)",
	"(", ")", "()", "( )", "(a)", "(pair)", "(pair )", "(hash)", "(hash )", "(sign)", "(pub)", "(seal)",
	"(pair a b))", "((pair a b)", "((pair a b))", "(pair (a) b)", "(pair a (b))", "(pair a b)(pair a b)", "(pair a b)c", "(pair (hash a)b)", "(hash (hash a)", "(hash (hash a)))",
	"(pair a)", "(pair a b c)", "(hash a b c d e f g h i)",
	"(sign !k)", "(sign !k a b)", "(sign k a)", "(sign (pub !k) a)", "(sign (hash !k) a)",
	"(pub k)", "(pub !k !k)", "(pub (pub !k))", "(seal a)", "(seal a b c)",
	"(foo a b)", "(Pair a b)", "(pairs a b)", "(pai a b)", "(name a)", "(secret a)", "(hash2 a)", "(!hash a)", "!(hash a)",
	"(hash 1)", "(hash A)", "(hash abcdefghijklm)", "(hash !)", "(pair !a !)", "(hash a,b)",
}

func TestWhatIsNoTerm(t *testing.T) {
	for _, s := range noTerms {
		expectParts(t, s, 0)
		expect(t, "secrets of "+s, impl.SecretsOf(s))
		if impl.Stands(s, s) || impl.Stands("(pair a b)", s) || impl.Stands(s, "a") {
			t.Errorf("%q stands", s)
		}
		if made, ok := impl.Make(impl.TmHash, []string{s}); ok || made != "" {
			t.Errorf("made of %q: %q", s, made)
		}
	}
}

func TestSizeOfTerms(t *testing.T) {
	if s := termOf(impl.MaxTerm); len(s) != impl.MaxTerm || impl.KindOf(s) != impl.TmPair || len(impl.PartsOf(s)) != 2 {
		t.Error("a term of MaxTerm bytes")
	}
	if s := termOf(impl.MaxTerm + 1); impl.KindOf(s) != 0 || impl.PartsOf(s) != nil || impl.Stands(s, "a") {
		t.Error("a term of more than MaxTerm bytes")
	}
	if impl.KindOf(strings.Repeat("a", 1000000)) != 0 || impl.KindOf(strings.Repeat("(", 1000000)) != 0 {
		t.Error("very long")
	}
	rest := impl.MaxTerm - len("(seal  )")
	parts := []string{termOf(rest / 2), termOf(rest - rest/2)}
	if s, ok := impl.Make(impl.TmSeal, parts); !ok || len(s) != impl.MaxTerm {
		t.Error("making MaxTerm bytes", len(s), ok)
	}
	parts[1] = termOf(rest - rest/2 + 1)
	if s, ok := impl.Make(impl.TmSeal, parts); ok || s != "" {
		t.Error("making more than MaxTerm bytes")
	}
}

func TestDepthOfTerms(t *testing.T) {
	for _, inner := range []string{"a", "!a"} {
		if impl.KindOf(nested(impl.MaxDeep, inner)) != impl.TmHash {
			t.Error("MaxDeep brackets around", inner)
		}
		if impl.KindOf(nested(impl.MaxDeep+1, inner)) != 0 {
			t.Error("more than MaxDeep brackets around", inner)
		}
	}
	below, full := nested(impl.MaxDeep-1, "a"), nested(impl.MaxDeep, "a")
	if s, ok := impl.Make(impl.TmPair, []string{"b", below}); !ok || s != "(pair b "+below+")" {
		t.Error(s, ok)
	}
	if s, ok := impl.Make(impl.TmPair, []string{"b", full}); ok || s != "" {
		t.Error(s, ok)
	}
	beside := "(hash" + strings.Repeat(" "+below, 8) + ")"
	if impl.KindOf(beside) != impl.TmHash {
		t.Error("brackets beside each other count as if they were around")
	}
	if !impl.Stands(full, "a") || impl.Stands(nested(impl.MaxDeep+1, "a"), "a") {
		t.Error("stands, deep")
	}
}

func TestMake(t *testing.T) {
	for _, c := range []struct {
		kind  int64
		parts []string
		want  string
	}{
		{impl.TmPair, []string{"a", "!b"}, "(pair a !b)"},
		{impl.TmHash, []string{"a"}, "(hash a)"},
		{impl.TmHash, []string{"a", "b", "c", "d", "e", "f", "g", "h"}, "(hash a b c d e f g h)"},
		{impl.TmSign, []string{"!k", "(hash a)"}, "(sign !k (hash a))"},
		{impl.TmPub, []string{"!k"}, "(pub !k)"},
		{impl.TmSeal, []string{"(pub !k)", "b"}, "(seal (pub !k) b)"},

		{impl.TmName, nil, ""},
		{impl.TmName, []string{"a"}, ""},
		{impl.TmSecret, []string{"!a"}, ""},
		{0, []string{"a", "b"}, ""},
		{8, []string{"a", "b"}, ""},
		{-1, []string{"a", "b"}, ""},
		{math.MaxInt64, []string{"a"}, ""},
		{math.MinInt64, []string{"a"}, ""},
		{impl.TmPair, nil, ""},
		{impl.TmPair, []string{"a"}, ""},
		{impl.TmPair, []string{"a", "b", "c"}, ""},
		{impl.TmPair, []string{"a b"}, ""},
		{impl.TmPair, []string{"a b", "c"}, ""},
		{impl.TmHash, nil, ""},
		{impl.TmHash, []string{}, ""},
		{impl.TmHash, []string{"a b"}, ""},
		{impl.TmHash, []string{"a) (hash b"}, ""},
		{impl.TmHash, []string{"a", "b", "c", "d", "e", "f", "g", "h", "i"}, ""},
		{impl.TmHash, []string{"a", "b", "c", "d", "e", "f", "g", "h i"}, ""},
		{impl.TmSign, []string{"k", "a"}, ""},
		{impl.TmSign, []string{"(pub !k)", "a"}, ""},
		{impl.TmSign, []string{"!k"}, ""},
		{impl.TmSign, []string{"!k", "a", "b"}, ""},
		{impl.TmPub, []string{"k"}, ""},
		{impl.TmPub, []string{"!k", "!k"}, ""},
		{impl.TmPub, nil, ""},
		{impl.TmSeal, []string{"a"}, ""},
		{impl.TmSeal, []string{"a", ""}, ""},
		{impl.TmSeal, []string{"a", "b", "c"}, ""},
	} {
		if got, ok := impl.Make(c.kind, c.parts); got != c.want || ok != (c.want != "") {
			t.Errorf("Make(%d, %q): %q %v", c.kind, c.parts, got, ok)
		}
	}
}

func TestWhatIsMadeHasItsKindAndParts(t *testing.T) {
	r := rand.New(rand.NewSource(1))
	made := 0
	for range 5000 {
		kind := int64(r.Intn(9))
		parts := someTerms(r, 9)
		if len(parts) > 0 && r.Intn(2) == 0 {
			parts[0] = someSecret(r)
		}
		if s, ok := impl.Make(kind, parts); ok {
			made++
			expectParts(t, s, kind, parts...)
		}
	}
	if made < 500 {
		t.Error("too few were made:", made)
	}
}

func TestEachTermIsMadeOfItsParts(t *testing.T) {
	r := rand.New(rand.NewSource(2))
	for range 2000 {
		s := someTerm(r, 5)
		kind := impl.KindOf(s)
		if kind == 0 {
			t.Fatal("no term:", s)
		}
		if again, ok := impl.Make(kind, impl.PartsOf(s)); ok != (kind >= impl.TmPair) || ok && again != s {
			t.Error(s, again, ok)
		}
	}
}

func TestStands(t *testing.T) {
	for _, c := range []struct {
		t, sub string
		want   bool
	}{
		{"a", "a", true}, {"!a", "!a", true}, {"(hash a)", "(hash a)", true},
		{"(pair a (hash b !c))", "a", true}, {"(pair a (hash b !c))", "(hash b !c)", true}, {"(pair a (hash b !c))", "!c", true},
		{"(sign !k a)", "!k", true}, {"(pub !k)", "!k", true}, {"(seal !k a)", "!k", true}, {"(seal !k a)", "a", true},
		{"(hash (hash a))", "(hash a)", true},
		{"a", "b", false}, {"a", "(hash a)", false}, {"!a", "a", false}, {"a", "!a", false},
		{"(hash !a)", "a", false}, {"(hash ab)", "a", false}, {"(hash ab)", "b", false}, {"(hash a)", "hash", false},
		{"(pair a b)", "(pair b a)", false}, {"(hash a b)", "(hash a)", false}, {"(sign !k a)", "(pub !k)", false},
		{"(hash a b)", "a b", false}, {"(hash a b)", "", false}, {"", "", false},
	} {
		if got := impl.Stands(c.t, c.sub); got != c.want {
			t.Errorf("Stands(%q, %q): %v", c.t, c.sub, got)
		}
	}
}

func TestSecretsOf(t *testing.T) {
	expect(t, "a name", impl.SecretsOf("a"))
	expect(t, "a secret", impl.SecretsOf("!a"), "!a")
	expect(t, "names alone", impl.SecretsOf("(pair a (hash b))"))
	expect(t, "each kind", impl.SecretsOf("(hash (pair !g a) (sign !f !e) (pub !d) (seal !c (hash !b)) !a)"), "!a", "!b", "!c", "!d", "!e", "!f", "!g")
	expect(t, "once each", impl.SecretsOf("(pair (sign !b !a) (seal !a !b))"), "!a", "!b")
	expect(t, "the shorter one ahead, digits ahead of letters", impl.SecretsOf("(hash !ab !b !a !a0)"), "!a", "!a0", "!ab", "!b")
}

func TestNumbers(t *testing.T) {
	for _, c := range []struct {
		n    int64
		name string
	}{{0, "n0"}, {1, "n1"}, {9, "n9"}, {10, "n10"}, {12, "n12"}, {100, "n100"}, {999999999, "n999999999"}, {impl.MaxNumber, "n1000000000"}} {
		if got, ok := impl.Number(c.n); !ok || got != c.name || impl.KindOf(got) != impl.TmName {
			t.Error(c.n, got, ok)
		}
		if got := impl.NumberOf(c.name); got != c.n {
			t.Error(c.name, got)
		}
	}
	for _, n := range []int64{-1, -12, impl.MaxNumber + 1, math.MinInt64, math.MaxInt64} {
		if got, ok := impl.Number(n); ok || got != "" {
			t.Error(n, got)
		}
	}
	for _, s := range []string{"", "n", "0", "12", "x", "x1", "n00", "n01", "n012", "n0000000000000000000001", "n1000000001", "n9223372036854775807", "n9223372036854775808", "n18446744073709551616", "n99999999999999999999999", "n-1", "n-0", "n+1", "n 1", " n1", "n1 ", "n1x", "nx1", "nn1", "n1_0", "n0x1", "n1.0", "n1e3", "N1", "!n1", "(hash n1)", "n" + strings.Repeat("1", 5000)} {
		if got := impl.NumberOf(s); got != -1 {
			t.Error(s, got)
		}
	}
}

func TestNumbersComeBack(t *testing.T) {
	r := rand.New(rand.NewSource(3))
	for range 2000 {
		n := r.Int63n(impl.MaxNumber + 1)
		if s, ok := impl.Number(n); !ok || impl.NumberOf(s) != n {
			t.Error(n, s)
		}
	}
}
