package tests

import (
	"fmt"
	"math"
	"math/rand"
	"slices"
	"strings"
	"testing"

	"loop.example/g00082/impl"
)

// slowly is TakeApart by the words of the document: again and again, until nothing comes.
func slowly(known []string) []string {
	all := slices.Clone(known)
	for i := 0; i < len(all); i++ {
		var parts []string
		switch p := impl.PartsOf(all[i]); impl.KindOf(all[i]) {
		case impl.TmPair:
			parts = p
		case impl.TmSign:
			parts = p[1:]
		case impl.TmSeal:
			if makes(all, p[0]) {
				parts = p[1:]
			}
		}
		for _, p := range parts {
			if !slices.Contains(all, p) {
				all, i = append(all, p), -1
			}
		}
	}
	slices.Sort(all)
	return slices.Compact(all)
}

func makes(all []string, t string) bool {
	if slices.Contains(all, t) || impl.KindOf(t) == impl.TmName {
		return true
	}
	for _, p := range impl.PartsOf(t) {
		if !makes(all, p) {
			return false
		}
	}
	return len(impl.PartsOf(t)) > 0
}

func expectApart(t *testing.T, known []string, want ...string) {
	t.Helper()
	got, ok := impl.TakeApart(known)
	if !ok {
		t.Errorf("TakeApart(%q) is false", known)
	}
	expect(t, fmt.Sprintf("apart %q", known), got, want...)
}

func names(n int) []string {
	var all []string
	for i := range n {
		all = append(all, fmt.Sprintf("a%02d", i))
	}
	return all
}

func TestTakeApart(t *testing.T) {
	expectApart(t, nil)
	expectApart(t, []string{"a"}, "a")
	expectApart(t, []string{"b", "!a", "b"}, "!a", "b")
	expectApart(t, []string{"(pair a (pair b c))"}, "(pair a (pair b c))", "(pair b c)", "a", "b", "c")
	expectApart(t, []string{"(hash !a b)"}, "(hash !a b)")
	expectApart(t, []string{"(pub !a)"}, "(pub !a)")
	expectApart(t, []string{"(sign !a (pair !b c))"}, "!b", "(pair !b c)", "(sign !a (pair !b c))", "c")
	expectApart(t, []string{"(seal !a b)"}, "(seal !a b)")
	expectApart(t, []string{"(seal !a !b)", "!a"}, "!a", "!b", "(seal !a !b)")
	expectApart(t, []string{"(seal k !b)"}, "!b", "(seal k !b)")
	expectApart(t, []string{"(seal (hash x y) !b)"}, "!b", "(seal (hash x y) !b)")
	expectApart(t, []string{"(seal (hash x !y) !b)"}, "(seal (hash x !y) !b)")
	expectApart(t, []string{"(seal (hash x !y) !b)", "(hash x !y)"}, "!b", "(hash x !y)", "(seal (hash x !y) !b)")
	expectApart(t, []string{"(seal (pub !y) !b)"}, "(seal (pub !y) !b)")
	expectApart(t, []string{"(seal (pub !y) !b)", "(pub !y)"}, "!b", "(pub !y)", "(seal (pub !y) !b)")
}

func TestKeysThatComeOutLater(t *testing.T) {
	for _, known := range [][]string{
		{"(seal !a !b)", "(seal !b !c)", "(seal !c d)", "!a"},
		{"!a", "(seal !c d)", "(seal !b !c)", "(seal !a !b)"},
		{"(seal !c d)", "!a", "(seal !a !b)", "(seal !b !c)"},
	} {
		expectApart(t, known, "!a", "!b", "!c", "(seal !a !b)", "(seal !b !c)", "(seal !c d)", "d")
	}
	expectApart(t, []string{"(seal !a !b)", "(seal !b !a)"}, "(seal !a !b)", "(seal !b !a)")
	expectApart(t, []string{"(seal !a !a)"}, "(seal !a !a)")
	expectApart(t, []string{"(seal (pair !a !b) c)", "(seal n1 !a)", "(sign !z (seal !a !b))"},
		"!a", "!b", "(seal !a !b)", "(seal (pair !a !b) c)", "(seal n1 !a)", "(sign !z (seal !a !b))", "c")
	// What comes out is the key as it stands, of which no part is known.
	expectApart(t, []string{"(seal (hash (hash !a) !b) c)", "(pair (hash !a) !b)"},
		"!b", "(hash !a)", "(pair (hash !a) !b)", "(seal (hash (hash !a) !b) c)", "c")
	expectApart(t, []string{"(seal (sign !k m) c)", "(seal d (sign !k m))"},
		"(seal (sign !k m) c)", "(seal d (sign !k m))", "(sign !k m)", "c", "m")
}

func TestLongChainOfSeals(t *testing.T) {
	const trees, seals = impl.MaxKnown - 1, 100
	key := func(i int) string { return fmt.Sprintf("!k%04d", i) }
	for _, step := range []int{1, trees*seals - 1, 2357} {
		var known []string
		for i := range trees {
			var part []string
			for j := range seals {
				at := (i*seals + j) * step % (trees * seals)
				part = append(part, "(seal "+key(at)+" "+key(at+1)+")")
			}
			known = append(known, treeOf(part))
		}
		known = append(known, key(0))
		all, ok := impl.TakeApart(known)
		if !ok || !slices.Contains(all, key(trees*seals)) {
			t.Error("the last secret did not come out", step, ok)
		}
	}
}

func TestTakeApartGoesAsFarAsItGoes(t *testing.T) {
	r := rand.New(rand.NewSource(4))
	for range 3000 {
		known := someTerms(r, 8)
		expectApart(t, known, slowly(known)...)
	}
}

func TestTakingApartOnceMoreGivesNothing(t *testing.T) {
	r := rand.New(rand.NewSource(5))
	for range 2000 {
		known := someTerms(r, 6)
		all, ok := impl.TakeApart(known)
		if !ok {
			t.Fatal(known)
		}
		if len(all) > impl.MaxKnown {
			continue
		}
		expectApart(t, all, all...)
	}
}

func TestKnownThatIsNotRight(t *testing.T) {
	full := names(impl.MaxKnown)
	expectApart(t, full, full...)
	if !impl.CanMake(full, "x") {
		t.Error("MaxKnown terms")
	}
	if _, code, at := impl.RunRecipe(full, nil); code != 0 || at != -1 {
		t.Error("recipe of MaxKnown terms", code, at)
	}
	same := slices.Repeat([]string{"a"}, impl.MaxKnown+1)
	for _, known := range [][]string{names(impl.MaxKnown + 1), same, {""}, {"a", "b c"}, {"(hash a", "a"}, {"a", termOf(impl.MaxTerm + 1)}, {nested(impl.MaxDeep+1, "a")}} {
		if all, ok := impl.TakeApart(known); ok || all != nil {
			t.Errorf("apart %.80q: %v", known, ok)
		}
		if impl.CanMake(known, "a") {
			t.Errorf("made with %.80q", known)
		}
		if terms, code, at := impl.RunRecipe(known, []impl.RStep{{Op: 99}}); terms != nil || code != impl.RcKnown || at != -1 {
			t.Errorf("recipe with %.80q: %d %d", known, code, at)
		}
	}
}

func TestCanMake(t *testing.T) {
	known := []string{"!k", "(hash !h)", "(pub !p)", "(sign !s !in)", "(seal !l !out)", "(pair !one (seal !one !two))"}
	for _, c := range []struct {
		t    string
		want bool
	}{
		{"x", true}, {"!k", true}, {"!in", true}, {"!one", true}, {"!two", true}, {"(hash !h)", true}, {"(pub !p)", true}, {"(sign !s !in)", true}, {"(seal !l !out)", true},
		{"(pub !k)", true}, {"(sign !k (hash !h))", true}, {"(sign !k (hash !k x))", true}, {"(pair !two (seal x !in))", true}, {"(hash (hash (hash !h)))", true},
		{"!h", false}, {"!p", false}, {"!s", false}, {"!l", false}, {"!out", false}, {"!never", false},
		{"(hash !h x)", false}, {"(hash x !h)", false}, {"(pub !s)", false}, {"(pub !never)", false}, {"(sign !s x)", false}, {"(sign !p x)", false}, {"(sign !k !out)", false}, {"(seal !l x)", false}, {"(seal x !l)", false}, {"(pair x !never)", false}, {"(sign !never x)", false},
		{"", false}, {"A", false}, {"(hash x", false}, {"(sign k x)", false}, {"x ", false}, {termOf(impl.MaxTerm + 1), false}, {nested(impl.MaxDeep+1, "x"), false},
		{termOf(impl.MaxTerm), true}, {nested(impl.MaxDeep, "x"), true},
	} {
		if got := impl.CanMake(known, c.t); got != c.want {
			t.Errorf("CanMake %.80q: %v", c.t, got)
		}
	}
	if !impl.CanMake(nil, "x") || impl.CanMake(nil, "!x") || impl.CanMake(nil, "(pub !x)") || !impl.CanMake(nil, "(hash x)") {
		t.Error("of nothing")
	}
}

func TestWhatCanBeMade(t *testing.T) {
	r := rand.New(rand.NewSource(6))
	for range 2000 {
		known := someTerms(r, 6)
		apart := slowly(known)
		for _, s := range apart {
			if !impl.CanMake(known, s) {
				t.Errorf("known, and not made: %q of %q", s, known)
			}
		}
		for range 5 {
			s := someTerm(r, 3)
			if got := impl.CanMake(known, s); got != makes(apart, s) {
				t.Errorf("CanMake(%q, %q): %v", known, s, got)
			}
		}
	}
}

func TestASecretThatStandsInNothingKnownIsNotMade(t *testing.T) {
	r := rand.New(rand.NewSource(7))
	for range 2000 {
		known := someTerms(r, 6)
		for _, s := range []string{"!a", "!b", "!c", "!d", "!e", "!never"} {
			if slices.ContainsFunc(known, func(k string) bool { return impl.Stands(k, s) }) {
				continue
			}
			if impl.CanMake(known, s) || impl.CanMake(known, "(sign "+s+" x)") || impl.CanMake(known, "(pub "+s+")") {
				t.Errorf("%q of %q", s, known)
			}
		}
	}
}

func expectCode(t *testing.T, known []string, recipe []impl.RStep, code int64, at int64) {
	t.Helper()
	terms, c, a := impl.RunRecipe(known, recipe)
	if terms != nil || c != code || a != at {
		t.Errorf("%v: got %q %d %d, want %d %d", recipe, terms, c, a, code, at)
	}
}

func args(places ...int64) []int64 { return places }

func TestRunRecipe(t *testing.T) {
	known := []string{"!k", "(seal (hash x) (pair y !z))"}
	recipe := []impl.RStep{
		{Op: impl.RcName, Name: "x"},
		{Op: impl.RcHash, Args: args(2)},
		{Op: impl.RcOpen, Args: args(1, 3)},
		{Op: impl.RcFirst, Args: args(4)},
		{Op: impl.RcSecond, Args: args(4)},
		{Op: impl.RcSign, Args: args(6, 5)},
		{Op: impl.RcRead, Args: args(7)},
		{Op: impl.RcPub, Args: args(0)},
		{Op: impl.RcSeal, Args: args(9, 0)},
		{Op: impl.RcPair, Args: args(2, 2)},
		{Op: impl.RcHash, Args: args(0, 2, 0, 2, 0, 2, 0, 2)},
		{Op: impl.RcName, Name: "abcdefghijkl", Args: []int64{}},
	}
	terms, code, at := impl.RunRecipe(known, recipe)
	if code != 0 || at != -1 {
		t.Error(code, at)
	}
	expect(t, "recipe", terms, "x", "(hash x)", "(pair y !z)", "y", "!z", "(sign !z y)", "y", "(pub !k)", "(seal (pub !k) !k)", "(pair x x)", "(hash !k x !k x !k x !k x)", "abcdefghijkl")
	terms, code, at = impl.RunRecipe(known, nil)
	if len(terms) != 0 || code != 0 || at != -1 {
		t.Error("no steps", terms, code, at)
	}
}

func TestRecipeNumbers(t *testing.T) {
	ops := []int64{impl.RcName, impl.RcPair, impl.RcHash, impl.RcSign, impl.RcPub, impl.RcSeal, impl.RcFirst, impl.RcSecond, impl.RcRead, impl.RcOpen}
	codes := []int64{impl.RcKnown, impl.RcOp, impl.RcArg, impl.RcTerm, impl.RcKey}
	if !slices.Equal(ops, []int64{1, 2, 3, 4, 5, 6, 7, 8, 9, 10}) || !slices.Equal(codes, []int64{1, 2, 3, 4, 5}) || impl.MaxKnown != 60 || impl.MaxRecipe != 60 {
		t.Error(ops, codes)
	}
}

func TestRecipeLength(t *testing.T) {
	recipe := slices.Repeat([]impl.RStep{{Op: impl.RcName, Name: "x"}}, impl.MaxRecipe)
	if terms, code, at := impl.RunRecipe(names(impl.MaxKnown), recipe); len(terms) != impl.MaxRecipe || code != 0 || at != -1 {
		t.Error(len(terms), code, at)
	}
	expectCode(t, nil, append(recipe, impl.RStep{Op: impl.RcName, Name: "x"}), impl.RcKnown, -1)
}

func TestRecipeOps(t *testing.T) {
	known := []string{"!a", "(pair a b)", "(sign !a b)", "(seal a b)"}
	for _, op := range []int64{0, -1, 11, math.MinInt64, math.MaxInt64} {
		expectCode(t, known, []impl.RStep{{Op: op}}, impl.RcOp, 0)
		expectCode(t, known, []impl.RStep{{Op: op, Args: args(0)}}, impl.RcOp, 0)
	}
	for op, takes := range map[int64][]int{impl.RcName: {0}, impl.RcPair: {2}, impl.RcHash: {1, 2, 3, 4, 5, 6, 7, 8}, impl.RcSign: {2}, impl.RcPub: {1}, impl.RcSeal: {2}, impl.RcFirst: {1}, impl.RcSecond: {1}, impl.RcRead: {1}, impl.RcOpen: {2}} {
		for n := range 12 {
			step := impl.RStep{Op: op, Args: make([]int64, n)}
			if op == impl.RcName {
				step.Name = "x"
			}
			if _, code, at := impl.RunRecipe(known, []impl.RStep{step}); (code == impl.RcOp) == slices.Contains(takes, n) || at == 0 && code == 0 {
				t.Error("op", op, "with", n, "args:", code, at)
			}
			if step.Name = "x"; op != impl.RcName {
				expectCode(t, known, []impl.RStep{step}, impl.RcOp, 0)
			}
		}
	}
}

func TestRecipeCodes(t *testing.T) {
	known := []string{"!a", "(pair a b)", "(sign !a b)", "(seal a b)", "a", termOf(impl.MaxTerm - 7), nested(impl.MaxDeep, "a")}
	last := int64(len(known)) - 1
	for _, c := range []struct {
		step impl.RStep
		code int64
	}{
		{impl.RStep{Op: impl.RcHash, Args: args(last + 1)}, impl.RcArg},
		{impl.RStep{Op: impl.RcHash, Args: args(-1)}, impl.RcArg},
		{impl.RStep{Op: impl.RcHash, Args: args(0, 0, math.MaxInt64)}, impl.RcArg},
		{impl.RStep{Op: impl.RcHash, Args: args(0, math.MinInt64)}, impl.RcArg},
		{impl.RStep{Op: impl.RcOpen, Args: args(0, last+1)}, impl.RcArg},
		{impl.RStep{Op: impl.RcName}, impl.RcTerm},
		{impl.RStep{Op: impl.RcName, Name: "!a"}, impl.RcTerm},
		{impl.RStep{Op: impl.RcName, Name: "(hash a)"}, impl.RcTerm},
		{impl.RStep{Op: impl.RcName, Name: "abcdefghijklm"}, impl.RcTerm},
		{impl.RStep{Op: impl.RcName, Name: "1"}, impl.RcTerm},
		{impl.RStep{Op: impl.RcSign, Args: args(4, 0)}, impl.RcTerm},
		{impl.RStep{Op: impl.RcPub, Args: args(4)}, impl.RcTerm},
		{impl.RStep{Op: impl.RcHash, Args: args(5, 4)}, impl.RcTerm},
		{impl.RStep{Op: impl.RcHash, Args: args(6)}, impl.RcTerm},
		{impl.RStep{Op: impl.RcFirst, Args: args(2)}, impl.RcTerm},
		{impl.RStep{Op: impl.RcFirst, Args: args(4)}, impl.RcTerm},
		{impl.RStep{Op: impl.RcSecond, Args: args(3)}, impl.RcTerm},
		{impl.RStep{Op: impl.RcRead, Args: args(1)}, impl.RcTerm},
		{impl.RStep{Op: impl.RcOpen, Args: args(1, 4)}, impl.RcTerm},
		{impl.RStep{Op: impl.RcOpen, Args: args(2, 0)}, impl.RcTerm},
		{impl.RStep{Op: impl.RcOpen, Args: args(4, 4)}, impl.RcTerm},
		{impl.RStep{Op: impl.RcOpen, Args: args(3, 0)}, impl.RcKey},
		{impl.RStep{Op: impl.RcOpen, Args: args(3, 3)}, impl.RcKey},
	} {
		expectCode(t, known, []impl.RStep{c.step}, c.code, 0)
		if c.code != impl.RcArg {
			expectCode(t, known, []impl.RStep{{Op: impl.RcHash, Args: args(0)}, {Op: impl.RcRead, Args: args(2)}, c.step, {Op: 99}}, c.code, 2)
		}
	}
	if terms, code, _ := impl.RunRecipe(known, []impl.RStep{{Op: impl.RcOpen, Args: args(3, 4)}, {Op: impl.RcPub, Args: args(0)}}); code != 0 || terms[0] != "b" {
		t.Error(terms, code)
	}
}

func TestOrderOfRecipeCodes(t *testing.T) {
	known := []string{"!a", "(seal a b)"}
	wrong := impl.RStep{Op: 11}
	expectCode(t, []string{"A"}, []impl.RStep{wrong}, impl.RcKnown, -1)
	expectCode(t, known, slices.Repeat([]impl.RStep{wrong}, impl.MaxRecipe+1), impl.RcKnown, -1)
	// The first step that is wrong, whatever the code of a later one.
	expectCode(t, known, []impl.RStep{{Op: impl.RcOpen, Args: args(1, 0)}, wrong}, impl.RcKey, 0)
	expectCode(t, known, []impl.RStep{{Op: impl.RcPub, Args: args(1)}, {Op: impl.RcPub, Args: args(9)}}, impl.RcTerm, 0)
	expectCode(t, known, []impl.RStep{{Op: impl.RcPub, Args: args(0)}, wrong}, impl.RcOp, 1)
	// In one step: the op, then the places, then the terms, then the key.
	expectCode(t, known, []impl.RStep{{Op: 11, Args: args(9)}}, impl.RcOp, 0)
	expectCode(t, known, []impl.RStep{{Op: impl.RcPub, Args: args(9, 9)}}, impl.RcOp, 0)
	expectCode(t, known, []impl.RStep{{Op: impl.RcPub, Args: args(9), Name: "x"}}, impl.RcOp, 0)
	expectCode(t, known, []impl.RStep{{Op: impl.RcName, Args: args(9), Name: "A"}}, impl.RcOp, 0)
	expectCode(t, known, []impl.RStep{{Op: impl.RcSign, Args: args(1, 9)}}, impl.RcArg, 0)
	expectCode(t, known, []impl.RStep{{Op: impl.RcOpen, Args: args(0, 9)}}, impl.RcArg, 0)
	// A step's own place, and those of steps behind it, are none yet.
	expectCode(t, known, []impl.RStep{{Op: impl.RcHash, Args: args(2)}}, impl.RcArg, 0)
	expectCode(t, known, []impl.RStep{{Op: impl.RcHash, Args: args(0)}, {Op: impl.RcHash, Args: args(3)}}, impl.RcArg, 1)
}

func TestRecipeLimitsOfTerms(t *testing.T) {
	deep := []impl.RStep{{Op: impl.RcName, Name: "a"}}
	for i := range int64(impl.MaxDeep) {
		deep = append(deep, impl.RStep{Op: impl.RcHash, Args: args(i)})
	}
	if terms, code, _ := impl.RunRecipe(nil, deep); code != 0 || terms[impl.MaxDeep] != nested(impl.MaxDeep, "a") {
		t.Error(code)
	}
	expectCode(t, nil, append(deep, impl.RStep{Op: impl.RcHash, Args: args(impl.MaxDeep)}), impl.RcTerm, impl.MaxDeep+1)
	half := (impl.MaxTerm - len("(pair  )")) / 2
	known := []string{termOf(half), termOf(half + 1)}
	if terms, code, _ := impl.RunRecipe(known, []impl.RStep{{Op: impl.RcPair, Args: args(0, 0)}}); code != 0 || len(terms[0]) != impl.MaxTerm {
		t.Error(code)
	}
	expectCode(t, known, []impl.RStep{{Op: impl.RcPair, Args: args(0, 1)}}, impl.RcTerm, 0)
}

func someStep(r *rand.Rand, there int) impl.RStep {
	step := impl.RStep{Op: int64(1 + r.Intn(10))}
	switch step.Op {
	case impl.RcName:
		step.Name = pick(r, "x", "y", "n1")
		return step
	case impl.RcHash, impl.RcPub, impl.RcFirst, impl.RcSecond, impl.RcRead:
		step.Args = make([]int64, 1)
	default:
		step.Args = make([]int64, 2)
	}
	for i := range step.Args {
		step.Args[i] = int64(r.Intn(there + 1))
	}
	return step
}

func TestWhatARecipeMakesCanBeMade(t *testing.T) {
	r := rand.New(rand.NewSource(8))
	long := 0
	for range 500 {
		known := someTerms(r, 8)
		var recipe []impl.RStep
		for range 40 {
			more := append(slices.Clone(recipe), someStep(r, len(known)+len(recipe)))
			terms, code, at := impl.RunRecipe(known, more)
			if code != 0 {
				expectCode(t, known, more, code, int64(len(recipe)))
				continue
			}
			if recipe = more; len(terms) != len(recipe) || at != -1 {
				t.Fatal(terms, at)
			}
			if made := terms[len(terms)-1]; !impl.CanMake(known, made) {
				t.Errorf("%q made of %q by %v", made, known, recipe)
			}
		}
		if len(recipe) >= 5 {
			long++
		}
	}
	if long < 100 {
		t.Error("too few long recipes:", long)
	}
}

func TestVeryLongTexts(t *testing.T) {
	long := strings.Repeat("(pair a ", 100000)
	if impl.CanMake([]string{"a"}, long) {
		t.Error("made")
	}
	expectCode(t, nil, []impl.RStep{{Op: impl.RcName, Name: long}}, impl.RcTerm, 0)
	expectCode(t, nil, []impl.RStep{{Op: impl.RcHash, Args: make([]int64, 100000)}}, impl.RcOp, 0)
}
