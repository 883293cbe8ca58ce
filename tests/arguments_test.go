package tests

import (
	"math/rand"
	"slices"
	"testing"

	"loop.example/g00082/impl"
)

func sameSteps(a []impl.RStep, b []impl.RStep) bool {
	return slices.EqualFunc(a, b, func(x impl.RStep, y impl.RStep) bool {
		return x.Op == y.Op && x.Name == y.Name && slices.Equal(x.Args, y.Args)
	})
}

// scribble writes over an answer, to see whether that reaches an argument or a later answer.
func scribble(answer []string) {
	for i := range answer {
		answer[i] = "scribbled"
	}
	for i := range answer[len(answer):cap(answer)] {
		answer[:cap(answer)][len(answer)+i] = "scribbled"
	}
}

func TestTermArgumentsStay(t *testing.T) {
	parts := roomy([]string{"!k", "(hash !b a !b)"}, "mark")
	whole := parts[:cap(parts)]
	before := slices.Clone(whole)
	for range 2 {
		s, ok := impl.Make(impl.TmSign, parts)
		if !ok || s != "(sign !k (hash !b a !b))" {
			t.Error(s, ok)
		}
		got := impl.PartsOf(s)
		expect(t, "parts", got, parts...)
		secrets := impl.SecretsOf(s)
		expect(t, "secrets", secrets, "!b", "!k")
		scribble(got)
		scribble(secrets)
		expect(t, "argument", whole, before...)
	}
}

func TestKnowledgeArgumentsStay(t *testing.T) {
	r := rand.New(rand.NewSource(9))
	for range 300 {
		known := roomy(someTerms(r, 8), "mark")
		whole := known[:cap(known)]
		before := slices.Clone(whole)
		first, _ := impl.TakeApart(known)
		want := slices.Clone(first)
		can := impl.CanMake(known, "(hash !a !b)")
		scribble(first)
		second, ok := impl.TakeApart(known)
		expect(t, "apart again", second, want...)
		if !ok || impl.CanMake(known, "(hash !a !b)") != can {
			t.Error("another answer", known)
		}
		expect(t, "argument", whole, before...)
	}
}

func TestRecipeArgumentsStay(t *testing.T) {
	known := roomy([]string{"!k", "(pair a !b)"}, "mark")
	whole := known[:cap(known)]
	before := slices.Clone(whole)
	recipe := func() []impl.RStep {
		return roomy([]impl.RStep{{Op: impl.RcName, Name: "x"}, {Op: impl.RcSecond, Args: roomy(args(1), 77)}, {Op: impl.RcPair, Args: roomy(args(2, 3), 77)}, {Op: impl.RcPub, Args: roomy(args(0), 77)}}, impl.RStep{Name: "mark"})
	}
	given := recipe()
	for range 2 {
		terms, code, at := impl.RunRecipe(known, given)
		if code != 0 || at != -1 {
			t.Error(code, at)
		}
		expect(t, "recipe", terms, "x", "!b", "(pair x !b)", "(pub !k)")
		scribble(terms)
		expect(t, "known", whole, before...)
		if !sameSteps(given[:cap(given)], recipe()[:cap(given)]) {
			t.Error("steps", given)
		}
		for i, s := range given {
			if !slices.Equal(s.Args[:cap(s.Args)], recipe()[i].Args[:cap(s.Args)]) {
				t.Error("args", s.Args[:cap(s.Args)])
			}
		}
	}
}
