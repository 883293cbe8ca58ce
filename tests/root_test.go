package tests

import (
	"math"
	"math/rand"
	"slices"
	"testing"

	"loop.example/g00082/impl"
)

// resetWrites is how many writes a reset has: check, number, count, check.
const resetWrites = 4

func sameRoot(a impl.Root, b impl.Root) bool {
	return a.Key == b.Key && a.Up == b.Up && sameNv(a.Boots, b.Boots) && slices.Equal(a.Regs, b.Regs)
}

func newRoot(t *testing.T, key string) impl.Root {
	t.Helper()
	r, ok := impl.RootNew(key)
	if !ok {
		t.Fatal("no Root of", key)
	}
	return r
}

func noNv() []int64 { return make([]int64, 3) }

// downRoot has counted so many boots with so many changes.
func downRoot(number int64, count int64) impl.Root {
	return impl.Root{Key: "!k", Boots: twoCopies(copyWords(count, 0, number), noNv())}
}

func upRoot(number int64, regs []string) impl.Root {
	r := downRoot(number, 1)
	r.Up, r.Regs = true, regs
	return r
}

// wrongRoots are not right, in all the ways that the document has.
func wrongRoots() []impl.Root {
	wrong := []impl.Root{{}}
	for _, key := range []string{"", "k", "!", "!!k", "!K", "! k", "(pub !k)", "(hash !k)", "!abcdefghijklm", "!k !k"} {
		down, up := downRoot(3, 1), upRoot(3, namedRegisters())
		down.Key, up.Key = key, key
		wrong = append(wrong, down, up)
	}
	for _, boots := range []impl.Nv{
		{},
		{Words: []int64{1, 1, 1, 1}},
		twoCopies(copyWords(1, 0, 3, 4), copyWords(2, 0, 3, 4)),
		{Size: 1, Words: copyWords(1, 0, 3)},
		{Size: 1, Words: slices.Concat(copyWords(1, 0, 3), copyWords(2, 0, 4), []int64{0})},
		{Size: 1, Words: slices.Concat(copyWords(1, 0, 3), []int64{0, -1, 0})},
		twoCopies(noNv(), noNv()),
		twoCopies(copyWords(1, 1, 3), copyWords(2, 1, 4)),
		twoCopies(copyWords(0, 0, 3), noNv()),
	} {
		wrong = append(wrong, impl.Root{Key: "!k", Boots: boots}, impl.Root{Key: "!k", Boots: boots, Up: true, Regs: namedRegisters()})
	}
	for _, regs := range wrongRegisters() {
		wrong = append(wrong, upRoot(3, regs))
	}
	for _, regs := range [][]string{namedRegisters(), impl.Cleared(), {"a"}, {""}, namedRegisters()[:7]} {
		r := downRoot(3, 1)
		r.Regs = regs
		wrong = append(wrong, r)
	}
	return wrong
}

func TestWrongRoots(t *testing.T) {
	for _, r := range wrongRoots() {
		if impl.RootOk(r) {
			t.Error("right", r)
		}
		if n := impl.BootsOf(r); n != -1 {
			t.Error("boots", r, n)
		}
		for _, cut := range []int64{-1, 0, 3, 4, math.MaxInt64} {
			if got, ok := impl.PowerOn(r, cut); ok || !sameRoot(got, impl.Root{}) {
				t.Error("on", r, cut, got)
			}
		}
		if got := impl.PowerOff(r); !sameRoot(got, impl.Root{}) {
			t.Error("off", r, got)
		}
		if got, ok := impl.RootExtend(r, 0, "a"); ok || !sameRoot(got, impl.Root{}) {
			t.Error("extend", r, got)
		}
		for _, mask := range []int64{1, 127, 255} {
			if got, ok := impl.Quote(r, "a", mask); ok || got != "" {
				t.Error("quote", r, got)
			}
		}
	}
}

func TestRightRoots(t *testing.T) {
	for what, c := range map[string]struct {
		root  impl.Root
		boots int64
	}{
		"new":             {downRoot(0, 1), 0},
		"empty registers": {impl.Root{Key: "!k", Boots: downRoot(5, 2).Boots, Regs: []string{}}, 5},
		"up":              {upRoot(7, namedRegisters()), 7},
		"longest key":     {impl.Root{Key: "!abcdefghijkl", Boots: downRoot(8, 1).Boots}, 8},
		"second copy":     {impl.Root{Key: "!k", Boots: twoCopies(copyWords(4, 0, 3), copyWords(5, 0, 2))}, 2},
		"second alone":    {impl.Root{Key: "!k", Boots: twoCopies(copyWords(9, 1, 3), copyWords(5, 0, 4))}, 4},
		"equal counts":    {impl.Root{Key: "!k", Boots: twoCopies(copyWords(5, 0, 3), copyWords(5, 0, 9))}, 3},
		"greatest":        {downRoot(impl.MaxNumber, impl.MaxNumber), impl.MaxNumber},
	} {
		if n := impl.BootsOf(c.root); n != c.boots || !impl.RootOk(c.root) {
			t.Error(what, n)
		}
	}
}

func TestRootNew(t *testing.T) {
	for _, key := range []string{"!k", "!abcdefghijkl", "!z9"} {
		want := impl.Root{Key: key, Boots: twoCopies(copyWords(1, 0, 0), noNv())}
		if r := newRoot(t, key); !sameRoot(r, want) || !impl.RootOk(r) || impl.BootsOf(r) != 0 {
			t.Error(r, want)
		}
	}
	for _, key := range []string{"", "k", "!", "!!k", "!K", "(pub !k)", "(hash a)", "n0", "!abcdefghijklm", " !k", "!k "} {
		if r, ok := impl.RootNew(key); ok || !sameRoot(r, impl.Root{}) {
			t.Error("no secret", key, r)
		}
	}
}

// resetOf is what a reset of a Root with such copies has to be.
func resetOf(r impl.Root, other int64, number int64, count int64, cut int64) impl.Root {
	next := impl.Root{Key: r.Key, Boots: impl.Nv{Size: 1, Words: slices.Clone(r.Boots.Words)}}
	for i, w := range changeOf(other, count+1, number+1) {
		if int64(i) < cut {
			next.Boots.Words[w.At] = w.Value
		}
	}
	if cut >= resetWrites {
		next.Up, next.Regs = true, impl.Cleared()
	}
	return next
}

var cuts = []int64{0, 1, 2, 3, 4, 5, 100, math.MaxInt64}

func TestPowerOn(t *testing.T) {
	for _, c := range []struct {
		boots                impl.Nv
		other, number, count int64
	}{
		{twoCopies(copyWords(1, 0, 0), noNv()), 3, 0, 1},
		{twoCopies(copyWords(2, 0, 8), copyWords(1, 0, 7)), 3, 8, 2},
		{twoCopies(copyWords(2, 0, 8), copyWords(3, 0, 9)), 0, 9, 3},
		{twoCopies(copyWords(6, 0, 8), copyWords(6, 0, 9)), 3, 8, 6},
		{twoCopies(copyWords(9, 1, 8), copyWords(4, 0, 5)), 0, 5, 4},
		{twoCopies(copyWords(4, 0, 5), copyWords(5, 1, 6)), 3, 5, 4},
		{twoCopies(copyWords(3, 0, impl.MaxNumber-1), noNv()), 3, impl.MaxNumber - 1, 3},
		{twoCopies(noNv(), copyWords(impl.MaxNumber-1, 0, 2)), 0, 2, impl.MaxNumber - 1},
		// A copy that does not stand may have any number.
		{twoCopies(copyWords(3, 0, 4), copyWords(impl.MaxNumber, 1, impl.MaxNumber)), 3, 4, 3},
		{twoCopies(copyWords(3, 0, 4), copyWords(2, 0, impl.MaxNumber)), 3, 4, 3},
	} {
		for _, up := range []bool{false, true} {
			r := impl.Root{Key: "!k", Boots: c.boots}
			if up {
				r.Up, r.Regs = true, namedRegisters()
			}
			for _, cut := range cuts {
				want := resetOf(r, c.other, c.number, c.count, cut)
				got, ok := impl.PowerOn(r, cut)
				if !ok || !sameRoot(got, want) || !impl.RootOk(got) {
					t.Error("reset", r, cut, got, want)
				}
				number := c.number
				if cut >= resetWrites {
					number++
				}
				if n := impl.BootsOf(got); n != number {
					t.Error("boots", r, cut, n, number)
				}
			}
		}
	}
}

func TestPowerOnThatCannotBe(t *testing.T) {
	for what, r := range map[string]impl.Root{
		"the greatest number":            downRoot(impl.MaxNumber, 1),
		"the greatest count":             downRoot(3, impl.MaxNumber),
		"both":                           downRoot(impl.MaxNumber, impl.MaxNumber),
		"the greatest number, second":    {Key: "!k", Boots: twoCopies(copyWords(1, 0, 3), copyWords(2, 0, impl.MaxNumber))},
		"the greatest count, both":       {Key: "!k", Boots: twoCopies(copyWords(impl.MaxNumber, 0, 3), copyWords(impl.MaxNumber, 0, 4))},
		"the greatest number, and it up": upRoot(impl.MaxNumber, namedRegisters()),
	} {
		for _, cut := range cuts {
			if got, ok := impl.PowerOn(r, cut); ok || !sameRoot(got, impl.Root{}) {
				t.Error(what, cut, got)
			}
		}
		if !impl.RootOk(r) || impl.BootsOf(r) < 3 {
			t.Error("it is right", what)
		}
	}
	for _, cut := range []int64{-1, -2, math.MinInt64} {
		for _, r := range []impl.Root{downRoot(3, 1), upRoot(3, namedRegisters())} {
			if got, ok := impl.PowerOn(r, cut); ok || !sameRoot(got, impl.Root{}) {
				t.Error("cut below 0", cut, got)
			}
		}
	}
}

func TestPowerOnToTheEnd(t *testing.T) {
	for _, r := range []impl.Root{downRoot(impl.MaxNumber-2, 1), downRoot(1, impl.MaxNumber-2)} {
		from := impl.BootsOf(r)
		for n := from + 1; n <= from+2; n++ {
			next, ok := impl.PowerOn(r, resetWrites)
			if !ok || !next.Up || impl.BootsOf(next) != n {
				t.Error("one more", r, next)
			}
			r = next
		}
		if _, ok := impl.PowerOn(r, resetWrites); ok {
			t.Error("beyond the end", r)
		}
		if off := impl.PowerOff(r); impl.BootsOf(off) != from+2 {
			t.Error("off", off)
		}
	}
}

// Promise 5: each reset that is done counts more boots than any one ahead of it, whatever was cut between.
func TestBootsRise(t *testing.T) {
	r := rand.New(rand.NewSource(11))
	for range 300 {
		root, boots := newRoot(t, "!k"), int64(0)
		for range 60 {
			cut := r.Int63n(resetWrites + 2)
			next, ok := impl.PowerOn(root, cut)
			if !ok {
				t.Fatal("no reset", root, cut)
			}
			if cut >= resetWrites {
				boots++
			}
			if next.Up != (cut >= resetWrites) || impl.BootsOf(next) != boots || !impl.RootOk(next) {
				t.Fatal("reset", root, cut, next, boots)
			}
			root = next
			switch r.Intn(4) {
			case 0:
				root = impl.PowerOff(root)
			case 1:
				if extended, ok := impl.RootExtend(root, r.Int63n(8), "m"); ok {
					root = extended
				}
			}
			if impl.BootsOf(root) != boots {
				t.Fatal("boots without a reset", root, boots)
			}
		}
	}
}

func TestCutAgainAndAgainBetweenResets(t *testing.T) {
	root := newRoot(t, "!k")
	for boots := int64(1); boots <= 8; boots++ {
		for _, list := range [][]int64{{0}, {1}, {2}, {3}, {3, 2, 1, 0}, {0, 3, 0, 3}, {1, 1, 1}} {
			for _, cut := range list {
				next, ok := impl.PowerOn(root, cut)
				if !ok || next.Up || len(next.Regs) != 0 || impl.BootsOf(next) != boots-1 {
					t.Fatal("cut", cut, next, ok)
				}
				root = next
			}
		}
		next, ok := impl.PowerOn(root, resetWrites)
		if !ok || !next.Up || impl.BootsOf(next) != boots {
			t.Fatal("done", next, ok)
		}
		expect(t, "cleared", next.Regs, impl.Cleared()...)
		root = next
	}
}

func TestPowerOff(t *testing.T) {
	for _, r := range []impl.Root{upRoot(3, namedRegisters()), downRoot(3, 1), {Key: "!k", Boots: twoCopies(copyWords(4, 0, 3), copyWords(5, 0, 3))}} {
		off := impl.PowerOff(r)
		if !sameRoot(off, impl.Root{Key: "!k", Boots: r.Boots}) || !impl.RootOk(off) {
			t.Error("off", off)
		}
		if again := impl.PowerOff(off); !sameRoot(again, off) {
			t.Error("off again", again)
		}
	}
}

func TestRootExtend(t *testing.T) {
	for at := range int64(8) {
		r := upRoot(3, namedRegisters())
		got, ok := impl.RootExtend(r, at, "(hash a !b)")
		want := upRoot(3, withRegister(int(at), "(hash "+namedRegisters()[at]+" (hash a !b))"))
		if !ok || !sameRoot(got, want) || !impl.RootOk(got) {
			t.Error("extended", at, got, want)
		}
	}
	full := upRoot(3, withRegister(2, nested(impl.MaxDeep, "a")))
	for _, c := range []struct {
		root    impl.Root
		at      int64
		measure string
	}{
		{upRoot(3, namedRegisters()), -1, "a"}, {upRoot(3, namedRegisters()), 8, "a"}, {upRoot(3, namedRegisters()), math.MinInt64, "a"}, {upRoot(3, namedRegisters()), math.MaxInt64, "a"},
		{upRoot(3, namedRegisters()), 0, ""}, {upRoot(3, namedRegisters()), 0, "A"}, {upRoot(3, namedRegisters()), 7, "a b"}, {upRoot(3, namedRegisters()), 7, termOf(impl.MaxTerm)},
		{full, 2, "a"}, {downRoot(3, 1), 0, "a"}, {impl.PowerOff(upRoot(3, namedRegisters())), 0, "a"},
	} {
		if got, ok := impl.RootExtend(c.root, c.at, c.measure); ok || !sameRoot(got, impl.Root{}) {
			t.Error("extended", c.root, c.at, c.measure, got)
		}
	}
	if _, ok := impl.RootExtend(full, 3, "a"); !ok {
		t.Error("its neighbour has room")
	}
}

func TestExtendedAsItIsFolded(t *testing.T) {
	r := rand.New(rand.NewSource(12))
	for range 200 {
		root, _ := impl.PowerOn(newRoot(t, "!k"), resetWrites)
		var events []impl.Event
		for range r.Intn(20) {
			e := impl.Event{Register: r.Int63n(8), Measure: someTerm(r, 2)}
			next, ok := impl.RootExtend(root, e.Register, e.Measure)
			if !ok {
				continue
			}
			root, events = next, append(events, e)
		}
		regs, _ := impl.Fold(events)
		expect(t, "folded", root.Regs, regs...)
	}
}

func expectQuoteBy(t *testing.T, what string, key string, boots int64, nonce string, composite string, there bool) {
	t.Helper()
	got, ok := impl.QuoteBy(key, boots, nonce, composite)
	want := ""
	if there {
		want = "(sign " + key + " (hash quote " + nameOf(boots) + " " + nonce + " " + composite + "))"
	}
	if ok != there || got != want {
		t.Errorf("%s: got %.200q %v, want %.200q", what, got, ok, want)
	}
}

func TestQuoteBy(t *testing.T) {
	for _, boots := range []int64{0, 1, 12, impl.MaxNumber - 1, impl.MaxNumber} {
		expectQuoteBy(t, "boots", "!k", boots, "x", "c", true)
	}
	for _, boots := range []int64{-1, impl.MaxNumber + 1, math.MinInt64, math.MaxInt64} {
		expectQuoteBy(t, "no boots", "!k", boots, "x", "c", false)
	}
	for _, term := range []string{"x", "!s", "(hash !v n3)", "(pair a b)", "quote", "(sign !k (hash quote n1 a b))"} {
		expectQuoteBy(t, "any nonce", "!k", 3, term, "c", true)
		expectQuoteBy(t, "any composite", "!k", 3, "x", term, true)
	}
	for _, wrong := range []string{"", "A", "a b", "(hash", "x) (hash y", "x c", nested(impl.MaxDeep+1, "a"), termOf(impl.MaxTerm + 1)} {
		expectQuoteBy(t, "no nonce", "!k", 3, wrong, "c", false)
		expectQuoteBy(t, "no composite", "!k", 3, "x", wrong, false)
	}
	for _, key := range []string{"", "k", "!", "!!k", "(pub !k)", "(hash !k)", "!abcdefghijklm", "!k x"} {
		expectQuoteBy(t, "no secret", key, 3, "x", "c", false)
	}
	expectQuoteBy(t, "longest key", "!abcdefghijkl", 3, "x", "c", true)
}

func TestQuoteByToTheLimits(t *testing.T) {
	room := impl.MaxTerm - len("(sign !k (hash quote n3 x ))")
	expectQuoteBy(t, "bytes", "!k", 3, "x", termOf(room), true)
	expectQuoteBy(t, "bytes of the nonce", "!k", 3, termOf(room), "x", true)
	// Here what is signed is a term yet, and the sign around it is none.
	for over := 1; over <= len("(sign !k )"); over++ {
		expectQuoteBy(t, "bytes too many", "!k", 3, "x", termOf(room+over), false)
		expectQuoteBy(t, "bytes too many", "!k", 3, termOf(room+over), "x", false)
	}
	expectQuoteBy(t, "a byte of the number", "!k", 10, "x", termOf(room), false)
	expectQuoteBy(t, "a byte of the key", "!kk", 3, "x", termOf(room), false)
	for _, deep := range []int{impl.MaxDeep - 2, impl.MaxDeep - 1, impl.MaxDeep} {
		there := deep == impl.MaxDeep-2
		expectQuoteBy(t, "brackets of the nonce", "!k", 3, nested(deep, "a"), "x", there)
		expectQuoteBy(t, "brackets of the composite", "!k", 3, "x", nested(deep, "a"), there)
	}
}

// Promise 5: a quote tells its boots, nonce and composite.
func TestQuote(t *testing.T) {
	regs := namedRegisters()
	regs[4] = "(hash r4 !k)"
	for _, boots := range []int64{0, 1, 77, impl.MaxNumber} {
		for mask := int64(1); mask <= 255; mask++ {
			composite, _ := impl.Composite(regs, mask)
			want := "(sign !k (hash quote " + nameOf(boots) + " (pair x n5) " + composite + "))"
			if got, ok := impl.Quote(upRoot(boots, regs), "(pair x n5)", mask); !ok || got != want {
				t.Error("quote", boots, mask, got, want)
			}
		}
		told, _ := impl.Quote(upRoot(boots, regs), "x", 5)
		expect(t, "signed", impl.PartsOf(told), "!k", "(hash quote "+nameOf(boots)+" x (hash n5 r0 r2))")
	}
	second := impl.Root{Key: "!kk", Boots: twoCopies(copyWords(1, 0, 3), copyWords(2, 0, 9)), Up: true, Regs: regs}
	if got, ok := impl.Quote(second, "x", 128); !ok || got != "(sign !kk (hash quote n9 x (hash n128 r7)))" {
		t.Error("the second copy stands", got, ok)
	}
}

func TestQuoteThatIsNone(t *testing.T) {
	up := upRoot(3, namedRegisters())
	for what, c := range map[string]struct {
		root  impl.Root
		nonce string
		mask  int64
	}{
		"not up":         {downRoot(3, 1), "x", 1},
		"switched off":   {impl.PowerOff(up), "x", 1},
		"mask 0":         {up, "x", 0},
		"mask 256":       {up, "x", 256},
		"mask below 0":   {up, "x", -1},
		"greatest mask":  {up, "x", math.MaxInt64},
		"least mask":     {up, "x", math.MinInt64},
		"no nonce":       {up, "", 1},
		"two nonces":     {up, "a b", 1},
		"deep nonce":     {up, nested(impl.MaxDeep-1, "a"), 1},
		"no composite":   {upRoot(3, withRegister(0, nested(impl.MaxDeep, "a"))), "x", 1},
		"deep composite": {upRoot(3, withRegister(0, nested(impl.MaxDeep-2, "a"))), "x", 1},
		"long composite": {upRoot(3, withRegister(0, termOf(impl.MaxTerm-30))), "x", 1},
	} {
		if got, ok := impl.Quote(c.root, c.nonce, c.mask); ok || got != "" {
			t.Error(what, got, ok)
		}
	}
	for what, r := range map[string]impl.Root{
		"just deep enough": upRoot(3, withRegister(0, nested(impl.MaxDeep-3, "a"))),
		"just long enough": upRoot(3, withRegister(0, termOf(impl.MaxTerm-len("(sign !k (hash quote n3 x (hash n1 )))")))),
		"what is not seen": upRoot(3, withRegister(1, nested(impl.MaxDeep, "a"))),
	} {
		if _, ok := impl.Quote(r, "x", 1); !ok {
			t.Error(what)
		}
	}
}

func TestUnlikeQuotes(t *testing.T) {
	from := map[string]string{}
	for boots := range int64(4) {
		for _, nonce := range []string{"a", "b", "(hash a)"} {
			for _, mask := range []int64{1, 2, 3, 254, 255} {
				for at := range 3 {
					regs := withRegister(at, "other")
					composite, _ := impl.Composite(regs, mask)
					told, ok := impl.Quote(upRoot(boots, regs), nonce, mask)
					what := nameOf(boots) + ", " + nonce + ", " + composite
					if before := from[told]; !ok || before != "" && before != what {
						t.Error(told, before, what)
					}
					from[told] = what
				}
			}
		}
	}
}
