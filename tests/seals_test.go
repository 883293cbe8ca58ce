package tests

import (
	"math"
	"math/rand"
	"slices"
	"testing"

	"loop.example/g00082/impl"
)

// putWrites is how many writes a change of seals has.
const putWrites = 4

func sealAt(slot int64, secret string) impl.Seal {
	return impl.Seal{Slot: slot, Mask: 1 + slot, Want: "(hash w)", Secret: secret}
}

// vaultOf has a Seal in each slot that is named.
func vaultOf(slots ...int64) impl.Vault {
	var v impl.Vault
	for _, slot := range slots {
		v.Seals = append(v.Seals, sealAt(slot, "!old"))
	}
	return v
}

func underWay(v impl.Vault, stage int64, pending impl.Seal) impl.Vault {
	v.Stage, v.Pending = stage, pending
	return v
}

func sameVault(a impl.Vault, b impl.Vault) bool {
	return a.Stage == b.Stage && a.Pending == b.Pending && slices.Equal(a.Seals, b.Seals)
}

// withChange is the seals slot by slot, with the one of s changed.
func withChange(seals []impl.Seal, s impl.Seal) []impl.Seal {
	var slots [impl.MaxSeals]impl.Seal
	for _, old := range seals {
		slots[old.Slot] = old
	}
	slots[s.Slot] = s
	return slices.DeleteFunc(slots[:], func(s impl.Seal) bool { return s.Mask == 0 })
}

// statesOf is the Vault ahead of a change and behind each of its writes.
func statesOf(v impl.Vault, s impl.Seal) []impl.Vault {
	changed := impl.Vault{Seals: withChange(v.Seals, s)}
	return []impl.Vault{v, underWay(v, 1, s), underWay(v, 2, s), underWay(changed, 2, s), changed}
}

func expectVault(t *testing.T, what string, got impl.Vault, done bool, ok bool, want impl.Vault, wantDone bool) {
	t.Helper()
	if !ok || done != wantDone || !sameVault(got, want) || !impl.VaultOk(got) {
		t.Errorf("%s: got %v %v %v, want %v %v", what, got, done, ok, want, wantDone)
	}
}

func expectNoVault(t *testing.T, what string, got impl.Vault, done bool, ok bool) {
	t.Helper()
	if ok || done || !sameVault(got, impl.Vault{}) {
		t.Errorf("%s: %v %v %v", what, got, done, ok)
	}
}

func allCuts(writes int64) []int64 {
	list := []int64{writes + 100, math.MaxInt64}
	for cut := range writes + 3 {
		list = append(list, cut)
	}
	return list
}

func expectChange(t *testing.T, v impl.Vault, s impl.Seal) {
	t.Helper()
	states := statesOf(v, s)
	for _, cut := range allCuts(putWrites) {
		got, done, ok := impl.PutSeal(v, s, cut)
		expectVault(t, "put", got, done, ok, states[min(cut, putWrites)], cut >= putWrites)
	}
	got, done, ok := impl.PutSeal(v, s, -1)
	expectNoVault(t, "cut below 0", got, done, ok)
	for _, under := range states[1:4] {
		got, done, ok := impl.PutSeal(under, s, putWrites)
		expectNoVault(t, "another change under way", got, done, ok)
	}
	for _, cut := range allCuts(2) {
		got, done, ok = impl.Mend(states[0], cut)
		expectVault(t, "nothing to mend", got, done, ok, states[0], true)
		got, done, ok = impl.Mend(states[1], cut)
		expectVault(t, "mend what was noted", got, done, ok, states[1-min(cut, 1)], cut >= 1)
		got, done, ok = impl.Mend(states[2], cut)
		expectVault(t, "mend what was decided", got, done, ok, states[2+min(cut, 2)], cut >= 2)
		// The third write is done again, so that the first of two writes changes nothing.
		again := []impl.Vault{states[3], states[3], states[4]}
		got, done, ok = impl.Mend(states[3], cut)
		expectVault(t, "mend what was put", got, done, ok, again[min(cut, 2)], cut >= 2)
	}
}

func TestChangesOfSeals(t *testing.T) {
	for set := range 1 << impl.MaxSeals {
		var slots []int64
		for slot := range int64(impl.MaxSeals) {
			if set>>slot&1 == 1 {
				slots = append(slots, slot)
			}
		}
		for slot := range int64(impl.MaxSeals) {
			expectChange(t, vaultOf(slots...), sealAt(slot, "!new"))
			expectChange(t, vaultOf(slots...), impl.Seal{Slot: slot})
		}
	}
}

func TestWhereASealComes(t *testing.T) {
	for _, c := range []struct {
		slot int64
		away bool
		want []int64
	}{
		{0, false, []int64{0, 2, 5}}, {1, false, []int64{1, 2, 5}}, {2, false, []int64{2, 5}}, {4, false, []int64{2, 4, 5}}, {7, false, []int64{2, 5, 7}},
		{0, true, []int64{2, 5}}, {2, true, []int64{5}}, {5, true, []int64{2}}, {7, true, []int64{2, 5}},
	} {
		s := sealAt(c.slot, "!old")
		if c.away {
			s = impl.Seal{Slot: c.slot}
		}
		got, done, ok := impl.PutSeal(vaultOf(2, 5), s, putWrites)
		expectVault(t, "slots", got, done, ok, vaultOf(c.want...), true)
	}
	got, done, ok := impl.PutSeal(vaultOf(2, 5), sealAt(5, "!new"), putWrites)
	expectVault(t, "in its place", got, done, ok, impl.Vault{Seals: []impl.Seal{sealAt(2, "!old"), sealAt(5, "!new")}}, true)
}

// wrongSeals are neither Seals nor a Slot alone.
func wrongSeals() []impl.Seal {
	var wrong []impl.Seal
	for _, slot := range []int64{-1, 8, 9, math.MinInt64, math.MaxInt64} {
		wrong = append(wrong, impl.Seal{Slot: slot, Mask: 1, Want: "w", Secret: "s"}, impl.Seal{Slot: slot})
	}
	for _, mask := range []int64{0, -1, 256, 511, math.MinInt64, math.MaxInt64} {
		wrong = append(wrong, impl.Seal{Slot: 3, Mask: mask, Want: "w", Secret: "s"})
	}
	for _, noTerm := range []string{"", "A", "a b", "(hash", nested(impl.MaxDeep+1, "a"), termOf(impl.MaxTerm + 1)} {
		wrong = append(wrong, impl.Seal{Slot: 3, Mask: 1, Want: noTerm, Secret: "s"}, impl.Seal{Slot: 3, Mask: 1, Want: "w", Secret: noTerm})
	}
	return append(wrong,
		impl.Seal{Slot: 3, Mask: 1}, impl.Seal{Slot: 3, Want: "w"}, impl.Seal{Slot: 3, Secret: "s"}, impl.Seal{Mask: 1}, impl.Seal{Want: "w", Secret: "s"},
		impl.Seal{Slot: 3, Mask: -1}, impl.Seal{Slot: 3, Mask: 256}, impl.Seal{Slot: 3, Want: " "}, impl.Seal{Slot: 3, Secret: " "})
}

func rightSeals() []impl.Seal {
	return []impl.Seal{
		{Slot: 0, Mask: 1, Want: "w", Secret: "!s"}, {Slot: 7, Mask: 255, Want: "!w", Secret: "s"},
		{Slot: 3, Mask: 128, Want: nested(impl.MaxDeep, "a"), Secret: nested(impl.MaxDeep, "!a")},
		{Slot: 3, Mask: 1, Want: termOf(impl.MaxTerm), Secret: termOf(impl.MaxTerm)},
	}
}

// wrongVaults are not right, in all the ways that the document has.
func wrongVaults() []impl.Vault {
	wrong := []impl.Vault{
		vaultOf(2, 2), vaultOf(3, 2), vaultOf(0, 1, 2, 3, 4, 5, 6, 7, 7), vaultOf(0, 1, 2, 3, 4, 5, 6, 7, 8), vaultOf(0, 5, 1), vaultOf(-1, 0), vaultOf(7, 8),
		{Seals: []impl.Seal{{}}}, {Seals: []impl.Seal{{Slot: 3}}}, {Seals: []impl.Seal{sealAt(2, "a"), {Slot: 3}}},
	}
	for _, s := range wrongSeals() {
		wrong = append(wrong, impl.Vault{Seals: []impl.Seal{s}})
		for _, stage := range []int64{0, 1, 2} {
			wrong = append(wrong, underWay(vaultOf(1), stage, s))
		}
	}
	for _, pending := range []impl.Seal{sealAt(0, "a"), sealAt(3, "a"), {Slot: 3}} {
		wrong = append(wrong, underWay(vaultOf(1), 0, pending))
	}
	for _, stage := range []int64{-1, 3, 4, math.MinInt64, math.MaxInt64} {
		for _, pending := range []impl.Seal{{}, {Slot: 3}, sealAt(3, "a"), {Slot: 3, Mask: 1}} {
			wrong = append(wrong, underWay(vaultOf(1), stage, pending))
		}
	}
	for _, stage := range []int64{1, 2} {
		wrong = append(wrong, underWay(vaultOf(3, 2), stage, sealAt(1, "a")), underWay(vaultOf(2, 2), stage, impl.Seal{}))
	}
	return wrong
}

func TestWrongVaults(t *testing.T) {
	for _, v := range wrongVaults() {
		if impl.VaultOk(v) {
			t.Error("right", v)
		}
		for cut := int64(-1); cut < 6; cut++ {
			got, done, ok := impl.PutSeal(v, sealAt(3, "a"), cut)
			expectNoVault(t, "put", got, done, ok)
			got, done, ok = impl.Mend(v, cut)
			expectNoVault(t, "mend", got, done, ok)
			got, done, ok = impl.SealNow(v, namedRegisters(), 3, 1, "a", cut)
			expectNoVault(t, "seal", got, done, ok)
		}
		for slot := int64(-1); slot < 9; slot++ {
			expectUnsealed(t, "not right", v, namedRegisters(), slot, "", impl.UsVault)
		}
	}
}

func TestRightVaults(t *testing.T) {
	right := []impl.Vault{{}, vaultOf(0), vaultOf(7), vaultOf(0, 1, 2, 3, 4, 5, 6, 7), {Seals: []impl.Seal{}}}
	for _, s := range append(rightSeals(), impl.Seal{}, impl.Seal{Slot: 3}, impl.Seal{Slot: 7}) {
		if s.Mask != 0 {
			right = append(right, impl.Vault{Seals: []impl.Seal{s}})
		}
		for _, stage := range []int64{1, 2} {
			right = append(right, underWay(impl.Vault{}, stage, s), underWay(vaultOf(0, 3, 7), stage, s))
		}
	}
	for _, v := range right {
		if !impl.VaultOk(v) {
			t.Error("not right", v)
		}
	}
}

func TestPutOfWrongSeals(t *testing.T) {
	for _, s := range wrongSeals() {
		for cut := int64(-1); cut < 6; cut++ {
			got, done, ok := impl.PutSeal(vaultOf(1, 4), s, cut)
			expectNoVault(t, "wrong seal", got, done, ok)
		}
	}
	for _, s := range append(rightSeals(), impl.Seal{}, impl.Seal{Slot: 7}) {
		expectChange(t, vaultOf(1, 4), s)
	}
	for _, cut := range []int64{-1, -2, math.MinInt64} {
		got, done, ok := impl.PutSeal(vaultOf(1), sealAt(3, "a"), cut)
		expectNoVault(t, "put", got, done, ok)
		for _, v := range statesOf(vaultOf(1), sealAt(3, "a")) {
			got, done, ok = impl.Mend(v, cut)
			expectNoVault(t, "mend", got, done, ok)
		}
	}
}

// someVault has no change under way.
func someVault(r *rand.Rand) impl.Vault {
	var v impl.Vault
	for slot := range int64(impl.MaxSeals) {
		if r.Intn(2) == 0 {
			v.Seals = append(v.Seals, someSeal(r, slot))
		}
	}
	return v
}

func someSeal(r *rand.Rand, slot int64) impl.Seal {
	return impl.Seal{Slot: slot, Mask: 1 + r.Int63n(255), Want: someTerm(r, 2), Secret: someTerm(r, 2)}
}

// Promise 6: a change is there wholly or not at all once it is mended, however often that was cut.
func TestMendedAgainAndAgain(t *testing.T) {
	r := rand.New(rand.NewSource(13))
	for range 300 {
		v := someVault(r)
		for range 10 {
			s := someSeal(r, r.Int63n(impl.MaxSeals))
			if r.Intn(3) == 0 {
				s = impl.Seal{Slot: s.Slot}
			}
			cut := r.Int63n(putWrites + 2)
			want := v.Seals
			if cut >= 2 {
				want = withChange(v.Seals, s)
			}
			next, _, ok := impl.PutSeal(v, s, cut)
			if !ok {
				t.Fatal("no put", v, s, cut)
			}
			for range r.Intn(6) {
				next, _, _ = impl.Mend(next, r.Int63n(2))
			}
			mended, done, ok := impl.Mend(next, 2)
			expectVault(t, "mended", mended, done, ok, impl.Vault{Seals: want}, true)
			v = mended
		}
	}
}

func TestMendWithOneWriteEachTime(t *testing.T) {
	decided := underWay(vaultOf(1), 2, sealAt(3, "!new"))
	for range 5 {
		next, done, ok := impl.Mend(decided, 1)
		expectVault(t, "cut behind one write", next, done, ok, underWay(impl.Vault{Seals: []impl.Seal{sealAt(1, "!old"), sealAt(3, "!new")}}, 2, sealAt(3, "!new")), false)
		decided = next
	}
}

func expectUnsealed(t *testing.T, what string, v impl.Vault, regs []string, slot int64, secret string, code int64) {
	t.Helper()
	if got, c := impl.Unseal(v, regs, slot); got != secret || c != code {
		t.Errorf("%s: got %q %d, want %q %d", what, got, c, secret, code)
	}
}

func TestUnsealCodes(t *testing.T) {
	if !slices.Equal([]int64{impl.UsOk, impl.UsVault, impl.UsRegs, impl.UsNone, impl.UsState}, []int64{0, 1, 2, 3, 4}) || impl.MaxSeals != 8 {
		t.Error("numbers of the codes")
	}
	regs := namedRegisters()
	v := impl.Vault{Seals: []impl.Seal{
		{Slot: 0, Mask: 1, Want: "(hash n1 r0)", Secret: "!zero"},
		{Slot: 2, Mask: 5, Want: "(hash n5 r0 r2)", Secret: "(hash a !two)"},
		{Slot: 3, Mask: 4, Want: "(hash n1 r0)", Secret: "!three"},
		{Slot: 7, Mask: 255, Want: "(hash n255 (hash r0 r1 r2 r3 r4 r5 r6 r7))", Secret: "seven"},
	}}
	expectUnsealed(t, "first", v, regs, 0, "!zero", impl.UsOk)
	expectUnsealed(t, "second", v, regs, 2, "(hash a !two)", impl.UsOk)
	expectUnsealed(t, "last", v, regs, 7, "seven", impl.UsOk)
	expectUnsealed(t, "a composite by another mask", v, regs, 3, "", impl.UsState)
	expectUnsealed(t, "another register", v, withRegister(2, "x"), 2, "", impl.UsState)
	expectUnsealed(t, "a register that is not chosen", v, withRegister(1, "x"), 2, "(hash a !two)", impl.UsOk)
	expectUnsealed(t, "no composite", v, withRegister(0, nested(impl.MaxDeep, "a")), 0, "", impl.UsState)
	for _, slot := range []int64{-1, 1, 4, 6, 8, math.MinInt64, math.MaxInt64} {
		expectUnsealed(t, "no seal", v, regs, slot, "", impl.UsNone)
	}
	for _, wrong := range wrongRegisters() {
		expectUnsealed(t, "no registers", v, wrong, 0, "", impl.UsRegs)
		expectUnsealed(t, "no registers, and no seal", v, wrong, 1, "", impl.UsRegs)
		expectUnsealed(t, "no registers, and another composite", v, wrong, 3, "", impl.UsRegs)
		for _, stage := range []int64{-1, 1, 2, 3} {
			expectUnsealed(t, "under way, and no registers", underWay(v, stage, impl.Seal{Slot: 3}), wrong, 0, "", impl.UsVault)
		}
	}
	for _, under := range statesOf(v, sealAt(5, "!new"))[1:4] {
		for _, slot := range []int64{0, 1, 3, 5, 8} {
			expectUnsealed(t, "under way", under, regs, slot, "", impl.UsVault)
		}
	}
	expectUnsealed(t, "nothing is there", impl.Vault{}, regs, 0, "", impl.UsNone)
}

// Promise 6: a secret that was sealed comes back in the same registers, and not where one that its mask chooses is another.
func TestSealedComesBack(t *testing.T) {
	for mask := int64(1); mask <= 255; mask++ {
		slot := mask % impl.MaxSeals
		v, done, ok := impl.SealNow(vaultOf(1, 4), namedRegisters(), slot, mask, "!s", putWrites)
		if !ok || !done {
			t.Error("not sealed", mask)
		}
		expectUnsealed(t, "the same registers", v, namedRegisters(), slot, "!s", impl.UsOk)
		for at := range 8 {
			secret, code := "!s", int64(impl.UsOk)
			if mask>>at&1 == 1 {
				secret, code = "", impl.UsState
			}
			expectUnsealed(t, "one register is another", v, withRegister(at, "other"), slot, secret, code)
		}
	}
}

func TestSealNowIsPutSeal(t *testing.T) {
	regs := withRegister(2, "(hash reset !m)")
	for mask := int64(-1); mask <= 257; mask++ {
		want, there := impl.Composite(regs, mask)
		for cut := int64(-1); cut <= putWrites+1; cut++ {
			got, done, ok := impl.SealNow(vaultOf(3, 6), regs, 6, mask, "s", cut)
			if !there || cut < 0 {
				expectNoVault(t, "no composite", got, done, ok)
				continue
			}
			s := impl.Seal{Slot: 6, Mask: mask, Want: want, Secret: "s"}
			expectVault(t, "sealed", got, done, ok, statesOf(vaultOf(3, 6), s)[min(cut, putWrites)], cut >= putWrites)
		}
	}
}

func TestSealNowThatCannotBe(t *testing.T) {
	regs := namedRegisters()
	for what, c := range map[string]struct {
		vault  impl.Vault
		regs   []string
		slot   int64
		mask   int64
		secret string
	}{
		"mask 0":          {vaultOf(3), regs, 3, 0, "s"},
		"mask 0, no more": {vaultOf(3), regs, 3, 0, ""},
		"mask 256":        {vaultOf(3), regs, 3, 256, "s"},
		"deep composite":  {vaultOf(3), withRegister(0, nested(impl.MaxDeep, "a")), 3, 1, "s"},
		"long composite":  {vaultOf(3), withRegister(0, termOf(impl.MaxTerm)), 3, 1, "s"},
		"no registers":    {vaultOf(3), regs[:7], 3, 1, "s"},
		"slot -1":         {vaultOf(3), regs, -1, 1, "s"},
		"slot 8":          {vaultOf(3), regs, 8, 1, "s"},
		"no secret":       {vaultOf(3), regs, 3, 1, ""},
		"no term":         {vaultOf(3), regs, 3, 1, "a b"},
		"noted":           {underWay(vaultOf(3), 1, impl.Seal{}), regs, 3, 1, "s"},
		"decided":         {underWay(vaultOf(3), 2, sealAt(3, "a")), regs, 3, 1, "s"},
	} {
		for cut := int64(-1); cut <= putWrites+1; cut++ {
			got, done, ok := impl.SealNow(c.vault, c.regs, c.slot, c.mask, c.secret, cut)
			expectNoVault(t, what, got, done, ok)
		}
	}
	got, done, ok := impl.SealNow(impl.Vault{}, withRegister(0, nested(impl.MaxDeep, "a")), 3, 254, "s", putWrites)
	if !ok || !done || len(got.Seals) != 1 {
		t.Error("a register that is not chosen", got, done, ok)
	}
}
