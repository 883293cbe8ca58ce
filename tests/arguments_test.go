package tests

import (
	"math/rand"
	"slices"
	"testing"

	"loop.example/g00082/impl"
)

func sameSteps(a []impl.RStep, b []impl.RStep) bool {
	return slices.EqualFunc(a, b, func(x impl.RStep, y impl.RStep) bool {
		return x.Op == y.Op && x.Name == y.Name && slices.Equal(x.Args, y.Args)
	})
}

// scribble writes over an answer, to see whether that reaches an argument or a later answer.
func scribble(answer []string) {
	for i := range answer {
		answer[i] = "scribbled"
	}
	for i := range answer[len(answer):cap(answer)] {
		answer[:cap(answer)][len(answer)+i] = "scribbled"
	}
}

func TestTermArgumentsStay(t *testing.T) {
	parts := roomy([]string{"!k", "(hash !b a !b)"}, "mark")
	whole := parts[:cap(parts)]
	before := slices.Clone(whole)
	for range 2 {
		s, ok := impl.Make(impl.TmSign, parts)
		if !ok || s != "(sign !k (hash !b a !b))" {
			t.Error(s, ok)
		}
		got := impl.PartsOf(s)
		expect(t, "parts", got, parts...)
		secrets := impl.SecretsOf(s)
		expect(t, "secrets", secrets, "!b", "!k")
		scribble(got)
		scribble(secrets)
		expect(t, "argument", whole, before...)
	}
}

func TestKnowledgeArgumentsStay(t *testing.T) {
	r := rand.New(rand.NewSource(9))
	for range 300 {
		known := roomy(someTerms(r, 8), "mark")
		whole := known[:cap(known)]
		before := slices.Clone(whole)
		first, _ := impl.TakeApart(known)
		want := slices.Clone(first)
		can := impl.CanMake(known, "(hash !a !b)")
		scribble(first)
		second, ok := impl.TakeApart(known)
		expect(t, "apart again", second, want...)
		if !ok || impl.CanMake(known, "(hash !a !b)") != can {
			t.Error("another answer", known)
		}
		expect(t, "argument", whole, before...)
	}
}

func TestRecipeArgumentsStay(t *testing.T) {
	known := roomy([]string{"!k", "(pair a !b)"}, "mark")
	whole := known[:cap(known)]
	before := slices.Clone(whole)
	recipe := func() []impl.RStep {
		return roomy([]impl.RStep{{Op: impl.RcName, Name: "x"}, {Op: impl.RcSecond, Args: roomy(args(1), 77)}, {Op: impl.RcPair, Args: roomy(args(2, 3), 77)}, {Op: impl.RcPub, Args: roomy(args(0), 77)}}, impl.RStep{Name: "mark"})
	}
	given := recipe()
	for range 2 {
		terms, code, at := impl.RunRecipe(known, given)
		if code != 0 || at != -1 {
			t.Error(code, at)
		}
		expect(t, "recipe", terms, "x", "!b", "(pair x !b)", "(pub !k)")
		scribble(terms)
		expect(t, "known", whole, before...)
		if !sameSteps(given[:cap(given)], recipe()[:cap(given)]) {
			t.Error("steps", given)
		}
		for i, s := range given {
			if !slices.Equal(s.Args[:cap(s.Args)], recipe()[i].Args[:cap(s.Args)]) {
				t.Error("args", s.Args[:cap(s.Args)])
			}
		}
	}
}

// scribbleNumbers is scribble for numbers.
func scribbleNumbers(answer []int64) {
	all := answer[:cap(answer)]
	for i := range all {
		all[i] = -5
	}
}

// nvAnswers asks everything of chapter 3 and writes over each answer, so that the next round sees what is shared.
func nvAnswers(v impl.Nv, values []int64, writes []impl.Write) [][]int64 {
	var told [][]int64
	tell := func(list []int64, ok bool) {
		if ok {
			told = append(told, slices.Clone(list))
			scribbleNumbers(list)
		}
	}
	made, ok := impl.NvNew(values)
	tell(made.Words, ok)
	read, count, ok := impl.NvRead(v)
	tell(read, ok)
	told = append(told, []int64{count})
	change, _ := impl.NvWrites(v, values)
	for i, w := range change {
		told = append(told, []int64{w.At, w.Value})
		change[i] = impl.Write{At: -5, Value: -5}
	}
	for n := range int64(6) {
		applied, ok := impl.NvApply(v, writes, n)
		tell(applied.Words, ok)
		put, ok := impl.NvPut(v, values, n)
		tell(put.Words, ok)
	}
	return told
}

func TestNvArgumentsStay(t *testing.T) {
	v := impl.Nv{Size: 2, Words: roomy(twoCopies(copyWords(3, 0, 8, 9), copyWords(4, 0, 3, 7)).Words, 77)}
	values := roomy([]int64{5, 6}, 77)
	writes := roomy([]impl.Write{{At: 0, Value: 1}, {At: 7, Value: 2}}, impl.Write{At: 77})
	words, given, steps := slices.Clone(v.Words[:cap(v.Words)]), slices.Clone(values[:cap(values)]), slices.Clone(writes[:cap(writes)])
	first := nvAnswers(v, values, writes)
	second := nvAnswers(v, values, writes)
	if len(first) != 20 || !slices.EqualFunc(first, second, slices.Equal) {
		t.Error("other answers", first, second)
	}
	if !slices.Equal(v.Words[:cap(v.Words)], words) || !slices.Equal(values[:cap(values)], given) || !slices.Equal(writes[:cap(writes)], steps) {
		t.Error("arguments", v, values, writes)
	}
}

// registerAnswers asks everything of chapter 4 and writes over each answer.
func registerAnswers(regs []string, events []impl.Event) []string {
	var told []string
	tell := func(list []string, ok bool) {
		told = append(told, list...)
		scribble(list)
	}
	tell(impl.Cleared(), true)
	tell(impl.Fold(events))
	for at := range int64(9) {
		tell(impl.Extend(regs, at, "m"))
	}
	for mask := range int64(257) {
		tell(impl.Shown(regs, mask))
		c, _ := impl.Composite(regs, mask)
		told = append(told, c)
	}
	return told
}

func TestRegisterArgumentsStay(t *testing.T) {
	regs := roomy(namedRegisters(), "mark")
	events := roomy([]impl.Event{{Register: 3, Measure: "a"}, {Register: 7, Measure: "b"}}, impl.Event{Measure: "mark"})
	before, steps := slices.Clone(regs[:cap(regs)]), slices.Clone(events[:cap(events)])
	first := registerAnswers(regs, events)
	expect(t, "again", registerAnswers(regs, events), first...)
	expect(t, "registers", regs[:cap(regs)], before...)
	if !slices.Equal(events[:cap(events)], steps) {
		t.Error("events", events)
	}
}

// rootAnswers asks everything of chapter 5 and writes over each answer.
func rootAnswers(r impl.Root) []string {
	var told []string
	tell := func(answer impl.Root, ok bool) {
		told = append(told, answer.Key, nameOf(answer.Boots.Size), nameOf(impl.BootsOf(answer)))
		for _, word := range answer.Boots.Words {
			told = append(told, nameOf(word))
		}
		told = append(told, answer.Regs...)
		scribbleNumbers(answer.Boots.Words)
		scribble(answer.Regs)
	}
	tell(impl.RootNew(r.Key))
	tell(impl.PowerOff(r), true)
	for n := range int64(9) {
		tell(impl.PowerOn(r, n))
		tell(impl.RootExtend(r, n, "m"))
	}
	for mask := range int64(257) {
		q, _ := impl.Quote(r, "x", mask)
		told = append(told, q)
	}
	return told
}

func TestRootArgumentsStay(t *testing.T) {
	for _, up := range []bool{true, false} {
		r := impl.Root{Key: "!k", Boots: twoCopies(copyWords(4, 0, 3), copyWords(5, 0, 4))}
		r.Boots.Words = roomy(r.Boots.Words, 77)
		if up {
			r.Up, r.Regs = true, roomy(namedRegisters(), "mark")
		}
		words, regs := slices.Clone(r.Boots.Words[:cap(r.Boots.Words)]), slices.Clone(r.Regs[:cap(r.Regs)])
		first := rootAnswers(r)
		expect(t, "again", rootAnswers(r), first...)
		expect(t, "registers", r.Regs[:cap(r.Regs)], regs...)
		if !slices.Equal(r.Boots.Words[:cap(r.Boots.Words)], words) {
			t.Error("words", r.Boots.Words)
		}
	}
}

// sealAnswers asks everything of chapter 6 and writes over each answer.
func sealAnswers(v impl.Vault, regs []string) []impl.Seal {
	var told []impl.Seal
	tell := func(answer impl.Vault, done bool, ok bool) {
		told = append(told, impl.Seal{Slot: answer.Stage}, answer.Pending)
		told = append(told, answer.Seals...)
		all := answer.Seals[:cap(answer.Seals)]
		for i := range all {
			all[i] = impl.Seal{Secret: "scribbled"}
		}
	}
	for slot := range int64(impl.MaxSeals) {
		for cut := range int64(putWrites + 1) {
			tell(impl.PutSeal(v, sealAt(slot, "!new"), cut))
			tell(impl.PutSeal(v, impl.Seal{Slot: slot}, cut))
			tell(impl.Mend(v, cut))
			tell(impl.SealNow(v, regs, slot, 5, "!now", cut))
		}
		secret, code := impl.Unseal(v, regs, slot)
		told = append(told, impl.Seal{Slot: code, Secret: secret})
	}
	return told
}

func TestSealArgumentsStay(t *testing.T) {
	for _, v := range []impl.Vault{{}, vaultOf(), vaultOf(2, 5), vaultOf(0, 1, 2, 3, 4, 5, 6, 7), underWay(vaultOf(2, 5), 1, sealAt(3, "a")), underWay(vaultOf(2, 5), 2, sealAt(3, "a")), underWay(vaultOf(2, 5), 2, sealAt(2, "a")), underWay(vaultOf(2, 5), 2, impl.Seal{Slot: 2})} {
		v.Seals = roomy(v.Seals, sealAt(7, "mark"))
		regs := roomy(namedRegisters(), "mark")
		seals, before := slices.Clone(v.Seals[:cap(v.Seals)]), slices.Clone(regs[:cap(regs)])
		first := sealAnswers(v, regs)
		if again := sealAnswers(v, regs); !slices.Equal(again, first) {
			t.Error("other answers", first, again)
		}
		if !slices.Equal(v.Seals[:cap(v.Seals)], seals) {
			t.Error("seals", v.Seals)
		}
		expect(t, "registers", regs[:cap(regs)], before...)
	}
}

// deviceAnswers asks everything of chapter 7 and writes over each answer.
func deviceAnswers(d impl.Device, listed []impl.Image) []string {
	var told []string
	tell := func(answer impl.Device, code int64) {
		told = append(told, answer.Name, answer.Root.Key, nameOf(code), nameOf(answer.Vault.Stage), answer.Vault.Pending.Secret)
		for _, word := range answer.Root.Boots.Words {
			told = append(told, nameOf(word))
		}
		for _, s := range answer.Vault.Seals {
			told = append(told, nameOf(s.Slot), s.Secret)
		}
		for _, image := range answer.Loaded {
			told = append(told, image.Name, nameOf(image.Version))
		}
		for _, e := range answer.Log {
			told = append(told, nameOf(e.Register), e.Measure)
		}
		told = append(told, answer.Root.Regs...)
		scribbleDevice(answer)
	}
	for n := int64(-1); n < 9; n++ {
		tell(impl.Restart(d, n))
		tell(impl.Note(d, n, "m"))
		tell(impl.Load(d, impl.Image{Name: "a", Version: n}))
	}
	if impl.DeviceOk(d) {
		told = append(told, "right")
	}
	if impl.Trusted(d, listed) {
		told = append(told, "trusted")
	}
	return told
}

func scribbleDevice(d impl.Device) {
	scribbleNumbers(d.Root.Boots.Words)
	scribble(d.Root.Regs)
	seals, loaded, log := d.Vault.Seals[:cap(d.Vault.Seals)], d.Loaded[:cap(d.Loaded)], d.Log[:cap(d.Log)]
	for i := range seals {
		seals[i] = impl.Seal{Secret: "scribbled"}
	}
	for i := range loaded {
		loaded[i] = impl.Image{Name: "scribbled"}
	}
	for i := range log {
		log[i] = impl.Event{Measure: "scribbled"}
	}
}

// roomyDevice has marked room behind each of its lists.
func roomyDevice(d impl.Device) impl.Device {
	d.Root.Boots.Words, d.Root.Regs = roomy(d.Root.Boots.Words, 77), roomy(d.Root.Regs, "mark")
	d.Vault.Seals = roomy(d.Vault.Seals, sealAt(7, "mark"))
	d.Loaded, d.Log = roomy(d.Loaded, impl.Image{Name: "mark"}), roomy(d.Log, impl.Event{Measure: "mark"})
	return d
}

// wholeDevice has a copy of each list with the room behind it.
func wholeDevice(d impl.Device) impl.Device {
	whole := d
	whole.Root.Boots.Words = slices.Clone(d.Root.Boots.Words[:cap(d.Root.Boots.Words)])
	whole.Root.Regs = slices.Clone(d.Root.Regs[:cap(d.Root.Regs)])
	whole.Vault.Seals = slices.Clone(d.Vault.Seals[:cap(d.Vault.Seals)])
	whole.Loaded, whole.Log = slices.Clone(d.Loaded[:cap(d.Loaded)]), slices.Clone(d.Log[:cap(d.Log)])
	return whole
}

func TestDeviceArgumentsStay(t *testing.T) {
	images := someImages(3)
	most, all := someImages(impl.MaxLayer+1), stepsOf(impl.MaxEvents, inTurn)
	for _, d := range []impl.Device{{}, downDevice(), upDevice(nil, nil), upDevice(images, loadsOf(images)), upDevice(most, loadsOf(most)), upDevice(images, all), withVault(upDevice(images, all), vaultOf(2, 5)), withNamed(upDevice(images, all), "")} {
		d = roomyDevice(d)
		listed := roomy(someImages(3), impl.Image{Name: "mark"})
		before := wholeDevice(d)
		first := deviceAnswers(d, listed)
		expect(t, "again", deviceAnswers(d, listed), first...)
		if after := wholeDevice(d); !sameDevice(after, before) {
			t.Error("device", after, before)
		}
		if !slices.Equal(listed[:cap(listed)], roomy(someImages(3), impl.Image{Name: "mark"})[:cap(listed)]) {
			t.Error("listed", listed)
		}
	}
}

func TestLogArgumentsStay(t *testing.T) {
	for _, events := range [][]impl.Event{nil, stepsOf(3, inTurn), stepsOf(impl.MaxEvents, inTurn), eventsOfSizes(1, 4000)} {
		want := logBytes(events)
		given := roomy(events, impl.Event{Measure: "mark"})
		data := roomy(want, 77)
		steps, whole := slices.Clone(given[:cap(given)]), slices.Clone(data[:cap(data)])
		for range 2 {
			written := impl.WriteLog(given)
			read, code, at := impl.ReadLog(data)
			if !slices.Equal(written, want) || !slices.Equal(read, events) || code != 0 || at != -1 || impl.FirstUnlike(given, read) != -1 {
				t.Error("another answer", written, read, code, at)
			}
			clear(written[:cap(written)])
			clear(read[:cap(read)])
			if !slices.Equal(given[:cap(given)], steps) || !slices.Equal(data[:cap(data)], whole) {
				t.Error("arguments", given, data)
			}
		}
		read, _, _ := impl.ReadLog(data)
		clear(data)
		if !slices.Equal(read, events) {
			t.Error("what was read hangs on the bytes", read)
		}
	}
}

func scribbleImages(answer []impl.Image) {
	all := answer[:cap(answer)]
	for i := range all {
		all[i] = impl.Image{Name: "scribbled"}
	}
}

// replayAnswers asks everything of chapter 9 and writes over each answer.
func replayAnswers(events []impl.Event, shown []string) []string {
	var told []string
	tell := func(images []impl.Image, code int64, at int64) {
		told = append(told, nameOf(code), nameOf(at+1))
		for _, image := range images {
			told = append(told, image.Name, nameOf(image.Version))
		}
		scribbleImages(images)
	}
	tell(impl.ImagesOf(events))
	for mask := range int64(257) {
		tell(impl.Replay(events, shown, mask))
		places, ok := impl.Depends(events, mask)
		if ok {
			told = append(told, "chosen")
		}
		for _, at := range places {
			told = append(told, nameOf(at))
		}
		scribbleNumbers(places)
	}
	for _, e := range events {
		layer, image, ok := impl.Looks(e.Measure)
		if ok {
			told = append(told, nameOf(layer), image.Name, nameOf(image.Version))
		}
	}
	return told
}

func TestReplayArgumentsStay(t *testing.T) {
	most, faulty := loadsOf(someImages(impl.MaxLayer+1)), loadsOf(someImages(3))
	faulty[1].Measure = ""
	for _, list := range [][]impl.Event{nil, most, among(loadsOf(someImages(3))), stepsOf(impl.MaxEvents, inTurn), stepsOf(impl.MaxEvents, inThree), faulty} {
		events := roomy(list, impl.Event{Measure: "mark"})
		steps := slices.Clone(events[:cap(events)])
		for _, mask := range []int64{1, 3, 255} {
			shown := roomy(chosenBy(folded(list), mask), "mark")
			before := slices.Clone(shown[:cap(shown)])
			first := replayAnswers(events, shown)
			expect(t, "again", replayAnswers(events, shown), first...)
			expect(t, "shown", shown[:cap(shown)], before...)
			if !slices.Equal(events[:cap(events)], steps) {
				t.Error("events", events)
			}
		}
	}
}

// endorseAnswers asks everything of chapter 10.
func endorseAnswers(certs []impl.Cert) []impl.Cert {
	var told []impl.Cert
	for now := int64(18); now < 93; now++ {
		key, code, at := impl.CheckChain(linkKey(0), certs, now)
		told = append(told, impl.Cert{Key: key, From: code, Until: at})
		for i, c := range certs {
			renewed, _ := impl.Renewed(c, linkSecret(i), now)
			made, _ := impl.CertBy(linkSecret(i), c.Name, c.Key, c.From, now)
			told = append(told, renewed, made, impl.Cert{From: impl.CheckCert(c, linkKey(i), now)})
		}
	}
	return told
}

func TestEndorseArgumentsStay(t *testing.T) {
	for _, list := range [][]impl.Cert{nil, chainOfMany(1), chainOfMany(impl.MaxChain), chainOfMany(impl.MaxChain + 1), withCert(chainOfMany(3), 1, impl.Cert{}), withCert(chainOfMany(3), 2, makerCert())} {
		certs := roomy(list, impl.Cert{Name: "mark"})
		before := slices.Clone(certs[:cap(certs)])
		first := endorseAnswers(certs)
		if again := endorseAnswers(certs); !slices.Equal(again, first) {
			t.Error("other answers", first, again)
		}
		if !slices.Equal(certs[:cap(certs)], before) {
			t.Error("certs", certs)
		}
	}
}

// policyAnswers asks everything of chapter 11 and writes over each answer.
func policyAnswers(p impl.Policy, images []impl.Image) []string {
	var told []string
	tell := func(answer impl.Policy, ok bool) {
		told = append(told, nameOf(answer.Number))
		for _, r := range answer.Rows {
			told = append(told, nameOf(r.Layer), r.Name, nameOf(r.Least))
		}
		told = append(told, answer.Withdrawn...)
		rows := answer.Rows[:cap(answer.Rows)]
		for i := range rows {
			rows[i] = impl.Ref{Name: "scribbled"}
		}
		scribble(answer.Withdrawn)
	}
	if impl.PolicyOk(p) {
		told = append(told, "right")
	}
	for _, measure := range []string{"a", "b", "c", "(hash n0 boot n1)", "", "z"} {
		tell(impl.Withdraw(p, measure))
	}
	for layer := int64(-1); layer < 4; layer++ {
		for _, name := range []string{"app", "boot", "core"} {
			tell(impl.Demand(p, layer, name, 6))
			told = append(told, nameOf(impl.Judge(p, layer, impl.Image{Name: name, Version: 5})))
		}
	}
	code, at := impl.JudgeAll(p, images)
	return append(told, nameOf(code), nameOf(at+1))
}

func TestPolicyArgumentsStay(t *testing.T) {
	for _, p := range []impl.Policy{{}, aPolicy(), withNumber(aPolicy(), -1), withWithdrawn(aPolicy()), withWithdrawn(aPolicy(), "b", "a"), withWithdrawn(aPolicy(), names(impl.MaxRows)...), withRows(aPolicy(), refsOf(impl.MaxRows)...), withRows(aPolicy(), refsOf(impl.MaxRows+1)...)} {
		p.Rows, p.Withdrawn = roomy(p.Rows, impl.Ref{Name: "mark"}), roomy(p.Withdrawn, "mark")
		images := roomy([]impl.Image{{Name: "boot", Version: 2}, {Name: "core", Version: 8}, {Name: "core", Version: 1}}, impl.Image{Name: "mark"})
		rows, withdrawn, before := slices.Clone(p.Rows[:cap(p.Rows)]), slices.Clone(p.Withdrawn[:cap(p.Withdrawn)]), slices.Clone(images[:cap(images)])
		first := policyAnswers(p, images)
		expect(t, "again", policyAnswers(p, images), first...)
		expect(t, "withdrawn", p.Withdrawn[:cap(p.Withdrawn)], withdrawn...)
		if !slices.Equal(p.Rows[:cap(p.Rows)], rows) || !slices.Equal(images[:cap(images)], before) {
			t.Error("arguments", p.Rows, images)
		}
	}
}

// tableAnswers asks everything of chapter 12 and writes over each answer.
func tableAnswers(x impl.Table) []string {
	var told []string
	tell := func(answer impl.Table) {
		told = append(told, answer.Secret, nameOf(answer.Now), nameOf(answer.Next))
		for _, n := range answer.Open {
			told = append(told, nameOf(n.Number), nameOf(n.Born))
		}
		open := answer.Open[:cap(answer.Open)]
		for i := range open {
			open[i] = impl.Nonce{Number: -5, Born: -5}
		}
	}
	if impl.TableOk(x) {
		told = append(told, "right")
	}
	next, nonce, code := impl.Challenge(x)
	tell(next)
	told = append(told, nonce, nameOf(code))
	for n := int64(-1); n < 30; n++ {
		passed, _ := impl.Pass(x, n)
		tell(passed)
		spent, code := impl.Spend(x, nonceText(n))
		tell(spent)
		told = append(told, nameOf(code))
	}
	open := impl.OpenNow(x)
	told = append(told, open...)
	scribble(open)
	return told
}

func TestTableArgumentsStay(t *testing.T) {
	for _, x := range slices.Concat(rightTables(), wrongTables()) {
		x.Open = roomy(x.Open, impl.Nonce{Number: 77})
		before := slices.Clone(x.Open[:cap(x.Open)])
		first := tableAnswers(x)
		expect(t, "again", tableAnswers(x), first...)
		if !slices.Equal(x.Open[:cap(x.Open)], before) {
			t.Error("open", x.Open)
		}
	}
}

// tellVerifier tells all that stands in a Verifier and writes over its lists.
func tellVerifier(v impl.Verifier) []string {
	told := []string{v.Secret, v.Root, nameOf(v.Policy.Number), nameOf(v.Table.Now), nameOf(v.Table.Next)}
	for _, r := range v.Policy.Rows {
		told = append(told, nameOf(r.Layer), r.Name, nameOf(r.Least))
	}
	told = append(told, v.Policy.Withdrawn...)
	for _, n := range v.Table.Open {
		told = append(told, nameOf(n.Number), nameOf(n.Born))
	}
	rows, open := v.Policy.Rows[:cap(v.Policy.Rows)], v.Table.Open[:cap(v.Table.Open)]
	for i := range rows {
		rows[i] = impl.Ref{Name: "scribbled"}
	}
	for i := range open {
		open[i] = impl.Nonce{Number: -5, Born: -5}
	}
	scribble(v.Policy.Withdrawn)
	return told
}

// verdictAnswers asks Appraise and writes over each answer.
func verdictAnswers(v impl.Verifier, e impl.Evidence) []string {
	var told []string
	if impl.VerifierOk(v) {
		told = append(told, "right")
	}
	for _, nonce := range nonceTexts(2, 5, 8, 11, 12) {
		for mask := e.Mask - 1; mask <= e.Mask; mask++ {
			next, verdict := impl.Appraise(v, quoted(withMask(withNonce(e, nonce), mask), "!k"))
			told = append(told, tellVerifier(next)...)
			told = append(told, nameOf(verdict.Code), nameOf(verdict.Detail), verdict.Name, verdict.Token)
			for _, image := range verdict.Images {
				told = append(told, image.Name, nameOf(image.Version))
			}
			scribbleImages(verdict.Images)
		}
	}
	return told
}

func roomyVerifier(v impl.Verifier) impl.Verifier {
	v.Policy.Rows, v.Policy.Withdrawn = roomy(v.Policy.Rows, impl.Ref{Name: "mark"}), roomy(v.Policy.Withdrawn, "mark")
	v.Table.Open = roomy(v.Table.Open, impl.Nonce{Number: 77})
	return v
}

// wholeVerifier has a copy of each list with the room behind it.
func wholeVerifier(v impl.Verifier) impl.Verifier {
	v.Policy.Rows, v.Policy.Withdrawn = slices.Clone(v.Policy.Rows[:cap(v.Policy.Rows)]), slices.Clone(v.Policy.Withdrawn[:cap(v.Policy.Withdrawn)])
	v.Table.Open = slices.Clone(v.Table.Open[:cap(v.Table.Open)])
	return v
}

func roomyEvidence(e impl.Evidence) impl.Evidence {
	e.Shown, e.Log, e.Certs = roomy(e.Shown, "mark"), roomy(e.Log, 77), roomy(e.Certs, impl.Cert{Name: "mark"})
	return e
}

func wholeEvidence(e impl.Evidence) impl.Evidence {
	e.Shown, e.Log, e.Certs = slices.Clone(e.Shown[:cap(e.Shown)]), slices.Clone(e.Log[:cap(e.Log)]), slices.Clone(e.Certs[:cap(e.Certs)])
	return e
}

func TestAppraiseArgumentsStay(t *testing.T) {
	images := someImages(3)
	right := verifierFor(images)
	listed := withPolicy(right, withWithdrawn(right.Policy, "a", "b"))
	for _, v := range []impl.Verifier{{}, right, listed, withPolicy(right, aPolicy()), withRootKey(right, "!root")} {
		for _, e := range []impl.Evidence{{}, evidenceOf(loadsOf(images), 255), evidenceOf(loadsOf(images), 1), evidenceOf(nil, 255), evidenceOf(among(loadsOf(images)), 254), withCerts(evidenceOf(nil, 255))} {
			given, shown := roomyVerifier(v), roomyEvidence(e)
			before, told := wholeVerifier(given), wholeEvidence(shown)
			first := verdictAnswers(given, shown)
			expect(t, "again", verdictAnswers(given, shown), first...)
			if !sameVerifier(wholeVerifier(given), before) || !sameEvidence(wholeEvidence(shown), told) {
				t.Error("arguments", given, shown)
			}
		}
	}
}

// evidenceAnswers asks EvidenceOf and writes over each answer.
func evidenceAnswers(d impl.Device, certs []impl.Cert) []string {
	var told []string
	for mask := int64(-1); mask <= 256; mask++ {
		e, ok := impl.EvidenceOf(d, "x", mask, certs)
		if !ok {
			continue
		}
		told = append(told, e.Nonce, nameOf(e.Boots), nameOf(e.Mask), e.Quote, string(e.Log))
		told = append(told, e.Shown...)
		for _, c := range e.Certs {
			told = append(told, c.Name, c.Key, c.Sign)
		}
		scribble(e.Shown)
		clear(e.Log[:cap(e.Log)])
		clear(e.Certs[:cap(e.Certs)])
	}
	return told
}

func TestEvidenceArgumentsStay(t *testing.T) {
	images := someImages(3)
	for _, d := range []impl.Device{{}, downDevice(), upDevice(nil, nil), upDevice(images, loadsOf(images)), upDevice(images, stepsOf(impl.MaxEvents, inTurn))} {
		for _, list := range [][]impl.Cert{nil, devCerts(), chainOfMany(impl.MaxChain + 1)} {
			given, certs := roomyDevice(d), roomy(list, impl.Cert{Name: "mark"})
			before, told := wholeDevice(given), slices.Clone(certs[:cap(certs)])
			first := evidenceAnswers(given, certs)
			expect(t, "again", evidenceAnswers(given, certs), first...)
			if !sameDevice(wholeDevice(given), before) || !slices.Equal(certs[:cap(certs)], told) {
				t.Error("arguments", given, certs)
			}
		}
	}
}

// relyingAnswers asks everything of chapter 14 that a Relying goes into, and writes over each answer.
func relyingAnswers(y impl.Relying) []string {
	var told []string
	tell := func(answer impl.Relying, code int64) {
		told = append(told, nameOf(code))
		for _, list := range [][]string{answer.Issuers, answer.Asked, answer.Taken} {
			told = append(told, nameOf(int64(len(list))))
			told = append(told, list...)
		}
		scribble(answer.Issuers)
		scribble(answer.Asked)
		scribble(answer.Taken)
	}
	if impl.RelyingOk(y) {
		told = append(told, "right")
	}
	for _, nonce := range []string{"a", "b", "bb", "d", "f", "z", "", "(hash a)"} {
		tell(impl.AskFor(y, nonce))
		for _, secret := range []string{"!u", "!w", "!x"} {
			tell(impl.Accept(y, tokenText(secret, nonce, "dev", 7), nonce, "dev", 7))
		}
	}
	return told
}

func TestRelyingArgumentsStay(t *testing.T) {
	for _, y := range slices.Concat(rightRelyings(), wrongRelyings()) {
		y = relyingOf(roomy(y.Issuers, "mark"), roomy(y.Asked, "mark"), roomy(y.Taken, "mark"))
		issuers, asked, taken := slices.Clone(y.Issuers[:cap(y.Issuers)]), slices.Clone(y.Asked[:cap(y.Asked)]), slices.Clone(y.Taken[:cap(y.Taken)])
		first := relyingAnswers(y)
		expect(t, "again", relyingAnswers(y), first...)
		expect(t, "issuers", y.Issuers[:cap(y.Issuers)], issuers...)
		expect(t, "asked", y.Asked[:cap(y.Asked)], asked...)
		expect(t, "taken", y.Taken[:cap(y.Taken)], taken...)
	}
}

// tellPlaces tells them behind what is told, and writes over them.
func tellPlaces(told []float64, places []int64) []float64 {
	for _, at := range places {
		told = append(told, float64(at))
	}
	scribbleNumbers(places)
	return told
}

// scoreAnswers asks all of chapter 15 that takes a list, and writes over each answer.
func scoreAnswers(marks []impl.Mark, values []float64) []float64 {
	told := []float64{impl.Blend(marks), impl.Median(values)}
	return tellPlaces(told, impl.Ranked(values))
}

func TestScoreArgumentsStay(t *testing.T) {
	r := rand.New(rand.NewSource(71))
	for _, size := range []int{0, 1, 2, 7, 30, impl.MaxMarks, impl.MaxMarks + 1} {
		values := roomy(someFloats(r, size, someFloat), 77)
		marks := roomy(marksOf(someFloats(r, 2*size, someFloat)...), impl.Mark{Value: 77})
		before, given := slices.Clone(values[:cap(values)]), slices.Clone(marks[:cap(marks)])
		first := scoreAnswers(marks, values)
		if again := scoreAnswers(marks, values); !allAlike(again, first) {
			t.Error("other answers", first, again)
		}
		sameMark := func(a impl.Mark, b impl.Mark) bool { return alike(a.Weight, b.Weight) && alike(a.Value, b.Value) }
		if !allAlike(values[:cap(values)], before) || !slices.EqualFunc(marks[:cap(marks)], given, sameMark) {
			t.Error("arguments", values, marks)
		}
	}
}

// clockAnswers asks all of chapter 16 that takes a list, and writes over each answer.
func clockAnswers(ticks []int64, one []float64, two []float64) []float64 {
	c, _ := impl.FitClock(ticks, one)
	low, high, _ := impl.Overlap(one, two)
	told := []float64{c.Rate, c.Offset, low, high}
	return tellPlaces(told, impl.Marked(one, 8, 3))
}

func TestClockArgumentsStay(t *testing.T) {
	r := rand.New(rand.NewSource(72))
	for _, size := range []int{0, 1, 2, 7, 30, impl.MaxMarks, impl.MaxMarks + 1} {
		list, onLine := readings(r, size, 0, 1)
		for _, shown := range [][]float64{onLine, someFloats(r, size, someFloat)} {
			for _, highs := range [][]float64{slices.Repeat([]float64{infinite}, size), someFloats(r, size, someFloat)} {
				ticks, one, two := roomy(list, 77), roomy(shown, 77), roomy(highs, 77)
				given, ones, twos := slices.Clone(ticks[:cap(ticks)]), slices.Clone(one[:cap(one)]), slices.Clone(two[:cap(two)])
				first := clockAnswers(ticks, one, two)
				if again := clockAnswers(ticks, one, two); !allAlike(again, first) {
					t.Error("other answers", first, again)
				}
				if !slices.Equal(ticks[:cap(ticks)], given) || !allAlike(one[:cap(one)], ones) || !allAlike(two[:cap(two)], twos) {
					t.Error("arguments", ticks, one, two)
				}
			}
		}
	}
}
