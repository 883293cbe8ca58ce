package tests

import (
	"fmt"
	"math"
	"math/rand"
	"slices"
	"strings"
	"testing"

	"loop.example/g00082/impl"
)

func sameVerifier(a impl.Verifier, b impl.Verifier) bool {
	return a.Secret == b.Secret && a.Root == b.Root && samePolicy(a.Policy, b.Policy) && sameTable(a.Table, b.Table)
}

func sameEvidence(a impl.Evidence, b impl.Evidence) bool {
	numbers := a.Boots == b.Boots && a.Mask == b.Mask
	return numbers && a.Nonce == b.Nonce && slices.Equal(a.Shown, b.Shown) && slices.Equal(a.Log, b.Log) && slices.Equal(a.Certs, b.Certs) && a.Quote == b.Quote
}

// shortly tells evidence for a message.
func shortly(e impl.Evidence) string {
	return fmt.Sprintf("{%.60q boots %d mask %d %.300q log %.300q certs %.300q %.200q}", e.Nonce, e.Boots, e.Mask, e.Shown, e.Log, fmt.Sprint(e.Certs), e.Quote)
}

func sameVerdict(a impl.Verdict, b impl.Verdict) bool {
	return a.Code == b.Code && a.Detail == b.Detail && a.Name == b.Name && slices.Equal(a.Images, b.Images) && a.Token == b.Token
}

// verifierFor lists images as policyFor does; of its nonces n2 is expired, n5, n8 and n11 are open, the first of these just yet.
func verifierFor(images []impl.Image) impl.Verifier {
	return impl.Verifier{Secret: "!v", Root: "(pub !root)", Policy: policyFor(images), Table: tableOf(21, 20, 3, 0)}
}

func withRootKey(v impl.Verifier, key string) impl.Verifier {
	v.Root = key
	return v
}

func withPolicy(v impl.Verifier, p impl.Policy) impl.Verifier {
	v.Policy = p
	return v
}

// spentAt is the Verifier behind the spending of the nonce at a place of Open.
func spentAt(v impl.Verifier, at int) impl.Verifier {
	v.Table = withoutNonce(v.Table, at)
	return v
}

// devCerts endorse the device dev with the secret !k, at the time 100 of tableOf.
func devCerts() []impl.Cert {
	return []impl.Cert{certOf("!root", "maker", "(pub !m)", 20, 100), certOf("!m", "dev", "(pub !k)", 100, 200)}
}

// compositeText is the Composite of what a mask chooses, as the document tells it.
func compositeText(shown []string, mask int64) string {
	if mask == 255 {
		shown = []string{"(hash " + strings.Join(shown, " ") + ")"}
	}
	return "(hash " + nameOf(mask) + " " + strings.Join(shown, " ") + ")"
}

// quoted has the Quote that a secret makes of what stands there.
func quoted(e impl.Evidence, secret string) impl.Evidence {
	e.Quote = "(sign " + secret + " (hash quote " + nameOf(e.Boots) + " " + e.Nonce + " " + compositeText(e.Shown, e.Mask) + "))"
	return e
}

// evidenceOf is what dev shows of a log at its third boot for the nonce n8, as the document tells it.
func evidenceOf(log []impl.Event, mask int64) impl.Evidence {
	return quoted(impl.Evidence{Nonce: nonceText(8), Boots: 3, Mask: mask, Shown: chosenBy(folded(log), mask), Log: logBytes(log), Certs: devCerts()}, "!k")
}

func withNonce(e impl.Evidence, nonce string) impl.Evidence {
	e.Nonce = nonce
	return e
}

func withBoots(e impl.Evidence, boots int64) impl.Evidence {
	e.Boots = boots
	return e
}

func withMask(e impl.Evidence, mask int64) impl.Evidence {
	e.Mask = mask
	return e
}

func withShown(e impl.Evidence, shown []string) impl.Evidence {
	e.Shown = shown
	return e
}

func withLog(e impl.Evidence, log []byte) impl.Evidence {
	e.Log = log
	return e
}

func withCerts(e impl.Evidence, certs ...impl.Cert) impl.Evidence {
	e.Certs = certs
	return e
}

func withQuote(e impl.Evidence, quote string) impl.Evidence {
	e.Quote = quote
	return e
}

func tokenText(secret string, nonce string, name string, boots int64) string {
	return "(sign " + secret + " (hash token " + nonce + " " + name + " " + nameOf(boots) + "))"
}

// trust is the verdict on trusted evidence by !v.
func trust(e impl.Evidence, images []impl.Image) impl.Verdict {
	name := e.Certs[len(e.Certs)-1].Name
	return impl.Verdict{Name: name, Images: images, Token: tokenText("!v", e.Nonce, name, e.Boots)}
}

func expectAppraise(t *testing.T, what string, v impl.Verifier, e impl.Evidence, wantNext impl.Verifier, want impl.Verdict) {
	t.Helper()
	next, got := impl.Appraise(v, e)
	if !sameVerdict(got, want) {
		t.Errorf("%s: appraise %s: got %v, want %v", what, shortly(e), got, want)
	}
	if !sameVerifier(next, wantNext) {
		t.Errorf("%s: the verifier is %v, want %v", what, next, wantNext)
	}
}

// expectSpends: the verdict on evidence for the nonce n8, which is the third one of verifierFor.
func expectSpends(t *testing.T, what string, v impl.Verifier, e impl.Evidence, want impl.Verdict) {
	t.Helper()
	expectAppraise(t, what, v, e, spentAt(v, 2), want)
}

func expectRefused(t *testing.T, what string, v impl.Verifier, e impl.Evidence, code int64, detail int64) {
	t.Helper()
	expectSpends(t, what, v, e, impl.Verdict{Code: code, Detail: detail})
}

// wrongVerifiers are not right, in all the ways that the document has.
func wrongVerifiers() []impl.Verifier {
	right := verifierFor(someImages(3))
	wrong := []impl.Verifier{{}, {Secret: "!v"}, {Root: "(pub !root)"}, {Table: tableOf(1)}}
	for _, secret := range noSecrets {
		own, both := right, right
		own.Secret = secret
		both.Secret, both.Table.Secret = secret, secret
		wrong = append(wrong, own, both)
	}
	for _, secret := range []string{"!w", "!vv", "!root", "!abcdefghijkl"} {
		own, tables := right, right
		own.Secret, tables.Table.Secret = secret, secret
		wrong = append(wrong, own, tables)
	}
	for _, key := range slices.Concat(wrongKeys, longKeys()) {
		wrong = append(wrong, withRootKey(right, key))
	}
	for _, p := range wrongPolicies() {
		wrong = append(wrong, withPolicy(right, p))
	}
	for _, x := range wrongTables() {
		v := right
		v.Secret, v.Table = x.Secret, x
		wrong = append(wrong, v)
	}
	return wrong
}

func rightVerifiers() []impl.Verifier {
	right := []impl.Verifier{verifierFor(nil), verifierFor(someImages(impl.MaxLayer + 1)), {Secret: "!v", Root: "(pub !v)", Table: impl.Table{Secret: "!v"}}}
	for _, x := range rightTables() {
		right = append(right, impl.Verifier{Secret: x.Secret, Root: "(pub !abcdefghijkl)", Policy: aPolicy(), Table: x})
	}
	for _, p := range []impl.Policy{{}, withNumber(aPolicy(), impl.MaxNumber), withRows(aPolicy(), refsOf(impl.MaxRows)...), withWithdrawn(aPolicy(), names(impl.MaxRows)...)} {
		right = append(right, withPolicy(verifierFor(nil), p))
	}
	return right
}

func TestWhatVerifiersAreRight(t *testing.T) {
	for _, v := range rightVerifiers() {
		if !impl.VerifierOk(v) {
			t.Error("it is right", v)
		}
	}
	for _, v := range wrongVerifiers() {
		if impl.VerifierOk(v) {
			t.Error("it is not right", v)
		}
	}
	if !slices.Equal([]int64{impl.VdTrusted, impl.VdBad, impl.VdNonce, impl.VdChain, impl.VdQuote, impl.VdLog, impl.VdReplay, impl.VdMask, impl.VdPolicy}, []int64{0, 1, 2, 3, 4, 5, 6, 7, 8}) {
		t.Error("numbers of the codes")
	}
}

func TestAppraiseByWrongVerifiers(t *testing.T) {
	e := evidenceOf(loadsOf(someImages(3)), 255)
	for _, v := range wrongVerifiers() {
		for _, shown := range []impl.Evidence{e, {}, withNonce(e, nonceText(2)), withCerts(e), withQuote(e, "")} {
			expectAppraise(t, "no verifier", v, shown, impl.Verifier{}, impl.Verdict{Code: impl.VdBad})
		}
	}
}

func expectEvidence(t *testing.T, what string, d impl.Device, nonce string, mask int64, certs []impl.Cert, boots int64) {
	t.Helper()
	want := quoted(impl.Evidence{Nonce: nonce, Boots: boots, Mask: mask, Shown: chosenBy(d.Root.Regs, mask), Log: logBytes(d.Log), Certs: certs}, d.Root.Key)
	if got, ok := impl.EvidenceOf(d, nonce, mask, certs); !ok || !sameEvidence(got, want) {
		t.Errorf("%s: evidence %s %v, want %s", what, shortly(got), ok, shortly(want))
	}
}

func expectNoEvidence(t *testing.T, what string, d impl.Device, nonce string, mask int64, certs []impl.Cert) {
	t.Helper()
	if got, ok := impl.EvidenceOf(d, nonce, mask, certs); ok || !sameEvidence(got, impl.Evidence{}) {
		t.Errorf("%s: evidence %s for %.100q, mask %d", what, shortly(got), nonce, mask)
	}
}

func TestEvidenceOf(t *testing.T) {
	images := someImages(3)
	devices := []impl.Device{upDevice(nil, nil), upDevice(images, loadsOf(images)), upDevice(images, stepsOf(impl.MaxEvents, inTurn)), upDevice(images, nil), withVault(upDevice(images, among(loadsOf(images))), impl.Vault{}), withNamed(upDevice(nil, eventsOfSizes(300, 200)), "abcdefghijkl")}
	certs := [][]impl.Cert{nil, devCerts()[:1], devCerts(), chainOfMany(impl.MaxChain + 1), {{}}, make([]impl.Cert, 30), {devCerts()[1], devCerts()[0]}, {withSign(makerCert(), "A")}}
	for _, d := range devices {
		for mask := int64(1); mask <= 255; mask++ {
			expectEvidence(t, "a mask", d, nonceText(8), mask, devCerts(), 3)
		}
		for _, list := range certs {
			expectEvidence(t, "certs as they are", d, "x", 255, list, 3)
		}
		for _, nonce := range []string{"x", "!v", "reset", "(pair a !b)", "(sign !k (hash a))", nested(impl.MaxDeep-2, "a"), termOf(1000)} {
			expectEvidence(t, "any nonce", d, nonce, 254, devCerts(), 3)
		}
		for _, mask := range []int64{0, -1, 256, 257, math.MinInt64, math.MaxInt64} {
			expectNoEvidence(t, "no mask", d, nonceText(8), mask, devCerts())
		}
		for _, nonce := range append(allNoTerms(), nested(impl.MaxDeep-1, "a"), termOf(impl.MaxTerm)) {
			expectNoEvidence(t, "no nonce", d, nonce, 255, devCerts())
		}
	}
}

func TestEvidenceOfTheBootsThatStand(t *testing.T) {
	for boots, words := range map[int64]impl.Nv{
		0:              twoCopies(copyWords(1, 0, 0), noNv()),
		4:              twoCopies(copyWords(4, 0, 3), copyWords(5, 0, 4)),
		3:              twoCopies(copyWords(4, 0, 3), copyWords(5, 1, 4)),
		impl.MaxNumber: twoCopies(copyWords(1, 0, impl.MaxNumber), noNv()),
	} {
		d := upDevice(nil, idle())
		d.Root.Boots, d.Root.Key = words, "!abcdefghijkl"
		expectEvidence(t, "boots", d, "x", 255, nil, boots)
		expectEvidence(t, "boots", d, "x", 8, nil, boots)
	}
}

func TestEvidenceOfDevicesThatShowNothing(t *testing.T) {
	for _, d := range wrongDevices() {
		for _, mask := range []int64{1, 255} {
			expectNoEvidence(t, "not right", d, "x", mask, devCerts())
		}
	}
	expectNoEvidence(t, "not up", downDevice(), "x", 255, devCerts())
	off := upDevice(someImages(3), loadsOf(someImages(3)))
	off.Root, off.Loaded, off.Log = impl.PowerOff(off.Root), nil, nil
	if !impl.DeviceOk(off) {
		t.Error("it is right", off)
	}
	expectNoEvidence(t, "switched off", off, "x", 255, devCerts())
	// Registers of which there is no Composite, or no Quote.
	deep := upDevice(nil, stepsOf(impl.MaxDeep, inThree))
	long := upDevice(nil, []impl.Event{{Register: 3, Measure: termOf(impl.MaxTerm - len("(hash reset )"))}})
	quoteTooLong := upDevice(nil, []impl.Event{{Register: 3, Measure: termOf(impl.MaxTerm - len("(hash reset )") - 30)}})
	for _, d := range []impl.Device{deep, long, quoteTooLong} {
		if !impl.DeviceOk(d) {
			t.Error("it is right", d)
		}
		expectNoEvidence(t, "no quote", d, "x", 255, nil)
		expectNoEvidence(t, "no quote", d, "x", 8, nil)
		expectEvidence(t, "what is not shown", d, "x", 255-8, nil, 3)
	}
}

func TestTrustedEvidence(t *testing.T) {
	most := someImages(impl.MaxLayer + 1)
	for n := 1; n <= len(most); n++ {
		images := most[:n]
		for _, log := range [][]impl.Event{loadsOf(images), among(loadsOf(images))} {
			e := evidenceOf(log, 255)
			expectSpends(t, "all listed", verifierFor(most), e, trust(e, images))
			expectSpends(t, "just these listed", verifierFor(images), e, trust(e, images))
		}
	}
	images := someImages(2)
	e := evidenceOf(loadsOf(images), 255)
	for _, boots := range []int64{0, 1, 77, impl.MaxNumber - 1, impl.MaxNumber} {
		other := quoted(withBoots(e, boots), "!k")
		expectSpends(t, "boots", verifierFor(images), other, trust(other, images))
	}
	if _, d := impl.Appraise(verifierFor(images), quoted(withBoots(e, impl.MaxNumber), "!k")); d.Token != "(sign !v (hash token (hash !v n8) dev n1000000000))" {
		t.Error("the most boots", d.Token)
	}
	for at, nonce := range []string{nonceText(5), nonceText(8), nonceText(11)} {
		other := quoted(withNonce(e, nonce), "!k")
		expectAppraise(t, "each open nonce", verifierFor(images), other, spentAt(verifierFor(images), at+1), trust(other, images))
	}
	other := verifierFor(images)
	other.Secret, other.Table.Secret = "!abcdefghijkl", "!abcdefghijkl"
	own := quoted(withNonce(e, "(hash !abcdefghijkl n8)"), "!k")
	expectAppraise(t, "another secret", other, own, spentAt(other, 2), impl.Verdict{Name: "dev", Images: images, Token: tokenText("!abcdefghijkl", own.Nonce, "dev", 3)})
}

func TestTrustedByChainsOfAllLengths(t *testing.T) {
	images := someImages(2)
	for n := 1; n <= impl.MaxChain; n++ {
		certs := chainOf(slices.Repeat([][2]int64{{100, 100}}, n)...)
		e := quoted(withCerts(evidenceOf(loadsOf(images), 255), certs...), linkSecret(n))
		want := trust(e, images)
		if want.Name != "a"+nameOf(int64(n-1)) {
			t.Fatal("the last one's name", want.Name)
		}
		expectSpends(t, "a chain", withRootKey(verifierFor(images), linkKey(0)), e, want)
		for i := range n {
			expectRefused(t, "by another one of the chain", withRootKey(verifierFor(images), linkKey(0)), quoted(e, linkSecret(i)), impl.VdQuote, 0)
		}
	}
}

// An unlisting is a Policy by which someImages(3) have a code.
type unlisting struct {
	policy impl.Policy
	detail int64
}

func unlistings() []unlisting {
	images := someImages(3)
	right := policyFor(images)
	all := []unlisting{{impl.Policy{}, impl.PlUnlisted}}
	for at, image := range images {
		later, other, above := slices.Clone(right.Rows), slices.Clone(right.Rows), slices.Clone(right.Rows)
		later[at].Least++
		other[at].Name += "x"
		above[at].Layer += 3
		lacking := slices.Delete(slices.Clone(right.Rows), at, at+1)
		all = append(all, unlisting{withRows(right, later...), impl.PlOld}, unlisting{withRows(right, other...), impl.PlUnlisted}, unlisting{withRows(right, above...), impl.PlUnlisted}, unlisting{withRows(right, lacking...), impl.PlUnlisted})
		all = append(all, unlisting{withWithdrawn(right, measured(int64(at), image)), impl.PlWithdrawn})
	}
	return all
}

func TestRefusedByPolicy(t *testing.T) {
	images := someImages(3)
	for _, u := range unlistings() {
		for _, log := range [][]impl.Event{loadsOf(images), among(loadsOf(images))} {
			expectSpends(t, "not listed", withPolicy(verifierFor(nil), u.policy), evidenceOf(log, 255), impl.Verdict{Code: impl.VdPolicy, Detail: u.detail, Name: "dev", Images: images})
		}
	}
	for _, log := range [][]impl.Event{nil, idle(), stepsOf(impl.MaxEvents, inTurn)} {
		expectSpends(t, "nothing loaded", verifierFor(images), evidenceOf(log, 255), impl.Verdict{Code: impl.VdPolicy, Detail: impl.PlNone, Name: "dev"})
	}
	most := someImages(impl.MaxLayer + 1)
	expectSpends(t, "the last of the most", verifierFor(most[:impl.MaxLayer]), evidenceOf(loadsOf(most), 255), impl.Verdict{Code: impl.VdPolicy, Detail: impl.PlUnlisted, Name: "dev", Images: most})
	withdrawnElsewhere := withPolicy(verifierFor(nil), withWithdrawn(policyFor(images), measured(0, images[1])))
	expectSpends(t, "withdrawn as another layer", withdrawnElsewhere, evidenceOf(loadsOf(images), 255), trust(evidenceOf(nil, 255), images))
}

func TestRefusedByNonce(t *testing.T) {
	images := someImages(3)
	v, e := verifierFor(images), evidenceOf(loadsOf(images), 255)
	for _, nonce := range append(allNoTerms(), "n8", "x", "(hash !v n3)", "(hash !v n90)", "(hash !w n8)", "(hash !v n08)", "(pair !v n8)", "(hash (hash !v n8))") {
		for _, shown := range []impl.Evidence{quoted(withNonce(e, nonce), "!k"), withNonce(e, nonce), {Nonce: nonce}} {
			expectAppraise(t, "unknown", v, shown, v, impl.Verdict{Code: impl.VdNonce, Detail: impl.NcUnknown})
		}
	}
	for _, shown := range []impl.Evidence{quoted(withNonce(e, nonceText(2)), "!k"), withNonce(e, nonceText(2)), {Nonce: nonceText(2)}} {
		expectAppraise(t, "expired", v, shown, v, impl.Verdict{Code: impl.VdNonce, Detail: impl.NcExpired})
	}
	next, verdict := impl.Appraise(v, e)
	if verdict.Code != impl.VdTrusted {
		t.Error("trusted once", verdict)
	}
	expectAppraise(t, "spent", next, e, next, impl.Verdict{Code: impl.VdNonce, Detail: impl.NcUnknown})
	old := v
	old.Table.Now++
	young := quoted(withNonce(e, nonceText(5)), "!k")
	expectAppraise(t, "expired by a tick", old, young, old, impl.Verdict{Code: impl.VdNonce, Detail: impl.NcExpired})
	expectAppraise(t, "at MaxAge", v, young, spentAt(v, 1), trust(young, images))
}

func TestRefusedByChain(t *testing.T) {
	images := someImages(3)
	v, e := verifierFor(images), evidenceOf(loadsOf(images), 255)
	right := devCerts()
	expectRefused(t, "none", v, withCerts(e), impl.VdChain, impl.CeMany)
	expectRefused(t, "too many", v, withCerts(e, make([]impl.Cert, impl.MaxChain+1)...), impl.VdChain, impl.CeMany)
	for _, c := range []struct {
		what   string
		certs  []impl.Cert
		detail int64
	}{
		{"the device alone", right[1:], impl.CeSign},
		{"turned", []impl.Cert{right[1], right[0]}, impl.CeSign},
		{"not formed", withCert(right, 1, impl.Cert{}), impl.CeForm},
		{"the first not formed", withCert(right, 0, withName(right[0], "A")), impl.CeForm},
		{"another key", withCert(right, 1, withKey(right[1], "(pub !o)")), impl.CeSign},
		{"another name", withCert(right, 1, withName(right[1], "box")), impl.CeSign},
		{"not begun", withCert(right, 1, signed(withTimes(right[1], 101, 200), "!m")), impl.CeEarly},
		{"the first not begun", withCert(right, 0, signed(withTimes(right[0], 101, 200), "!root")), impl.CeEarly},
		{"over", withCert(right, 1, signed(withTimes(right[1], 0, 99), "!m")), impl.CeLate},
		{"the first over", withCert(right, 0, signed(withTimes(right[0], 0, 99), "!root")), impl.CeLate},
		{"both", []impl.Cert{signed(withTimes(right[0], 101, 200), "!root"), {}}, impl.CeEarly},
	} {
		expectRefused(t, c.what, v, withCerts(e, c.certs...), impl.VdChain, c.detail)
	}
	expectRefused(t, "another root", withRootKey(v, "(pub !m)"), e, impl.VdChain, impl.CeSign)
	expectRefused(t, "the device's key as root", withRootKey(v, "(pub !k)"), e, impl.VdChain, impl.CeSign)
	later := v
	later.Table.Now = 101
	expectRefused(t, "over at the next tick", later, e, impl.VdChain, impl.CeLate)
}

// Whose the last Cert is, that is who the evidence is of.
func TestChainsOfOtherDevices(t *testing.T) {
	images := someImages(3)
	v, e := verifierFor(images), evidenceOf(loadsOf(images), 255)
	other := certOf("!m", "box", "(pub !o)", 0, 200)
	expectRefused(t, "another one's name and key", v, withCerts(e, devCerts()[0], other), impl.VdQuote, 0)
	expectRefused(t, "its name, another one's key", v, withCerts(e, devCerts()[0], certOf("!m", "dev", "(pub !o)", 0, 200)), impl.VdQuote, 0)
	expectRefused(t, "without its own", v, withCerts(e, devCerts()[0]), impl.VdQuote, 0)
	named := withCerts(e, devCerts()[0], certOf("!m", "box", "(pub !k)", 0, 200))
	expectSpends(t, "another name, its key", v, named, trust(named, images))
	theirs := quoted(withCerts(e, devCerts()[0], other), "!o")
	expectSpends(t, "all another one's", v, theirs, trust(theirs, images))
}

func TestRefusedByQuote(t *testing.T) {
	images := someImages(3)
	v := verifierFor(images)
	for _, mask := range []int64{1, 7, 254, 255} {
		e := evidenceOf(loadsOf(images), mask)
		for _, secret := range []string{"!o", "!m", "!root", "!v", "!kk"} {
			expectRefused(t, "by another secret", v, quoted(e, secret), impl.VdQuote, 0)
		}
		for _, boots := range []int64{0, 2, 4, 30, impl.MaxNumber} {
			expectRefused(t, "of other boots", v, withBoots(e, boots), impl.VdQuote, 0)
			expectRefused(t, "of other boots", v, withQuote(e, quoted(withBoots(e, boots), "!k").Quote), impl.VdQuote, 0)
		}
		for _, nonce := range []string{nonceText(5), nonceText(11), nonceText(9), "x", "(hash !w n8)"} {
			expectRefused(t, "of another nonce", v, withQuote(e, quoted(withNonce(e, nonce), "!k").Quote), impl.VdQuote, 0)
		}
		told, composite := impl.PartsOf(e.Quote)[1], compositeText(e.Shown, mask)
		for _, quote := range append(allNoTerms(), "x", "!k", "(pub !k)", told, composite, "(sign !k "+composite+")", "(pair !k "+told+")", "(sign !k "+e.Quote+")", "(sign !k (hash quote n3 "+e.Nonce+"))", "(sign !k (hash token n3 "+e.Nonce+" "+composite+"))", "(sign !k (hash quote "+e.Nonce+" n3 "+composite+"))", "(sign !k (hash quote n03 "+e.Nonce+" "+composite+"))", e.Quote+" ", " "+e.Quote, e.Quote[1:]) {
			expectRefused(t, "another quote", v, withQuote(e, quote), impl.VdQuote, 0)
		}
		for at := range len(e.Quote) {
			turned := []byte(e.Quote)
			turned[at] ^= 1
			expectRefused(t, "a byte turned", v, withQuote(e, string(turned)), impl.VdQuote, 0)
		}
	}
	e := evidenceOf(loadsOf(images), 255)
	for _, boots := range wrongNumbers {
		other := withBoots(e, boots)
		for _, quote := range []string{e.Quote, "", quoted(other, "!k").Quote, strings.Replace(e.Quote, "n3", "n-1", 1), strings.Replace(e.Quote, "n3", "n1000000001", 1)} {
			expectRefused(t, "no boots", v, withQuote(other, quote), impl.VdQuote, 0)
		}
	}
}

// What is shown may not be what is quoted: a register, their order, their count.
func TestRefusedByQuoteOfOtherRegisters(t *testing.T) {
	images := someImages(3)
	v := verifierFor(images)
	for _, mask := range []int64{3, 7, 127, 254, 255} {
		e := evidenceOf(loadsOf(images), mask)
		for at, reg := range e.Shown {
			for _, other := range append(allNoTerms(), "other", "(hash "+reg+")", "(hash "+reg+" a)", reg+" "+reg, reg+"x") {
				shown := slices.Clone(e.Shown)
				shown[at] = other
				expectRefused(t, "another register", v, withShown(e, shown), impl.VdQuote, 0)
				if impl.KindOf(other) == 0 {
					expectRefused(t, "no register, and quoted so", v, quoted(withShown(e, shown), "!k"), impl.VdQuote, 0)
				}
			}
		}
		turned := slices.Clone(e.Shown)
		slices.Reverse(turned)
		more, fewer := append(slices.Clone(e.Shown), "reset"), e.Shown[:len(e.Shown)-1]
		for _, shown := range [][]string{turned, more, fewer, e.Shown[1:], nil, {"reset"}, {strings.Join(e.Shown, " ")}, make([]string, 8), make([]string, 1000)} {
			expectRefused(t, "other registers", v, withShown(e, shown), impl.VdQuote, 0)
			if len(shown) != len(e.Shown) {
				expectRefused(t, "not as many, and quoted so", v, quoted(withShown(e, shown), "!k"), impl.VdQuote, 0)
			}
		}
	}
}

func TestRefusedByQuoteOfOtherMasks(t *testing.T) {
	images := someImages(3)
	v := verifierFor(images)
	for _, mask := range []int64{1, 3, 128, 254, 255} {
		e := evidenceOf(loadsOf(images), mask)
		for _, other := range []int64{-1, 0, 256, 257, -255, 511, mask + 256, math.MinInt64, math.MaxInt64} {
			expectRefused(t, "no mask", v, withMask(e, other), impl.VdQuote, 0)
			expectRefused(t, "no mask, and quoted so", v, quoted(withMask(e, other), "!k"), impl.VdQuote, 0)
		}
		for other := int64(1); other <= 255; other++ {
			if other == mask {
				continue
			}
			expectRefused(t, "another mask", v, withMask(e, other), impl.VdQuote, 0)
			if len(chosenBy(impl.Cleared(), other)) != len(e.Shown) {
				expectRefused(t, "not as many, and quoted so", v, quoted(withMask(e, other), "!k"), impl.VdQuote, 0)
			} else {
				// Who has the secret can say so, but the log tells of other registers; of cleared ones it doesn't.
				want := impl.Verdict{Code: impl.VdReplay, Detail: impl.RpFold}
				if slices.Equal(chosenBy(folded(loadsOf(images)), other), e.Shown) {
					want = impl.Verdict{Code: impl.VdMask}
				}
				expectSpends(t, "as many, and quoted so", v, quoted(withMask(e, other), "!k"), want)
			}
		}
	}
	deep, long := nested(impl.MaxDeep, "a"), termOf(impl.MaxTerm)
	for _, reg := range []string{deep, long, nested(impl.MaxDeep-2, "a"), termOf(impl.MaxTerm - 30)} {
		e := quoted(withShown(evidenceOf(nil, 1), []string{reg}), "!k")
		expectRefused(t, "no composite, or no quote", v, e, impl.VdQuote, 0)
	}
}

func TestRefusedByLog(t *testing.T) {
	images := someImages(3)
	v := verifierFor(images)
	for _, mask := range []int64{1, 255} {
		e := evidenceOf(loadsOf(images), mask)
		for _, c := range []struct {
			what   string
			log    []byte
			detail int64
		}{
			{"none", nil, impl.LgStart},
			{"empty", []byte{}, impl.LgStart},
			{"another start", append([]byte{76, 81}, e.Log[2:]...), impl.LgStart},
			{"the start alone", e.Log[:2], impl.LgShort},
			{"the last byte lacks", e.Log[:len(e.Log)-1], impl.LgShort},
			{"a byte too many", append(slices.Clone(e.Log), 0), impl.LgMore},
			{"a log behind it", append(slices.Clone(e.Log), e.Log...), impl.LgMore},
			{"a number too long", logWith(longer(3), e.Log[3:]), impl.LgNumber},
			{"too many events", logWith(impl.MaxEvents+1, e.Log[3:]), impl.LgMany},
			{"no register", logWith(3, 8, e.Log[4:]), impl.LgRegister},
			{"no term", logWith(1, 0, 1, "A"), impl.LgTerm},
			{"too long", make([]byte, impl.MaxLogged+1), impl.LgLong},
		} {
			expectRefused(t, c.what, v, withLog(e, c.log), impl.VdLog, c.detail)
		}
	}
}

func TestRefusedByReplay(t *testing.T) {
	images := someImages(3)
	v := verifierFor(images)
	loads := loadsOf(images)
	swapped := []impl.Event{loads[1], loads[0], loads[2]}
	elsewhere := slices.Clone(loads)
	elsewhere[1].Register = 5
	for _, mask := range []int64{1, 7, 255} {
		e := evidenceOf(loads, mask)
		for _, c := range []struct {
			what   string
			log    []impl.Event
			detail int64
		}{
			{"no event", nil, impl.RpFold},
			{"another version", loadsOf(withImage(images, 0, impl.Image{Name: "n0", Version: 101})), impl.RpFold},
			{"one more in a register that is shown", append(slices.Clone(loads), impl.Event{Register: 0, Measure: "a"}), impl.RpFold},
			{"the first one left out", loads[1:], impl.RpLayer},
			{"two swapped", swapped, impl.RpLayer},
			{"another register", elsewhere, impl.RpRegister},
			{"what does not fold", stepsOf(impl.MaxEvents, inThree), impl.RpFold},
		} {
			expectRefused(t, c.what, v, withLog(e, logBytes(c.log)), impl.VdReplay, c.detail)
		}
		// The registers themselves may be those of such a log.
		expectRefused(t, "two swapped", v, evidenceOf(swapped, mask), impl.VdReplay, impl.RpLayer)
		expectRefused(t, "another register", v, evidenceOf(elsewhere, mask), impl.VdReplay, impl.RpRegister)
	}
}

func TestRefusedByMask(t *testing.T) {
	images := someImages(3)
	for mask := int64(1); mask < 255; mask++ {
		for _, log := range [][]impl.Event{loadsOf(images), nil, idle()} {
			expectRefused(t, "a mask", verifierFor(images), evidenceOf(log, mask), impl.VdMask, 0)
		}
	}
	hidden := withLog(evidenceOf(loadsOf(images), 3), logBytes(loadsOf(images[:2])))
	expectRefused(t, "a load that is not shown", verifierFor(images[:2]), hidden, impl.VdMask, 0)
}

// A fault of evidence, or of a verifier for it; it says what is wrong ahead of the quoting, or behind it.
type fault struct {
	code, detail int64
	ahead        func(v *impl.Verifier, e *impl.Evidence)
	behind       func(e *impl.Evidence)
}

func nothingWrong(v *impl.Verifier, e *impl.Evidence) {}

func nothingBehind(e *impl.Evidence) {}

// faultsByCode has for each code, in order, some faults; those that are done behind others leave them be.
func faultsByCode() [][]fault {
	in := func(code int64, detail int64, wrong func(v *impl.Verifier, e *impl.Evidence)) fault {
		return fault{code, detail, wrong, nothingBehind}
	}
	images := someImages(3)
	certs := devCerts()
	early := signed(withTimes(certs[1], 101, 200), "!m")
	return [][]fault{
		{in(impl.VdBad, 0, func(v *impl.Verifier, e *impl.Evidence) { v.Root = "!root" }), in(impl.VdBad, 0, func(v *impl.Verifier, e *impl.Evidence) { v.Secret = "!w" }), in(impl.VdBad, 0, func(v *impl.Verifier, e *impl.Evidence) { v.Policy.Number = -1 })},
		{in(impl.VdNonce, impl.NcUnknown, func(v *impl.Verifier, e *impl.Evidence) { e.Nonce = nonceText(9) }), in(impl.VdNonce, impl.NcExpired, func(v *impl.Verifier, e *impl.Evidence) { e.Nonce = nonceText(2) }), in(impl.VdNonce, impl.NcUnknown, func(v *impl.Verifier, e *impl.Evidence) { v.Table = withoutNonce(v.Table, 2) })},
		{in(impl.VdChain, impl.CeMany, func(v *impl.Verifier, e *impl.Evidence) { e.Certs = nil }), in(impl.VdChain, impl.CeForm, func(v *impl.Verifier, e *impl.Evidence) { e.Certs = withCert(certs, 0, impl.Cert{}) }), in(impl.VdChain, impl.CeSign, func(v *impl.Verifier, e *impl.Evidence) { v.Root = "(pub !o)" }), in(impl.VdChain, impl.CeEarly, func(v *impl.Verifier, e *impl.Evidence) { e.Certs = withCert(certs, 1, early) })},
		{{impl.VdQuote, 0, nothingWrong, func(e *impl.Evidence) { e.Quote = "a" }}, {impl.VdQuote, 0, nothingWrong, func(e *impl.Evidence) { e.Boots++ }}, {impl.VdQuote, 0, nothingWrong, func(e *impl.Evidence) { e.Mask = 0 }}, {impl.VdQuote, 0, nothingWrong, func(e *impl.Evidence) { e.Shown = e.Shown[1:] }}, {impl.VdQuote, 0, nothingWrong, func(e *impl.Evidence) { e.Shown = append([]string{"x"}, e.Shown[1:]...) }}},
		{in(impl.VdLog, impl.LgShort, func(v *impl.Verifier, e *impl.Evidence) { e.Log = e.Log[:len(e.Log)-1] }), in(impl.VdLog, impl.LgMore, func(v *impl.Verifier, e *impl.Evidence) { e.Log = append(slices.Clone(e.Log), 7) })},
		{in(impl.VdReplay, impl.RpFold, func(v *impl.Verifier, e *impl.Evidence) {
			e.Log = logBytes(loadsOf(withImage(images, 0, impl.Image{Name: "n0", Version: 7})))
		}), in(impl.VdReplay, impl.RpLayer, func(v *impl.Verifier, e *impl.Evidence) { e.Log = logBytes(loadsOf(images)[1:]) })},
		{in(impl.VdMask, 0, func(v *impl.Verifier, e *impl.Evidence) { *e = withShown(withMask(*e, 1), e.Shown[:1]) }), in(impl.VdMask, 0, func(v *impl.Verifier, e *impl.Evidence) { *e = withShown(withMask(*e, 127), e.Shown[:7]) })},
		{in(impl.VdPolicy, impl.PlUnlisted, func(v *impl.Verifier, e *impl.Evidence) { v.Policy.Rows = v.Policy.Rows[1:] }), in(impl.VdPolicy, impl.PlOld, func(v *impl.Verifier, e *impl.Evidence) {
			v.Policy.Rows = policyFor(images).Rows
			v.Policy.Rows[2].Least++
		}), in(impl.VdPolicy, impl.PlWithdrawn, func(v *impl.Verifier, e *impl.Evidence) { v.Policy.Withdrawn = []string{measured(1, images[1])} })},
	}
}

// Of any faults that hold at once, the one with the least code is told, and all that is beside it.
func TestFaultsThatHoldAtOnce(t *testing.T) {
	r := rand.New(rand.NewSource(51))
	images := someImages(3)
	byCode := faultsByCode()
	for which := range 1 << len(byCode) {
		for range 12 {
			v, e := verifierFor(images), evidenceOf(loadsOf(images), 255)
			var faults []fault
			for at, some := range byCode {
				if which>>at&1 == 1 {
					faults = append(faults, some[r.Intn(len(some))])
				}
			}
			for _, f := range slices.Backward(faults) {
				f.ahead(&v, &e)
			}
			e = quoted(e, "!k")
			for _, f := range faults {
				f.behind(&e)
			}
			expectFirstOf(t, v, e, faults)
		}
	}
}

func expectFirstOf(t *testing.T, v impl.Verifier, e impl.Evidence, faults []fault) {
	t.Helper()
	images := someImages(3)
	if len(faults) == 0 {
		expectSpends(t, "no fault", v, e, trust(e, images))
		return
	}
	want := impl.Verdict{Code: faults[0].code, Detail: faults[0].detail}
	switch want.Code {
	case impl.VdBad:
		expectAppraise(t, "no verifier", v, e, impl.Verifier{}, want)
	case impl.VdNonce:
		expectAppraise(t, "ahead of the spending", v, e, v, want)
	case impl.VdPolicy:
		want.Name, want.Images = "dev", images
		expectSpends(t, "the policy", v, e, want)
	default:
		expectSpends(t, "behind the spending", v, e, want)
	}
}

func TestWhatSpendsTheNonce(t *testing.T) {
	images := someImages(3)
	good := evidenceOf(loadsOf(images), 255)
	for _, some := range faultsByCode()[2:] {
		for _, f := range some {
			v, e := verifierFor(images), good
			f.ahead(&v, &e)
			e = quoted(e, "!k")
			f.behind(&e)
			next, verdict := impl.Appraise(v, e)
			if verdict.Code != f.code || !impl.VerifierOk(next) {
				t.Error("the fault", f.code, verdict)
			}
			expectAppraise(t, "behind the fault", next, good, next, impl.Verdict{Code: impl.VdNonce, Detail: impl.NcUnknown})
			expect(t, "the others", impl.OpenNow(next.Table), nonceTexts(5, 11)...)
		}
	}
}

// turnedBytes has for each place of some bytes another byte there, of several.
func turnedBytes(data []byte) [][]byte {
	var all [][]byte
	for at := range data {
		for _, by := range []byte{1, 2, 4, 32, 128, 255} {
			turned := slices.Clone(data)
			turned[at] ^= by
			all = append(all, turned)
		}
	}
	return all
}

func TestLogsWithAByteTurned(t *testing.T) {
	images := someImages(3)
	v := verifierFor(images)
	for _, log := range [][]impl.Event{loadsOf(images), among(loadsOf(images))} {
		e := evidenceOf(log, 255)
		for _, turned := range turnedBytes(e.Log) {
			want := impl.Verdict{Code: impl.VdReplay, Detail: impl.RpFold}
			events, code, _ := impl.ReadLog(turned)
			if code != 0 {
				want = impl.Verdict{Code: impl.VdLog, Detail: code}
			} else if _, code, _ := replayImages(events); code != 0 {
				want.Detail = code
			}
			expectSpends(t, "a byte turned", v, withLog(e, turned), want)
		}
		for at := range e.Log {
			if _, verdict := impl.Appraise(v, withLog(e, slices.Delete(slices.Clone(e.Log), at, at+1))); verdict.Code == impl.VdTrusted {
				t.Error("a byte left out", at)
			}
			if _, verdict := impl.Appraise(v, withLog(e, e.Log[:at])); verdict.Code == impl.VdTrusted {
				t.Error("bytes left out", at)
			}
		}
	}
}

// endorsed is a chain for a device by !root, at all times.
func endorsed(d impl.Device) []impl.Cert {
	return []impl.Cert{certOf("!root", "maker", "(pub !m)", 0, impl.MaxNumber), certOf("!m", d.Name, "(pub "+d.Root.Key+")", 0, impl.MaxNumber)}
}

// asked is a new Verifier that lists images, and its first nonce.
func asked(t *testing.T, images []impl.Image) (impl.Verifier, string) {
	t.Helper()
	v := verifierFor(images)
	table, nonce, code := impl.Challenge(impl.Table{Secret: "!v"})
	if code != impl.NcOk {
		t.Fatal("it is not busy", code)
	}
	v.Table = table
	return v, nonce
}

// startedDevice was reset some times, loaded images, and noted this and that between them.
func startedDevice(t *testing.T, r *rand.Rand, images []impl.Image) impl.Device {
	t.Helper()
	d, _ := impl.DeviceNew("dev", "!k")
	for range 1 + r.Intn(4) {
		d, _ = impl.Restart(d, r.Int63n(9))
	}
	d, code := impl.Restart(d, 100)
	for _, image := range images {
		if code == 0 {
			d, code = impl.Load(d, image)
		}
		if r.Intn(3) == 0 && code == 0 {
			d, code = impl.Note(d, r.Int63n(8), "(pair "+someTerm(r, 1)+" x)") // which looks like no load
		}
	}
	if code != 0 {
		t.Fatal("it starts", d, code)
	}
	return d
}

// Promise 13: a device that shows what is is trusted when all it loaded is listed; and not when that is changed.
func TestTrustInDevices(t *testing.T) {
	r := rand.New(rand.NewSource(52))
	for range 150 {
		images := someImages(1 + r.Intn(6))
		d := startedDevice(t, r, images)
		v, nonce := asked(t, images)
		e, ok := impl.EvidenceOf(d, nonce, 255, endorsed(d))
		if !ok {
			t.Fatal("it shows itself", d)
		}
		expectAppraise(t, "all listed", v, e, spentAt(v, 0), trust(e, images))
		expectNotTrusted(t, "without the last one", withPolicy(v, policyFor(images[:len(images)-1])), e)
		for _, mask := range []int64{1, 1 + r.Int63n(254), 254} {
			part, ok := impl.EvidenceOf(d, nonce, mask, endorsed(d))
			if !ok {
				t.Fatal("it shows itself", d, mask)
			}
			expectAppraise(t, "a part", v, part, spentAt(v, 0), impl.Verdict{Code: impl.VdMask})
		}
		expectChangesNotTrusted(t, r, v, e)
	}
}

func expectNotTrusted(t *testing.T, what string, v impl.Verifier, e impl.Evidence) {
	t.Helper()
	if _, verdict := impl.Appraise(v, e); verdict.Code == impl.VdTrusted || verdict.Token != "" {
		t.Errorf("%s: %s is trusted", what, shortly(e))
	}
}

func expectChangesNotTrusted(t *testing.T, r *rand.Rand, v impl.Verifier, e impl.Evidence) {
	t.Helper()
	for _, boots := range []int64{e.Boots - 1, e.Boots + 1, 0, r.Int63n(impl.MaxNumber), -1} {
		if boots != e.Boots {
			expectNotTrusted(t, "boots", v, withBoots(e, boots))
		}
	}
	for at := range e.Shown {
		for _, reg := range []string{"x", "(hash " + e.Shown[at] + " x)", "", someTerm(r, 3)} {
			shown := slices.Clone(e.Shown)
			shown[at] = reg
			expectNotTrusted(t, "a register", v, withShown(e, shown))
		}
	}
	for range 20 {
		quote := []byte(e.Quote)
		quote[r.Intn(len(quote))] ^= byte(1 + r.Intn(255))
		expectNotTrusted(t, "the quote", v, withQuote(e, string(quote)))
		log := slices.Clone(e.Log)
		log[r.Intn(len(log))] ^= byte(1 + r.Intn(255))
		expectNotTrusted(t, "the log", v, withLog(e, log))
		expectNotTrusted(t, "the mask", v, withMask(e, r.Int63n(255)))
	}
	expectNotTrusted(t, "the nonce", v, withNonce(e, nonceText(1)))
	expectNotTrusted(t, "another one's certs", v, withCerts(e, devCerts()[0]))
}

// A new boot counts, so what was shown ahead of it can't be quoted for a later one.
func TestEvidenceIsOfItsBoot(t *testing.T) {
	images := someImages(2)
	v, nonce := asked(t, images)
	d := startedDevice(t, rand.New(rand.NewSource(53)), images)
	before, _ := impl.EvidenceOf(d, nonce, 255, endorsed(d))
	d, _ = impl.Restart(d, 100)
	empty, _ := impl.EvidenceOf(d, nonce, 255, endorsed(d))
	if empty.Boots != before.Boots+1 {
		t.Error("boots", before.Boots, empty.Boots)
	}
	expectAppraise(t, "nothing loaded yet", v, empty, spentAt(v, 0), impl.Verdict{Code: impl.VdPolicy, Detail: impl.PlNone, Name: "dev"})
	expectNotTrusted(t, "the old state for the new boot", v, withBoots(before, empty.Boots))
	mixed := empty
	mixed.Log, mixed.Shown = before.Log, before.Shown
	expectNotTrusted(t, "the old log for the new quote", v, mixed)
	expectAppraise(t, "the old one, as it was", v, before, spentAt(v, 0), trust(before, images))
}

// Replay asks what the log folds to and loads; events of unlike registers may stand in another order, where they keep to that.
func TestOrderOfNotesInTrustedLogs(t *testing.T) {
	images := someImages(2)
	loads, note := loadsOf(images), impl.Event{Register: 5, Measure: "x"}
	e := evidenceOf([]impl.Event{loads[0], note, loads[1]}, 255)
	for _, log := range [][]impl.Event{{note, loads[0], loads[1]}, {loads[0], loads[1], note}} {
		expectSpends(t, "a note elsewhere", verifierFor(images), withLog(e, logBytes(log)), trust(e, images))
	}
	for _, log := range [][]impl.Event{loads, {loads[0], note, note, loads[1]}, {loads[0], {Register: 6, Measure: "x"}, loads[1]}} {
		expectRefused(t, "another note", verifierFor(images), withLog(e, logBytes(log)), impl.VdReplay, impl.RpFold)
	}
	like := []impl.Event{loads[0], {Register: 5, Measure: "(hash n1 x n1)"}, loads[1]}
	expectRefused(t, "a note that looks like a load", verifierFor(images), evidenceOf(like, 255), impl.VdReplay, impl.RpRegister)
}
