package tests

import (
	"math"
	"math/rand"
	"slices"
	"strings"
	"testing"

	"loop.example/g00082/impl"
)

// signOver is the Sign of a Cert, as the document tells it.
func signOver(secret string, c impl.Cert) string {
	return "(sign " + secret + " (hash cert " + c.Name + " " + c.Key + " " + nameOf(c.From) + " " + nameOf(c.Until) + "))"
}

func certOf(secret string, name string, key string, from int64, until int64) impl.Cert {
	c := impl.Cert{Name: name, Key: key, From: from, Until: until}
	c.Sign = signOver(secret, c)
	return c
}

// makerCert is a right one, by !root.
func makerCert() impl.Cert {
	return certOf("!root", "maker", "(pub !m)", 20, 90)
}

func withName(c impl.Cert, name string) impl.Cert {
	c.Name = name
	return c
}

func withKey(c impl.Cert, key string) impl.Cert {
	c.Key = key
	return c
}

func withTimes(c impl.Cert, from int64, until int64) impl.Cert {
	c.From, c.Until = from, until
	return c
}

func withSign(c impl.Cert, sign string) impl.Cert {
	c.Sign = sign
	return c
}

// signed has the Sign that a secret makes of what stands there.
func signed(c impl.Cert, secret string) impl.Cert {
	return withSign(c, signOver(secret, c))
}

var wrongNames = []string{"", "A", "9a", "abcdefghijklm", "!maker", "(hash maker)", "a b", " a", "a ", "a\n"}

var wrongKeys = []string{"", "pub", "(pub", "(pub !m", "(pub m)", "(pub !)", "(pub !M)", "(pub !m !m)", "(pub !abcdefghijklm)", "(pub (pub !m))", "(pub !m) ", " (pub !m)", "(pub  !m)", "(pub !m)(pub !m)", "(pub !m) (pub !m)", "m", "!m", "(hash (pub !m))", "(hash !m)", "(pair (pub !m) (pub !m))", "(sign !m (pub !m))", "(seal (pub !m) (pub !m))"}

var wrongTimes = [][2]int64{{-1, 90}, {-1, -1}, {math.MinInt64, 90}, {91, 90}, {90, 20}, {1, 0}, {20, impl.MaxNumber + 1}, {20, math.MaxInt64}, {impl.MaxNumber + 1, impl.MaxNumber + 1}, {math.MaxInt64, math.MaxInt64}, {math.MinInt64, math.MaxInt64}, {math.MaxInt64, math.MinInt64}, {20, math.MinInt64}, {0, -1}, {impl.MaxNumber, impl.MaxNumber - 1}}

var rightTimes = [][2]int64{{0, 0}, {0, 1}, {20, 90}, {20, 20}, {0, impl.MaxNumber}, {impl.MaxNumber - 1, impl.MaxNumber}, {impl.MaxNumber, impl.MaxNumber}}

var noSecrets = []string{"", "root", "!", "!!root", "!Root", "(pub !root)", "(hash !root)", "!abcdefghijklm", "!root ", " !root", "!root !root", "(sign !root a)"}

func longKeys() []string {
	return []string{termOf(impl.MaxTerm), termOf(impl.MaxTerm - 60), termOf(impl.MaxTerm + 1), nested(impl.MaxDeep, "!m"), nested(impl.MaxDeep+1, "!m"), "(pub !" + strings.Repeat("m", impl.MaxTerm-len("(pub !)")) + ")", "(pub " + termOf(impl.MaxTerm) + ")"}
}

// unformedCerts are not formed, in all the ways that the document has, though !root signed what stands there.
func unformedCerts() []impl.Cert {
	right := makerCert()
	wrong := []impl.Cert{{}}
	for _, name := range wrongNames {
		wrong = append(wrong, signed(withName(right, name), "!root"), withName(right, name))
	}
	for _, key := range slices.Concat(wrongKeys, longKeys()) {
		wrong = append(wrong, signed(withKey(right, key), "!root"), withKey(right, key))
	}
	for _, span := range wrongTimes {
		wrong = append(wrong, signed(withTimes(right, span[0], span[1]), "!root"), withTimes(right, span[0], span[1]))
	}
	for _, sign := range []string{"", "A", "a b", "(sign !root", "(sign root a)", right.Sign + " ", " " + right.Sign, right.Sign[1:], right.Sign + ")", nested(impl.MaxDeep+1, "a"), termOf(impl.MaxTerm + 1)} {
		wrong = append(wrong, withSign(right, sign))
	}
	return wrong
}

func expectCertBy(t *testing.T, secret string, name string, key string, from int64, until int64, there bool) {
	t.Helper()
	want := impl.Cert{}
	if there {
		want = certOf(secret, name, key, from, until)
	}
	if got, ok := impl.CertBy(secret, name, key, from, until); got != want || ok != there {
		t.Errorf("cert by %q for %q %.200q %d %d: got %.200v %v, want %.200v", secret, name, key, from, until, got, ok, want)
	}
}

func TestCertBy(t *testing.T) {
	if c, ok := impl.CertBy("!root", "maker", "(pub !m)", 2, 9); !ok || c != (impl.Cert{Name: "maker", Key: "(pub !m)", From: 2, Until: 9, Sign: "(sign !root (hash cert maker (pub !m) n2 n9))"}) {
		t.Error(c, ok)
	}
	for _, secret := range []string{"!root", "!m", "!abcdefghijkl", "!n1"} {
		for _, name := range []string{"a", "maker", "abcdefghijkl", "cert", "n5", "z9"} {
			for _, key := range []string{"(pub !m)", "(pub !root)", "(pub !abcdefghijkl)"} {
				for _, span := range rightTimes {
					expectCertBy(t, secret, name, key, span[0], span[1], true)
				}
			}
		}
	}
}

func TestCertByWrongArguments(t *testing.T) {
	for _, secret := range noSecrets {
		expectCertBy(t, secret, "maker", "(pub !m)", 20, 90, false)
	}
	for _, name := range wrongNames {
		expectCertBy(t, "!root", name, "(pub !m)", 20, 90, false)
	}
	for _, key := range slices.Concat(wrongKeys, longKeys()) {
		expectCertBy(t, "!root", "maker", key, 20, 90, false)
	}
	for _, span := range wrongTimes {
		expectCertBy(t, "!root", "maker", "(pub !m)", span[0], span[1], false)
	}
	// What has the parts of a Cert in another text.
	expectCertBy(t, "!root", "maker (pub !m) n20 n90", "", 20, 90, false)
	expectCertBy(t, "!root", "maker (pub !m)", "(pub !m)", 20, 90, false)
	expectCertBy(t, "!root (hash a)", "maker", "(pub !m)", 20, 90, false)
	expectCertBy(t, "", "", "", 0, 0, false)
}

func expectCheck(t *testing.T, what string, c impl.Cert, issuer string, now int64, want int64) {
	t.Helper()
	if got := impl.CheckCert(c, issuer, now); got != want {
		t.Errorf("%s: %.300v by %.200q at %d: got %d, want %d", what, c, issuer, now, got, want)
	}
}

func TestCheckCertAtItsTimes(t *testing.T) {
	if !slices.Equal([]int64{impl.CeOk, impl.CeForm, impl.CeSign, impl.CeEarly, impl.CeLate, impl.CeMany}, []int64{0, 1, 2, 3, 4, 5}) || impl.MaxChain != 8 {
		t.Error("numbers of the codes")
	}
	for _, span := range rightTimes {
		c := certOf("!root", "maker", "(pub !m)", span[0], span[1])
		for _, now := range []int64{span[0], span[1], span[0] + (span[1]-span[0])/2} {
			expectCheck(t, "within", c, "(pub !root)", now, impl.CeOk)
		}
		for _, now := range []int64{span[0] - 1, -1, math.MinInt64} {
			expectCheck(t, "ahead", c, "(pub !root)", now, impl.CeEarly)
		}
		for _, now := range []int64{span[1] + 1, impl.MaxNumber + 1, math.MaxInt64} {
			expectCheck(t, "behind", c, "(pub !root)", now, impl.CeLate)
		}
	}
}

var nows = []int64{math.MinInt64, -1, 0, 19, 20, 50, 90, 91, impl.MaxNumber, math.MaxInt64}

func TestCheckCertThatIsNotFormed(t *testing.T) {
	for _, c := range unformedCerts() {
		for _, now := range nows {
			for _, issuer := range []string{"(pub !root)", "(pub !other)", "", "!root"} {
				expectCheck(t, "not formed", c, issuer, now, impl.CeForm)
			}
		}
	}
}

func TestCheckCertByAnotherIssuer(t *testing.T) {
	for _, issuer := range []string{"", "A", "root", "!root", "(pub !root", "(pub root)", "(pub !root) ", " (pub !root)", "(pub  !root)", "(pub !roo)", "(pub !roott)", "(pub !other)", "(pub !m)", "(pub !root !root)", "(hash !root)", "(pair !root !root)", "(pair (pub !root) (pub !root))", "(sign !root a)", "(sign !root (pub !root))", "(seal !root a)", "(hash (pub !root))", makerCert().Sign, nested(impl.MaxDeep+1, "!root"), termOf(impl.MaxTerm), termOf(impl.MaxTerm + 1)} {
		for _, now := range nows {
			expectCheck(t, "another issuer", makerCert(), issuer, now, impl.CeSign)
		}
	}
}

func TestCheckCertWithAnotherSign(t *testing.T) {
	c := makerCert()
	told := "(hash cert maker (pub !m) n20 n90)"
	signs := []string{
		"(sign !other " + told + ")", "(sign !m " + told + ")", "(sign !roo " + told + ")", told, "a", "!root", "(pub !root)", "(pair !root " + told + ")", "(seal !root " + told + ")", "(hash !root " + told + ")",
		"(sign !root (sign !root " + told + "))", "(pair " + c.Sign + " a)", "(sign !root (hash " + told + "))", "(sign !root cert)",
		"(sign !root (hash quote maker (pub !m) n20 n90))", "(sign !root (hash maker (pub !m) n20 n90))", "(sign !root (hash cert maker (pub !m) n20))", "(sign !root (hash cert maker (pub !m) n20 n90 n90))", "(sign !root (hash cert maker !m n20 n90))", "(sign !root (hash cert maker (pub !m) (hash n20 n90)))",
		"(sign !root (hash cert maker (pub !m) n020 n90))", "(sign !root (hash cert (pub !m) maker n20 n90))", "(sign !root (hash cert maker (pub !m) n90 n20))", "(sign !root (seal cert maker))",
	}
	for _, other := range []impl.Cert{withName(c, "makes"), withName(c, "dev"), withKey(c, "(pub !k)"), withKey(c, "(pub !root)"), withTimes(c, 19, 90), withTimes(c, 21, 90), withTimes(c, 20, 89), withTimes(c, 20, 91), withTimes(c, 0, 90), withTimes(c, 20, impl.MaxNumber)} {
		signs = append(signs, signOver("!root", other))
		for _, now := range nows {
			expectCheck(t, "what the Sign is not over", other, "(pub !root)", now, impl.CeSign)
		}
	}
	for _, sign := range signs {
		if impl.KindOf(sign) == 0 {
			t.Fatal("it is a term", sign)
		}
		for _, now := range nows {
			expectCheck(t, "another sign", withSign(c, sign), "(pub !root)", now, impl.CeSign)
		}
	}
	expectCheck(t, "its own sign", c, "(pub !root)", 50, impl.CeOk)
	expectCheck(t, "who signs for themselves", certOf("!m", "maker", "(pub !m)", 20, 90), "(pub !m)", 50, impl.CeOk)
	expectCheck(t, "a secret of the most bytes", certOf("!abcdefghijkl", "maker", "(pub !m)", 20, 90), "(pub !abcdefghijkl)", 50, impl.CeOk)
}

// chainOf is a chain with these times.
func chainOf(spans ...[2]int64) []impl.Cert {
	var certs []impl.Cert
	for i, span := range spans {
		certs = append(certs, certOf(linkSecret(i), "a"+nameOf(int64(i)), linkKey(i+1), span[0], span[1]))
	}
	return certs
}

// linkSecret signs the link at a place.
func linkSecret(i int) string {
	return "!s" + nameOf(int64(i))
}

// linkKey is the key with which the link at a place is checked.
func linkKey(i int) string {
	return "(pub " + linkSecret(i) + ")"
}

func chainOfMany(n int) []impl.Cert {
	return chainOf(slices.Repeat([][2]int64{{20, 90}}, n)...)
}

func withCert(certs []impl.Cert, at int, c impl.Cert) []impl.Cert {
	other := slices.Clone(certs)
	other[at] = c
	return other
}

func expectChain(t *testing.T, what string, root string, certs []impl.Cert, now int64, wantKey string, wantCode int64, wantAt int64) {
	t.Helper()
	if key, code, at := impl.CheckChain(root, certs, now); key != wantKey || code != wantCode || at != wantAt {
		t.Errorf("%s: chain %.500v from %.100q at %d: got %q %d %d, want %q %d %d", what, certs, root, now, key, code, at, wantKey, wantCode, wantAt)
	}
}

func TestChainsOfAllLengths(t *testing.T) {
	for n := 1; n <= impl.MaxChain; n++ {
		certs := chainOfMany(n)
		for _, now := range []int64{20, 50, 90} {
			expectChain(t, "a chain", linkKey(0), certs, now, linkKey(n), impl.CeOk, -1)
		}
		for _, root := range []string{"", "A", linkSecret(0), "(pub !other)", linkKey(1), linkKey(n), "(hash " + linkSecret(0) + ")", "(pair " + linkKey(0) + " a)"} {
			expectChain(t, "another one's root", root, certs, 50, "", impl.CeSign, 0)
		}
		for _, now := range []int64{19, -1, math.MinInt64} {
			expectChain(t, "ahead", linkKey(0), certs, now, "", impl.CeEarly, 0)
		}
		for _, now := range []int64{91, math.MaxInt64} {
			expectChain(t, "behind", linkKey(0), certs, now, "", impl.CeLate, 0)
		}
	}
}

func TestChainsThatAreNoneOrTooLong(t *testing.T) {
	for _, root := range []string{linkKey(0), "", "A", "(pub !other)"} {
		for _, now := range []int64{0, 50, 99} {
			for _, certs := range [][]impl.Cert{nil, {}, chainOfMany(impl.MaxChain + 1), chainOfMany(30), make([]impl.Cert, impl.MaxChain+1), withCert(chainOfMany(impl.MaxChain+1), 0, impl.Cert{}), withCert(chainOfMany(impl.MaxChain+1), 8, impl.Cert{})} {
				expectChain(t, "none, or too many", root, certs, now, "", impl.CeMany, -1)
			}
		}
	}
	expectChain(t, "a wrong one among the most", linkKey(0), make([]impl.Cert, impl.MaxChain), 50, "", impl.CeForm, 0)
}

// A chainFault is a Cert for a place of chainOfMany that has its code at the time 50.
type chainFault struct {
	cert impl.Cert
	code int64
}

func chainFaults(right impl.Cert, secret string) []chainFault {
	return []chainFault{
		{impl.Cert{}, impl.CeForm}, {withName(right, ""), impl.CeForm}, {withKey(right, "!m"), impl.CeForm}, {withTimes(right, 90, 20), impl.CeForm}, {withSign(right, "A"), impl.CeForm},
		{signed(right, "!other"), impl.CeSign}, {withSign(right, "a"), impl.CeSign}, {withName(right, "other"), impl.CeSign}, {withKey(right, "(pub !other)"), impl.CeSign}, {withTimes(right, 21, 90), impl.CeSign}, {withTimes(right, 20, 91), impl.CeSign}, {withTimes(right, 51, 90), impl.CeSign}, {withTimes(right, 20, 49), impl.CeSign},
		{signed(withTimes(right, 51, 90), secret), impl.CeEarly}, {signed(withTimes(right, impl.MaxNumber, impl.MaxNumber), secret), impl.CeEarly},
		{signed(withTimes(right, 20, 49), secret), impl.CeLate}, {signed(withTimes(right, 0, 0), secret), impl.CeLate},
	}
}

func TestChainCodesAtTheirPlaces(t *testing.T) {
	for _, n := range []int{1, 2, 3, impl.MaxChain} {
		certs := chainOfMany(n)
		for at := range n {
			for _, f := range chainFaults(certs[at], linkSecret(at)) {
				faulty := withCert(certs, at, f.cert)
				expectChain(t, "a fault", linkKey(0), faulty, 50, "", f.code, int64(at))
				// What stands behind the first fault is not told, whatever it is.
				for behind := at + 1; behind < n; behind++ {
					for _, g := range chainFaults(certs[behind], linkSecret(behind)) {
						expectChain(t, "two faults", linkKey(0), withCert(faulty, behind, g.cert), 50, "", f.code, int64(at))
					}
				}
			}
			// Within their times, a name and a time of its own are right.
			own := signed(withName(withTimes(certs[at], 50, 50), "own"), linkSecret(at))
			expectChain(t, "no fault", linkKey(0), withCert(certs, at, own), 50, linkKey(n), impl.CeOk, -1)
		}
	}
}

func TestChainsInAnotherOrder(t *testing.T) {
	for n := 2; n <= impl.MaxChain; n++ {
		certs := chainOfMany(n)
		for i := range n {
			for j := range i {
				turned := slices.Clone(certs)
				turned[i], turned[j] = turned[j], turned[i]
				expectChain(t, "two in each other's place", linkKey(0), turned, 50, "", impl.CeSign, int64(j))
			}
			if i < n-1 {
				expectChain(t, "one left out", linkKey(0), slices.Delete(slices.Clone(certs), i, i+1), 50, "", impl.CeSign, int64(i))
			}
			if n < impl.MaxChain {
				expectChain(t, "one twice", linkKey(0), slices.Insert(slices.Clone(certs), i, certs[i]), 50, "", impl.CeSign, int64(i)+1)
			}
		}
		expectChain(t, "from the next key on", linkKey(1), certs[1:], 50, linkKey(n), impl.CeOk, -1)
		expectChain(t, "the last one left out", linkKey(0), certs[:n-1], 50, linkKey(n-1), impl.CeOk, -1)
	}
	own := certOf("!k", "dev", "(pub !k)", 20, 90)
	expectChain(t, "a key that signs itself", "(pub !k)", slices.Repeat([]impl.Cert{own}, impl.MaxChain), 50, "(pub !k)", impl.CeOk, -1)
}

// expectWindow: the chain is good at each of these times that all its Certs have, else its code is that of the first which has not.
func expectWindow(t *testing.T, certs []impl.Cert, times ...int64) {
	t.Helper()
	for _, now := range times {
		key, code, at := linkKey(len(certs)), int64(impl.CeOk), int64(-1)
		for i, c := range certs {
			if now < c.From || now > c.Until {
				key, code, at = "", impl.CeEarly, int64(i)
				if now > c.Until {
					code = impl.CeLate
				}
				break
			}
		}
		expectChain(t, "a time", linkKey(0), certs, now, key, code, at)
	}
}

// Promise 10: a chain by the right secrets is good at each time that all of them have, and not ahead of one's From or behind its Until.
func TestTimesOfChains(t *testing.T) {
	r := rand.New(rand.NewSource(31))
	for range 400 {
		var spans [][2]int64
		for range 1 + r.Intn(impl.MaxChain) {
			from := r.Int63n(12)
			spans = append(spans, [2]int64{from, from + r.Int63n(20)})
		}
		var certs []impl.Cert
		for i, span := range spans {
			c, ok := impl.CertBy(linkSecret(i), "a", linkKey(i+1), span[0], span[1])
			if !ok {
				t.Fatal("it is a cert", span)
			}
			certs = append(certs, c)
		}
		for now := int64(-1); now < 33; now++ {
			expectWindow(t, certs, now)
		}
	}
	expectWindow(t, chainOf([2]int64{0, impl.MaxNumber}, [2]int64{impl.MaxNumber, impl.MaxNumber}), math.MinInt64, -1, 0, impl.MaxNumber-1, impl.MaxNumber, impl.MaxNumber+1, math.MaxInt64)
	expectWindow(t, chainOf([2]int64{5, 9}, [2]int64{10, 12}), 4, 5, 9, 10, 12, 13) // no time that both have
}

// Promise 10: with a time turned it is not good.
func TestTurnedTimesOfChains(t *testing.T) {
	r := rand.New(rand.NewSource(32))
	for range 300 {
		n := 1 + r.Intn(impl.MaxChain)
		certs := chainOfMany(n)
		at := r.Intn(n)
		from, until := certs[at].From, certs[at].Until
		if r.Intn(2) == 0 {
			from = r.Int63n(95) - 2
		} else {
			until = r.Int63n(120)
		}
		turned := withTimes(certs[at], from, until)
		code := int64(impl.CeSign)
		switch {
		case turned == certs[at]:
			continue
		case from < 0 || from > until:
			code = impl.CeForm
		}
		for now := int64(20); now <= 90; now++ {
			expectChain(t, "a time turned", linkKey(0), withCert(certs, at, turned), now, "", code, int64(at))
		}
	}
}

func expectRenewed(t *testing.T, what string, c impl.Cert, secret string, until int64, there bool) {
	t.Helper()
	want := impl.Cert{}
	if there {
		want = certOf(secret, c.Name, c.Key, c.From, until)
	}
	if got, ok := impl.Renewed(c, secret, until); got != want || ok != there {
		t.Errorf("%s: %.300v by %q until %d: got %.300v %v, want %.300v", what, c, secret, until, got, ok, want)
	}
}

func TestRenewed(t *testing.T) {
	c := makerCert()
	for _, until := range []int64{20, 21, 89, 90, 91, impl.MaxNumber - 1, impl.MaxNumber} {
		for _, old := range []impl.Cert{c, withSign(c, "a"), withSign(c, "!root"), signed(c, "!other"), withTimes(c, 20, 20), withName(c, "abcdefghijkl")} {
			for _, secret := range []string{"!root", "!other", "!m", "!abcdefghijkl"} {
				expectRenewed(t, "renewed", old, secret, until, true)
			}
			for _, secret := range noSecrets {
				expectRenewed(t, "by no secret", old, secret, until, false)
			}
		}
	}
	for _, until := range []int64{19, 0, -1, impl.MaxNumber + 1, math.MinInt64, math.MaxInt64} {
		expectRenewed(t, "no time", c, "!root", until, false)
	}
	for _, old := range unformedCerts() {
		for _, until := range []int64{19, 20, 90, 95, impl.MaxNumber, impl.MaxNumber + 1} {
			expectRenewed(t, "not formed", old, "!root", until, false)
		}
	}
	expectRenewed(t, "from the end on", withTimes(c, impl.MaxNumber, impl.MaxNumber), "!root", impl.MaxNumber, true)
	expectRenewed(t, "from the beginning on", withTimes(c, 0, 0), "!root", 0, true)
}

func TestRenewedCertsAreGood(t *testing.T) {
	c, ok := impl.Renewed(makerCert(), "!root", 200)
	if !ok {
		t.Fatal("renewed")
	}
	expectCheck(t, "behind the old end", c, "(pub !root)", 91, impl.CeOk)
	expectCheck(t, "at the new end", c, "(pub !root)", 200, impl.CeOk)
	expectCheck(t, "behind the new end", c, "(pub !root)", 201, impl.CeLate)
	expectCheck(t, "ahead of it", c, "(pub !root)", 19, impl.CeEarly)
	other, _ := impl.Renewed(makerCert(), "!other", 200)
	expectCheck(t, "by another one", other, "(pub !root)", 91, impl.CeSign)
	expectCheck(t, "by another one", other, "(pub !other)", 91, impl.CeOk)
	mended, _ := impl.Renewed(withSign(makerCert(), "a"), "!root", 90)
	if mended != makerCert() {
		t.Error("of nobody's sign", mended)
	}
	certs := chainOfMany(3)
	next, _ := impl.Renewed(certs[1], linkSecret(1), 30)
	expectChain(t, "in a chain", linkKey(0), withCert(certs, 1, next), 30, linkKey(3), impl.CeOk, -1)
	expectChain(t, "in a chain", linkKey(0), withCert(certs, 1, next), 31, "", impl.CeLate, 1)
	stolen, _ := impl.Renewed(certs[1], linkSecret(2), 30)
	expectChain(t, "in a chain, by the wrong secret", linkKey(0), withCert(certs, 1, stolen), 30, "", impl.CeSign, 1)
}
