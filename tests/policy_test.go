package tests

import (
	"fmt"
	"math"
	"math/rand"
	"slices"
	"testing"

	"loop.example/g00082/impl"
)

func samePolicy(a impl.Policy, b impl.Policy) bool {
	return a.Number == b.Number && slices.Equal(a.Rows, b.Rows) && slices.Equal(a.Withdrawn, b.Withdrawn)
}

// aPolicy is right, has its rows in no order, and has withdrawn what a row lists and what none does.
func aPolicy() impl.Policy {
	return impl.Policy{
		Number:    7,
		Rows:      []impl.Ref{{Layer: 2, Name: "core", Least: 3}, {Layer: 0, Name: "boot", Least: 2}, {Layer: 2, Name: "app"}, {Layer: 1, Name: "core", Least: 8}},
		Withdrawn: []string{"(hash n0 boot n1)", "(hash n0 boot n5)", "(hash n2 core n5)", "(hash n5 free n1)", "b"},
	}
}

func withNumber(p impl.Policy, number int64) impl.Policy {
	p.Number = number
	return p
}

func withRows(p impl.Policy, rows ...impl.Ref) impl.Policy {
	p.Rows = rows
	return p
}

func withWithdrawn(p impl.Policy, withdrawn ...string) impl.Policy {
	p.Withdrawn = withdrawn
	return p
}

// refsOf are so many rows, of all layers, the later ones ahead.
func refsOf(n int) []impl.Ref {
	var refs []impl.Ref
	for i := n; i > 0; i-- {
		refs = append(refs, impl.Ref{Layer: int64(i) % (impl.MaxLayer + 1), Name: nameOf(int64(i)), Least: int64(i)})
	}
	return refs
}

var wrongLayers = []int64{-1, impl.MaxLayer + 1, math.MinInt64, math.MaxInt64}

var wrongNumbers = []int64{-1, impl.MaxNumber + 1, math.MinInt64, math.MaxInt64}

// allNoTerms has those that are no terms for their size besides.
func allNoTerms() []string {
	return append(slices.Clone(noTerms), nested(impl.MaxDeep+1, "a"), termOf(impl.MaxTerm+1))
}

func wrongRefs() []impl.Ref {
	wrong := []impl.Ref{{}}
	for _, layer := range wrongLayers {
		wrong = append(wrong, impl.Ref{Layer: layer, Name: "a", Least: 1})
	}
	for _, name := range wrongNames {
		wrong = append(wrong, impl.Ref{Layer: 1, Name: name, Least: 1})
	}
	for _, least := range wrongNumbers {
		wrong = append(wrong, impl.Ref{Layer: 1, Name: "a", Least: least})
	}
	return wrong
}

// wrongPolicies are not right, in all the ways that the document has; each differs in one thing from a right one.
func wrongPolicies() []impl.Policy {
	right := aPolicy()
	wrong := []impl.Policy{withRows(right, refsOf(impl.MaxRows+1)...), withWithdrawn(right, names(impl.MaxRows+1)...)}
	for _, number := range wrongNumbers {
		wrong = append(wrong, withNumber(right, number))
	}
	for _, r := range wrongRefs() {
		for at := range len(right.Rows) + 1 {
			wrong = append(wrong, withRows(right, slices.Insert(slices.Clone(right.Rows), at, r)...))
		}
	}
	for _, r := range right.Rows {
		for _, least := range []int64{r.Least, r.Least + 1, 0} {
			for at := range len(right.Rows) + 1 {
				wrong = append(wrong, withRows(right, slices.Insert(slices.Clone(right.Rows), at, impl.Ref{Layer: r.Layer, Name: r.Name, Least: least})...))
			}
		}
	}
	for _, t := range allNoTerms() {
		sorted := append(slices.Clone(right.Withdrawn), t)
		slices.Sort(sorted)
		wrong = append(wrong, withWithdrawn(right, t), withWithdrawn(right, sorted...))
	}
	for _, list := range [][]string{{"a", "a"}, {"b", "a"}, {"a", "c", "b"}, {"a", "b", "b"}, {"ab", "a"}, {"b", "(hash a)"}, {"n10", "n2", "n1"}, {"n2", "n10"}, {"a", "b", "a"}} {
		wrong = append(wrong, withWithdrawn(right, list...))
	}
	return wrong
}

func TestWhatPoliciesAreRight(t *testing.T) {
	right := aPolicy()
	policies := []impl.Policy{{}, {Rows: []impl.Ref{}, Withdrawn: []string{}}, right, withRows(right), withWithdrawn(right), withRows(right, refsOf(impl.MaxRows)...), withWithdrawn(right, names(impl.MaxRows)...), {Number: impl.MaxNumber, Rows: refsOf(impl.MaxRows), Withdrawn: names(impl.MaxRows)}}
	for _, number := range []int64{0, 1, impl.MaxNumber - 1, impl.MaxNumber} {
		policies = append(policies, withNumber(right, number))
	}
	for _, layer := range []int64{0, 7, 8, impl.MaxLayer} {
		for _, name := range []string{"a", "abcdefghijkl", "z9", "n5"} {
			for _, least := range []int64{0, 1, impl.MaxNumber} {
				policies = append(policies, withRows(right, impl.Ref{Layer: layer, Name: name, Least: least}))
			}
		}
	}
	policies = append(policies, withRows(right, impl.Ref{Layer: 1, Name: "a"}, impl.Ref{Layer: 2, Name: "a"}), withRows(right, impl.Ref{Layer: 1, Name: "a"}, impl.Ref{Layer: 1, Name: "b"}), withRows(right, impl.Ref{Layer: 1, Name: "b"}, impl.Ref{Layer: 0, Name: "a"}, impl.Ref{Layer: 1, Name: "a"}))
	policies = append(policies, withWithdrawn(right, "a", "ab", "b"), withWithdrawn(right, "!a", "(hash a)", "a"), withWithdrawn(right, "n10", "n2"), withWithdrawn(right, nested(impl.MaxDeep, "a")), withWithdrawn(right, termOf(impl.MaxTerm)))
	for _, p := range policies {
		if !impl.PolicyOk(p) {
			t.Errorf("it is right: %.300v", p)
		}
	}
	for _, p := range wrongPolicies() {
		if impl.PolicyOk(p) {
			t.Errorf("it is not right: %.300v", p)
		}
	}
}

func TestPoliciesWithRowsInAnyOrder(t *testing.T) {
	r := rand.New(rand.NewSource(41))
	for n := range impl.MaxRows + 2 {
		for range 5 {
			rows := refsOf(n)
			r.Shuffle(n, func(i int, j int) { rows[i], rows[j] = rows[j], rows[i] })
			if impl.PolicyOk(impl.Policy{Rows: rows}) != (n <= impl.MaxRows) {
				t.Error("rows", rows)
			}
			if n < 2 {
				continue
			}
			i := r.Intn(n)
			twice := rows[i]
			twice.Least = r.Int63n(100)
			rows[(i+1+r.Intn(n-1))%n] = twice
			if impl.PolicyOk(impl.Policy{Rows: rows}) {
				t.Error("twice", rows)
			}
		}
	}
}

// judged is Judge of what is right, as the document tells it.
func judged(p impl.Policy, layer int64, image impl.Image) int64 {
	at := slices.IndexFunc(p.Rows, func(r impl.Ref) bool { return r.Layer == layer && r.Name == image.Name })
	switch {
	case at < 0:
		return impl.PlUnlisted
	case slices.Contains(p.Withdrawn, measured(layer, image)):
		return impl.PlWithdrawn
	case image.Version < p.Rows[at].Least:
		return impl.PlOld
	}
	return impl.PlOk
}

func expectJudge(t *testing.T, what string, p impl.Policy, layer int64, image impl.Image, want int64) {
	t.Helper()
	if got := impl.Judge(p, layer, image); got != want {
		t.Errorf("%s: %v as layer %d by %.300v: got %d, want %d", what, image, layer, p, got, want)
	}
}

func TestJudge(t *testing.T) {
	if !slices.Equal([]int64{impl.PlOk, impl.PlBad, impl.PlUnlisted, impl.PlWithdrawn, impl.PlOld, impl.PlNone}, []int64{0, 1, 2, 3, 4, 5}) || impl.MaxRows != 60 {
		t.Error("numbers of the codes")
	}
	for _, c := range []struct {
		what  string
		layer int64
		image impl.Image
		want  int64
	}{
		{"its Least", 0, impl.Image{Name: "boot", Version: 2}, impl.PlOk},
		{"one above", 0, impl.Image{Name: "boot", Version: 3}, impl.PlOk},
		{"the last one", 0, impl.Image{Name: "boot", Version: impl.MaxNumber}, impl.PlOk},
		{"no Least", 2, impl.Image{Name: "app"}, impl.PlOk},
		{"the row behind the others", 1, impl.Image{Name: "core", Version: 8}, impl.PlOk},
		{"withdrawn for another layer", 1, impl.Image{Name: "core", Version: 5}, impl.PlOld},
		{"a Least of another layer", 2, impl.Image{Name: "core", Version: 7}, impl.PlOk},
		{"old", 0, impl.Image{Name: "boot"}, impl.PlOld},
		{"one below", 2, impl.Image{Name: "core", Version: 2}, impl.PlOld},
		{"one below", 1, impl.Image{Name: "core", Version: 7}, impl.PlOld},
		{"withdrawn", 0, impl.Image{Name: "boot", Version: 5}, impl.PlWithdrawn},
		{"withdrawn", 2, impl.Image{Name: "core", Version: 5}, impl.PlWithdrawn},
		{"withdrawn and old", 0, impl.Image{Name: "boot", Version: 1}, impl.PlWithdrawn},
		{"unlisted and withdrawn", 5, impl.Image{Name: "free", Version: 1}, impl.PlUnlisted},
		{"another layer's", 1, impl.Image{Name: "boot", Version: 2}, impl.PlUnlisted},
		{"another layer's", 0, impl.Image{Name: "core", Version: 9}, impl.PlUnlisted},
		{"another name", 0, impl.Image{Name: "boo", Version: 9}, impl.PlUnlisted},
		{"another name", 0, impl.Image{Name: "boott", Version: 9}, impl.PlUnlisted},
		{"the last layer", impl.MaxLayer, impl.Image{Name: "boot", Version: 9}, impl.PlUnlisted},
	} {
		expectJudge(t, c.what, aPolicy(), c.layer, c.image, c.want)
	}
	one := impl.Policy{Rows: []impl.Ref{{Layer: 1, Name: "core", Least: 2}}, Withdrawn: []string{"(hash n2 core n5)"}}
	expectJudge(t, "withdrawn for another layer alone", one, 1, impl.Image{Name: "core", Version: 5}, impl.PlOk)
	expectJudge(t, "its name alone is withdrawn", withWithdrawn(one, "core"), 1, impl.Image{Name: "core", Version: 5}, impl.PlOk)
	expectJudge(t, "what it stands in is withdrawn", withWithdrawn(one, "(hash (hash n1 core n5))"), 1, impl.Image{Name: "core", Version: 5}, impl.PlOk)
	last := withRows(one, impl.Ref{Layer: impl.MaxLayer, Name: "core", Least: impl.MaxNumber})
	expectJudge(t, "at the ends", last, impl.MaxLayer, impl.Image{Name: "core", Version: impl.MaxNumber}, impl.PlOk)
	expectJudge(t, "below the ends", last, impl.MaxLayer, impl.Image{Name: "core", Version: impl.MaxNumber - 1}, impl.PlOld)
	expectJudge(t, "by nothing", impl.Policy{}, 0, impl.Image{Name: "a"}, impl.PlUnlisted)
}

func TestJudgeOfWhatIsNotRight(t *testing.T) {
	for _, p := range wrongPolicies() {
		expectJudge(t, "no policy", p, 0, impl.Image{Name: "boot", Version: 2}, impl.PlBad)
		expectJudge(t, "no policy, unlisted", p, 9, impl.Image{Name: "boot", Version: 2}, impl.PlBad)
	}
	for _, layer := range wrongLayers {
		expectJudge(t, "no layer", aPolicy(), layer, impl.Image{Name: "boot", Version: 2}, impl.PlBad)
		expectJudge(t, "no layer", impl.Policy{}, layer, impl.Image{Name: "boot", Version: 2}, impl.PlBad)
	}
	for _, image := range wrongImages() {
		expectJudge(t, "no image", aPolicy(), 0, image, impl.PlBad)
		expectJudge(t, "no image", withRows(aPolicy(), impl.Ref{Layer: 0, Name: "a"}), 0, image, impl.PlBad)
		expectJudge(t, "no image", impl.Policy{}, 0, image, impl.PlBad)
	}
}

func TestJudgeOfAllRows(t *testing.T) {
	p := impl.Policy{Rows: refsOf(impl.MaxRows)}
	for _, r := range p.Rows {
		image := impl.Image{Name: r.Name, Version: r.Least}
		expectJudge(t, "its Least", p, r.Layer, image, impl.PlOk)
		expectJudge(t, "below", p, r.Layer, impl.Image{Name: r.Name, Version: r.Least - 1}, impl.PlOld)
		expectJudge(t, "of another layer", p, (r.Layer+1)%(impl.MaxLayer+1), image, impl.PlUnlisted)
		expectJudge(t, "withdrawn", withWithdrawn(p, measured(r.Layer, image)), r.Layer, image, impl.PlWithdrawn)
	}
}

// policyFor lists images as the layers of their places, with their versions as Least.
func policyFor(images []impl.Image) impl.Policy {
	p := impl.Policy{}
	for layer, image := range images {
		p.Rows = append(p.Rows, impl.Ref{Layer: int64(layer), Name: image.Name, Least: image.Version})
	}
	return p
}

func withImage(images []impl.Image, at int, image impl.Image) []impl.Image {
	other := slices.Clone(images)
	other[at] = image
	return other
}

func expectJudgeAll(t *testing.T, what string, p impl.Policy, images []impl.Image, wantCode int64, wantAt int64) {
	t.Helper()
	if code, at := impl.JudgeAll(p, images); code != wantCode || at != wantAt {
		t.Errorf("%s: %v by %.300v: got %d %d, want %d %d", what, images, p, code, at, wantCode, wantAt)
	}
}

func TestJudgeAllOfNoneAndOfTooMany(t *testing.T) {
	for _, p := range slices.Concat([]impl.Policy{{}, aPolicy()}, wrongPolicies()) {
		expectJudgeAll(t, "none", p, nil, impl.PlNone, -1)
		expectJudgeAll(t, "none", p, []impl.Image{}, impl.PlNone, -1)
	}
	most := someImages(impl.MaxLayer + 1)
	for n := 1; n <= len(most); n++ {
		expectJudgeAll(t, "all listed", policyFor(most), most[:n], impl.PlOk, -1)
		for _, p := range wrongPolicies() {
			expectJudgeAll(t, "no policy", p, most[:n], impl.PlBad, -1)
		}
	}
	for _, images := range [][]impl.Image{someImages(impl.MaxLayer + 2), someImages(40), make([]impl.Image, impl.MaxLayer+2), withImage(someImages(impl.MaxLayer+2), 0, impl.Image{Name: "other"})} {
		expectJudgeAll(t, "too many", policyFor(most), images, impl.PlBad, -1)
		expectJudgeAll(t, "too many, by nothing", impl.Policy{}, images, impl.PlBad, -1)
		expectJudgeAll(t, "too many, no policy", withNumber(policyFor(most), -1), images, impl.PlBad, -1)
	}
	expectJudgeAll(t, "the most, all wrong", policyFor(most), make([]impl.Image, impl.MaxLayer+1), impl.PlBad, 0)
}

func TestJudgeAllWithEachCodeAtItsPlace(t *testing.T) {
	for _, n := range []int{1, 2, 5, impl.MaxLayer + 1} {
		images := someImages(n)
		for at, image := range images {
			gone := impl.Image{Name: image.Name, Version: image.Version + 5}
			p := policyFor(images)
			p.Withdrawn = []string{measured(int64(at), gone)}
			faults := []struct {
				image impl.Image
				code  int64
			}{{impl.Image{}, impl.PlBad}, {impl.Image{Name: image.Name, Version: -1}, impl.PlBad}, {impl.Image{Name: image.Name, Version: impl.MaxNumber + 1}, impl.PlBad}, {impl.Image{Name: "other", Version: 500}, impl.PlUnlisted}, {gone, impl.PlWithdrawn}, {impl.Image{Name: image.Name, Version: image.Version - 1}, impl.PlOld}}
			expectJudgeAll(t, "no fault", p, images, impl.PlOk, -1)
			expectJudgeAll(t, "a later version", p, withImage(images, at, impl.Image{Name: image.Name, Version: image.Version + 1}), impl.PlOk, -1)
			for _, f := range faults {
				faulty := withImage(images, at, f.image)
				expectJudgeAll(t, "a fault", p, faulty, f.code, int64(at))
				// What stands behind the first fault is not told, also where it is no image.
				for behind := at + 1; behind < n; behind++ {
					for _, later := range []impl.Image{{}, {Name: "A"}, {Name: "other"}, {Name: images[behind].Name}, images[0]} {
						expectJudgeAll(t, "two faults", p, withImage(faulty, behind, later), f.code, int64(at))
					}
				}
			}
		}
	}
	turned := someImages(3)
	slices.Reverse(turned)
	expectJudgeAll(t, "of another layer", policyFor(someImages(3)), turned, impl.PlUnlisted, 0)
	expectJudgeAll(t, "without the first one", policyFor(someImages(3)), someImages(3)[1:], impl.PlUnlisted, 0)
}

func expectPolicy(t *testing.T, what string, got impl.Policy, ok bool, want impl.Policy) {
	t.Helper()
	if !ok || !samePolicy(got, want) {
		t.Errorf("%s: got %.400v %v, want %.400v", what, got, ok, want)
	}
}

func expectNoPolicy(t *testing.T, what string, got impl.Policy, ok bool) {
	t.Helper()
	if ok || !samePolicy(got, impl.Policy{}) {
		t.Errorf("%s: got %.400v %v", what, got, ok)
	}
}

// withOneMore is the next policy when the measure is withdrawn, as the document tells it.
func withOneMore(p impl.Policy, measure string) impl.Policy {
	withdrawn := append(slices.Clone(p.Withdrawn), measure)
	slices.Sort(withdrawn)
	return withNumber(withWithdrawn(p, slices.Compact(withdrawn)...), p.Number+1)
}

func TestWithdraw(t *testing.T) {
	for _, p := range []impl.Policy{{}, aPolicy(), withRows(aPolicy()), withNumber(aPolicy(), 0), withNumber(aPolicy(), impl.MaxNumber-1), withWithdrawn(aPolicy()), withWithdrawn(aPolicy(), "b", "d", "f")} {
		measures := []string{"a", "b", "c", "d", "e", "f", "g", "!a", "z9", "bb", "(pub !k)", "(hash n0 boot n0)", "(hash n0 boot n3)", "(hash n0 boot n9)", "(hash n1 core n8)", nested(impl.MaxDeep, "a"), termOf(impl.MaxTerm)}
		for _, measure := range slices.Concat(measures, p.Withdrawn) {
			got, ok := impl.Withdraw(p, measure)
			expectPolicy(t, "withdrawn", got, ok, withOneMore(p, measure))
		}
		for _, measure := range allNoTerms() {
			got, ok := impl.Withdraw(p, measure)
			expectNoPolicy(t, "no term", got, ok)
		}
	}
	for _, p := range wrongPolicies() {
		got, ok := impl.Withdraw(p, "a")
		expectNoPolicy(t, "no policy", got, ok)
	}
}

func TestWithdrawAtTheLimits(t *testing.T) {
	full := withWithdrawn(aPolicy(), names(impl.MaxRows)...)
	for _, measure := range []string{"a", "a00a", "a29a", "zz", "(hash a)"} {
		got, ok := impl.Withdraw(full, measure)
		expectNoPolicy(t, "one too many", got, ok)
	}
	for _, measure := range full.Withdrawn {
		got, ok := impl.Withdraw(full, measure)
		expectPolicy(t, "withdrawn already", got, ok, withNumber(full, full.Number+1))
	}
	almost := withWithdrawn(aPolicy(), names(impl.MaxRows-1)...)
	got, ok := impl.Withdraw(almost, "a")
	expectPolicy(t, "the last one", got, ok, withOneMore(almost, "a"))
	for _, measure := range []string{"a", "b", "(hash n0 boot n5)"} {
		got, ok := impl.Withdraw(withNumber(aPolicy(), impl.MaxNumber), measure)
		expectNoPolicy(t, "no number is left", got, ok)
		got, ok = impl.Withdraw(withNumber(aPolicy(), impl.MaxNumber-1), measure)
		expectPolicy(t, "the last number", got, ok, withOneMore(withNumber(aPolicy(), impl.MaxNumber-1), measure))
	}
}

// withDemand is the next policy when a row is wanted, as the document tells it.
func withDemand(p impl.Policy, want impl.Ref) impl.Policy {
	rows := slices.Clone(p.Rows)
	at := slices.IndexFunc(rows, func(r impl.Ref) bool { return r.Layer == want.Layer && r.Name == want.Name })
	if at < 0 {
		rows = append(rows, want)
	} else {
		rows[at] = want
	}
	return withNumber(withRows(p, rows...), p.Number+1)
}

func demanded(p impl.Policy, r impl.Ref) (impl.Policy, bool) {
	return impl.Demand(p, r.Layer, r.Name, r.Least)
}

func TestDemand(t *testing.T) {
	for _, p := range []impl.Policy{{}, aPolicy(), withRows(aPolicy()), withNumber(aPolicy(), 0), withNumber(aPolicy(), impl.MaxNumber-1), withRows(aPolicy(), refsOf(impl.MaxRows-1)...), withWithdrawn(aPolicy())} {
		for _, layer := range []int64{0, 1, 2, 3, 8, impl.MaxLayer} {
			for _, name := range []string{"a", "app", "boot", "core", "corf", "n7", "abcdefghijkl"} {
				for _, least := range []int64{0, 1, 2, 3, 8, impl.MaxNumber} {
					r := impl.Ref{Layer: layer, Name: name, Least: least}
					got, ok := demanded(p, r)
					expectPolicy(t, "wanted", got, ok, withDemand(p, r))
				}
			}
		}
		for _, r := range wrongRefs() {
			got, ok := demanded(p, r)
			expectNoPolicy(t, "no row", got, ok)
		}
	}
	for _, p := range wrongPolicies() {
		for _, r := range []impl.Ref{{Layer: 9, Name: "new"}, {Layer: 0, Name: "boot", Least: 4}, {Layer: 1, Name: "a", Least: 1}} {
			got, ok := demanded(p, r)
			expectNoPolicy(t, "no policy", got, ok)
		}
	}
}

func TestDemandAtTheLimits(t *testing.T) {
	full := withRows(aPolicy(), refsOf(impl.MaxRows)...)
	for _, r := range full.Rows {
		for _, least := range []int64{0, r.Least, r.Least + 1, impl.MaxNumber} {
			want := impl.Ref{Layer: r.Layer, Name: r.Name, Least: least}
			got, ok := demanded(full, want)
			expectPolicy(t, "its place stays", got, ok, withDemand(full, want))
			if !slices.Equal(rowKeys(got.Rows), rowKeys(full.Rows)) {
				t.Error("places", got.Rows)
			}
		}
		got, ok := impl.Demand(full, (r.Layer+1)%(impl.MaxLayer+1), r.Name, r.Least)
		expectNoPolicy(t, "a row too many", got, ok)
		got, ok = impl.Demand(full, r.Layer, r.Name, -1)
		expectNoPolicy(t, "no least", got, ok)
	}
	for _, r := range []impl.Ref{{Layer: 0, Name: "boot", Least: 2}, {Layer: 0, Name: "boot", Least: 9}, {Layer: 9, Name: "new", Least: 1}} {
		got, ok := demanded(withNumber(aPolicy(), impl.MaxNumber), r)
		expectNoPolicy(t, "no number is left", got, ok)
	}
}

func rowKeys(rows []impl.Ref) []string {
	var keys []string
	for _, r := range rows {
		keys = append(keys, fmt.Sprint(r.Layer, r.Name))
	}
	return keys
}

// Promise 11: what a policy lists is good until it is withdrawn or a later version is wanted.
func TestPolicyUntilWithdrawnOrWanted(t *testing.T) {
	r := rand.New(rand.NewSource(42))
	for range 40 {
		p := impl.Policy{}
		for range 25 {
			p = changedPolicy(t, r, p)
			expectJudgesAs(t, p)
		}
	}
}

// changedPolicy is a next policy, of few layers, names and versions, so that they meet.
func changedPolicy(t *testing.T, r *rand.Rand, p impl.Policy) impl.Policy {
	t.Helper()
	layer, image := r.Int63n(3), impl.Image{Name: pick(r, "boot", "core"), Version: r.Int63n(4)}
	got, ok := impl.Withdraw(p, measured(layer, image))
	want := withOneMore(p, measured(layer, image))
	if r.Intn(2) == 0 {
		row := impl.Ref{Layer: layer, Name: image.Name, Least: image.Version}
		got, ok = demanded(p, row)
		want = withDemand(p, row)
	}
	expectPolicy(t, "changed", got, ok, want)
	for _, name := range []string{"boot", "core"} {
		for version := range int64(5) {
			other := impl.Image{Name: name, Version: version}
			for at := range int64(4) {
				if impl.Judge(p, at, other) == impl.PlOk && impl.Judge(got, at, other) != impl.PlOk && (at != layer || other.Name != image.Name) {
					t.Error("what was not meant is good no more", at, other, p, got)
				}
			}
		}
	}
	return got
}

// expectJudgesAs asks for all of few layers, names and versions, one by one and in twos.
func expectJudgesAs(t *testing.T, p impl.Policy) {
	t.Helper()
	for layer := range int64(4) {
		for version := range int64(5) {
			for _, name := range []string{"boot", "core", "other"} {
				image := impl.Image{Name: name, Version: version}
				expectJudge(t, "by turns", p, layer, image, judged(p, layer, image))
				other := impl.Image{Name: "core", Version: version}
				code, at := judged(p, 0, image), int64(0)
				if code == impl.PlOk {
					code, at = judged(p, 1, other), 1
				}
				if code == impl.PlOk {
					at = -1
				}
				expectJudgeAll(t, "by turns", p, []impl.Image{image, other}, code, at)
			}
		}
	}
}

func TestPolicyGoodAgain(t *testing.T) {
	p := impl.Policy{}
	image := impl.Image{Name: "boot", Version: 4}
	for _, step := range []struct {
		least int64
		want  int64
	}{{4, impl.PlOk}, {5, impl.PlOld}, {4, impl.PlOk}, {0, impl.PlOk}, {impl.MaxNumber, impl.PlOld}} {
		next, ok := impl.Demand(p, 0, "boot", step.least)
		expectPolicy(t, "wanted", next, ok, withDemand(p, impl.Ref{Name: "boot", Least: step.least}))
		expectJudge(t, "by what is wanted", next, 0, image, step.want)
		p = next
	}
	p, _ = impl.Withdraw(p, "(hash n0 boot n4)")
	p, _ = impl.Demand(p, 0, "boot", 0)
	expectJudge(t, "withdrawn for good", p, 0, image, impl.PlWithdrawn)
	expectJudge(t, "the one behind it", p, 0, impl.Image{Name: "boot", Version: 5}, impl.PlOk)
	expectJudge(t, "the one ahead of it", p, 0, impl.Image{Name: "boot", Version: 3}, impl.PlOk)
}
