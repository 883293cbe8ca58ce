package tests

import (
	"math"
	"math/rand"
	"slices"
	"testing"

	"loop.example/g00082/impl"
)

func sameTable(a impl.Table, b impl.Table) bool {
	return a.Secret == b.Secret && a.Now == b.Now && a.Next == b.Next && slices.Equal(a.Open, b.Open)
}

// nonceText is NonceOf by !v, as the document tells it.
func nonceText(number int64) string {
	return "(hash !v " + nameOf(number) + ")"
}

func nonceTexts(numbers ...int64) []string {
	var texts []string
	for _, n := range numbers {
		texts = append(texts, nonceText(n))
	}
	return texts
}

func withOpen(x impl.Table, open ...impl.Nonce) impl.Table {
	x.Open = open
	return x
}

func withTimesOf(x impl.Table, now int64, next int64) impl.Table {
	x.Now, x.Next = now, next
	return x
}

// tableOf has at the time 100 nonces of these ages open, in this order; 90 is the next one.
func tableOf(ages ...int64) impl.Table {
	x := impl.Table{Secret: "!v", Now: 100, Next: 90}
	for i, age := range ages {
		x.Open = append(x.Open, impl.Nonce{Number: int64(2 + 3*i), Born: 100 - age})
	}
	return x
}

// wrongTables are not right, in all the ways that the document has.
func wrongTables() []impl.Table {
	right := tableOf(40, 21, 20, 3, 0)
	wrong := []impl.Table{{}, tableOf(slices.Repeat([]int64{1}, impl.MaxNonces+1)...), tableOf(slices.Repeat([]int64{30}, impl.MaxNonces+1)...)}
	for _, secret := range noSecrets {
		for _, x := range []impl.Table{right, {}, tableOf(1)} {
			x.Secret = secret
			wrong = append(wrong, x)
		}
	}
	for _, n := range wrongNumbers {
		wrong = append(wrong, withTimesOf(right, n, 90), withTimesOf(right, 100, n), withTimesOf(tableOf(), n, 90), withTimesOf(tableOf(), 100, n))
	}
	for _, n := range []impl.Nonce{{Number: -1, Born: 100}, {Number: math.MinInt64, Born: 100}, {Number: 90, Born: 100}, {Number: 91, Born: 100}, {Number: math.MaxInt64, Born: 100}, {Number: 50, Born: -1}, {Number: 50, Born: math.MinInt64}, {Number: 50, Born: 101}, {Number: 50, Born: math.MaxInt64}} {
		wrong = append(wrong, withOpen(right, n), withOpen(right, append(slices.Clone(right.Open), n)...), withOpen(right, slices.Insert(slices.Clone(right.Open), 0, n)...))
	}
	for at := 1; at < len(right.Open); at++ {
		twice, turned, fallen := slices.Clone(right.Open), slices.Clone(right.Open), slices.Clone(right.Open)
		twice[at].Number = twice[at-1].Number
		turned[at].Number, turned[at-1].Number = turned[at-1].Number, turned[at].Number
		fallen[at].Born = fallen[at-1].Born - 1
		wrong = append(wrong, withOpen(right, twice...), withOpen(right, turned...), withOpen(right, fallen...))
	}
	wrong = append(wrong, impl.Table{Secret: "!v", Open: []impl.Nonce{{}}}, impl.Table{Secret: "!v", Next: 1, Open: []impl.Nonce{{Born: 1}}}, impl.Table{Secret: "!v", Next: 1, Open: []impl.Nonce{{}, {}}})
	return wrong
}

func rightTables() []impl.Table {
	right := []impl.Table{
		{Secret: "!v"}, {Secret: "!v", Open: []impl.Nonce{}}, {Secret: "!abcdefghijkl", Now: 3, Next: 1}, {Secret: "!v", Next: 1, Open: []impl.Nonce{{}}},
		tableOf(), tableOf(0), tableOf(impl.MaxAge), tableOf(impl.MaxAge + 1), tableOf(40, 21, 20, 3, 0), tableOf(100, 99), tableOf(5, 5, 5),
		tableOf(slices.Repeat([]int64{0}, impl.MaxNonces)...), tableOf(slices.Repeat([]int64{20}, impl.MaxNonces)...), tableOf(slices.Repeat([]int64{21}, impl.MaxNonces)...), tableOf(50, 40, 30, 21, 20, 20, 1, 0),
		withOpen(tableOf(), impl.Nonce{Number: 89, Born: 100}), withOpen(tableOf(), impl.Nonce{Number: 0, Born: 0}, impl.Nonce{Number: 1, Born: 100}, impl.Nonce{Number: 89, Born: 100}),
	}
	for _, n := range []int64{0, 1, impl.MaxNumber - 1, impl.MaxNumber} {
		right = append(right, withTimesOf(tableOf(), n, 90), withTimesOf(tableOf(), 100, n))
	}
	last := impl.Nonce{Number: impl.MaxNumber - 1, Born: impl.MaxNumber}
	return append(right, impl.Table{Secret: "!v", Now: impl.MaxNumber, Next: impl.MaxNumber, Open: []impl.Nonce{{Number: 0, Born: 0}, last}}, impl.Table{Secret: "!v", Now: impl.MaxNumber, Next: impl.MaxNumber, Open: []impl.Nonce{last}})
}

func TestWhatTablesAreRight(t *testing.T) {
	for _, x := range rightTables() {
		if !impl.TableOk(x) {
			t.Error("it is right", x)
		}
	}
	for _, x := range wrongTables() {
		if impl.TableOk(x) {
			t.Error("it is not right", x)
		}
	}
	if !slices.Equal([]int64{impl.NcOk, impl.NcTable, impl.NcBusy, impl.NcEnd, impl.NcUnknown, impl.NcExpired}, []int64{0, 1, 2, 3, 4, 5}) || impl.MaxNonces != 8 || impl.MaxAge != 20 {
		t.Error("numbers of the codes")
	}
}

func TestNonceOf(t *testing.T) {
	for _, secret := range []string{"!v", "!a", "!abcdefghijkl", "!n5", "!hash"} {
		for _, number := range []int64{0, 1, 9, 10, 90, impl.MaxNumber - 1, impl.MaxNumber} {
			if got, ok := impl.NonceOf(secret, number); !ok || got != "(hash "+secret+" "+nameOf(number)+")" {
				t.Error(secret, number, got, ok)
			}
		}
		for _, number := range wrongNumbers {
			if got, ok := impl.NonceOf(secret, number); ok || got != "" {
				t.Error(secret, number, got, ok)
			}
		}
	}
	for _, secret := range noSecrets {
		for _, number := range []int64{-1, 0, 5, impl.MaxNumber, impl.MaxNumber + 1} {
			if got, ok := impl.NonceOf(secret, number); ok || got != "" {
				t.Error(secret, number, got, ok)
			}
		}
	}
}

// freshOf are the open ones that are not expired, as the document tells it.
func freshOf(x impl.Table) []impl.Nonce {
	var fresh []impl.Nonce
	for _, n := range x.Open {
		if x.Now-n.Born <= 20 {
			fresh = append(fresh, n)
		}
	}
	return fresh
}

func expectChallenge(t *testing.T, what string, x impl.Table, want impl.Table, wantNonce string, wantCode int64) {
	t.Helper()
	if got, nonce, code := impl.Challenge(x); !sameTable(got, want) || nonce != wantNonce || code != wantCode {
		t.Errorf("%s: challenge of %v: got %v %q %d, want %v %q %d", what, x, got, nonce, code, want, wantNonce, wantCode)
	}
}

// challenged is the Table behind a Challenge that has no code, as the document tells it.
func challenged(x impl.Table) impl.Table {
	open := append(freshOf(x), impl.Nonce{Number: x.Next, Born: x.Now})
	return withTimesOf(withOpen(x, open...), x.Now, x.Next+1)
}

func TestChallenge(t *testing.T) {
	for _, x := range []impl.Table{
		{Secret: "!v"}, tableOf(), tableOf(0), tableOf(20), tableOf(21), tableOf(100), tableOf(21, 20), tableOf(22, 21, 20, 19), tableOf(40, 21, 20, 3, 0),
		tableOf(20, 20, 20, 20, 20, 20, 20), tableOf(21, 20, 20, 20, 20, 20, 20, 20), tableOf(21, 0, 0, 0, 0, 0, 0, 0), tableOf(30, 30, 30, 30, 21, 20, 20, 0), tableOf(21, 21, 21, 21, 21, 21, 21, 21), tableOf(99, 21, 21, 21, 21, 21, 21, 20),
		withTimesOf(tableOf(), 0, 0), withTimesOf(tableOf(), impl.MaxNumber, 90), withTimesOf(tableOf(), 100, impl.MaxNumber-1), withTimesOf(tableOf(21, 20), 100, impl.MaxNumber-1),
	} {
		expectChallenge(t, "given out", x, challenged(x), nonceText(x.Next), impl.NcOk)
	}
	other := tableOf(21, 20)
	other.Secret = "!abcdefghijkl"
	expectChallenge(t, "by another secret", other, challenged(other), "(hash !abcdefghijkl n90)", impl.NcOk)
}

func TestChallengeThatIsRefused(t *testing.T) {
	for _, x := range wrongTables() {
		expectChallenge(t, "no table", x, impl.Table{}, "", impl.NcTable)
	}
	for _, ages := range [][]int64{{0, 0, 0, 0, 0, 0, 0, 0}, {20, 20, 20, 20, 20, 20, 20, 20}, {20, 19, 18, 17, 16, 15, 14, 0}} {
		expectChallenge(t, "busy", tableOf(ages...), tableOf(ages...), "", impl.NcBusy)
		end := withTimesOf(tableOf(ages...), 100, impl.MaxNumber)
		expectChallenge(t, "busy and at the end", end, end, "", impl.NcBusy)
	}
	for _, ages := range [][]int64{nil, {0}, {21}, {50, 21, 20, 0}, {21, 20, 20, 20, 20, 20, 20, 20}, {21, 21, 21, 21, 21, 21, 21, 21}, {20, 20, 20, 20, 20, 20, 20}} {
		end := withTimesOf(tableOf(ages...), 100, impl.MaxNumber)
		expectChallenge(t, "at the end, where what is expired stays", end, end, "", impl.NcEnd)
	}
	wrong := withTimesOf(tableOf(0, 0, 0, 0, 0, 0, 0, 0, 0), 100, impl.MaxNumber)
	expectChallenge(t, "no table, and at the end", wrong, impl.Table{}, "", impl.NcTable)
}

func expectPass(t *testing.T, x impl.Table, ticks int64, there bool) {
	t.Helper()
	want := impl.Table{}
	if there {
		want = withTimesOf(x, x.Now+ticks, x.Next)
	}
	if got, ok := impl.Pass(x, ticks); ok != there || !sameTable(got, want) {
		t.Errorf("pass of %v by %d: got %v %v, want %v", x, ticks, got, ok, want)
	}
}

func TestPass(t *testing.T) {
	for _, x := range rightTables() {
		left := impl.MaxNumber - x.Now
		for _, ticks := range []int64{0, 1, 20, 21, left / 2, left - 1, left} {
			expectPass(t, x, ticks, ticks >= 0 && ticks <= left)
		}
		for _, ticks := range []int64{-1, -x.Now - 1, math.MinInt64, left + 1, math.MaxInt64, math.MaxInt64 - x.Now} {
			expectPass(t, x, ticks, false)
		}
	}
	for _, x := range wrongTables() {
		for _, ticks := range []int64{-1, 0, 1, 101, math.MinInt64, math.MaxInt64} {
			expectPass(t, x, ticks, false)
		}
	}
}

func expectSpend(t *testing.T, what string, x impl.Table, nonce string, want impl.Table, wantCode int64) {
	t.Helper()
	if got, code := impl.Spend(x, nonce); !sameTable(got, want) || code != wantCode {
		t.Errorf("%s: spend %.100q of %v: got %v %d, want %v %d", what, nonce, x, got, code, want, wantCode)
	}
}

func withoutNonce(x impl.Table, at int) impl.Table {
	return withOpen(x, slices.Delete(slices.Clone(x.Open), at, at+1)...)
}

func TestSpendOfEachPlace(t *testing.T) {
	for _, x := range rightTables() {
		for at, n := range x.Open {
			nonce := "(hash " + x.Secret + " " + nameOf(n.Number) + ")"
			if x.Now-n.Born > 20 {
				expectSpend(t, "expired", x, nonce, x, impl.NcExpired)
				continue
			}
			// What is expired stays in Open.
			expectSpend(t, "open", x, nonce, withoutNonce(x, at), impl.NcOk)
			expectSpend(t, "spent already", withoutNonce(x, at), nonce, withoutNonce(x, at), impl.NcUnknown)
		}
	}
	expectSpend(t, "the first one", tableOf(5, 4, 3), nonceText(2), withoutNonce(tableOf(5, 4, 3), 0), impl.NcOk)
	expectSpend(t, "the middle one", tableOf(5, 4, 3), nonceText(5), withoutNonce(tableOf(5, 4, 3), 1), impl.NcOk)
	expectSpend(t, "the last one", tableOf(5, 4, 3), nonceText(8), withoutNonce(tableOf(5, 4, 3), 2), impl.NcOk)
	expectSpend(t, "the only one", tableOf(0), nonceText(2), tableOf(), impl.NcOk)
	expectSpend(t, "at MaxAge", tableOf(20), nonceText(2), tableOf(), impl.NcOk)
	expectSpend(t, "one older", tableOf(21), nonceText(2), tableOf(21), impl.NcExpired)
	oldest := impl.Table{Secret: "!v", Now: impl.MaxNumber, Next: impl.MaxNumber, Open: []impl.Nonce{{Number: 2}}}
	expectSpend(t, "as old as can be", oldest, nonceText(2), oldest, impl.NcExpired)
	mixed := tableOf(40, 21, 20, 3)
	expectSpend(t, "with expired ones beside it", mixed, nonceText(8), withOpen(mixed, mixed.Open[0], mixed.Open[1], mixed.Open[3]), impl.NcOk)
}

func TestSpendOfWhatIsNotOpen(t *testing.T) {
	texts := append(allNoTerms(), "a", "!v", "n2", "(hash n2)", "(hash !v)", "(hash !v n02)", "(hash !v n2 n2)", "(hash n2 !v)", "(hash !w n2)", "(hash !vv n2)", "(hash v n2)", "(pair !v n2)", "(seal !v n2)", "(sign !v n2)", "(hash (hash !v n2))", "(hash !v (hash !v n2))", " (hash !v n2)", "(hash !v n2) ", "(hash !v n2)(hash !v n5)", "(hash  !v n2)", "(hash !v n2", "(hash !v n-1)", "(hash !v n1000000001)", nested(impl.MaxDeep, "a"), termOf(impl.MaxTerm))
	texts = append(texts, nonceTexts(0, 1, 3, 4, 6, 88, 89, 90, 91, impl.MaxNumber)...)
	for _, x := range []impl.Table{tableOf(), tableOf(0), tableOf(21), tableOf(40, 21, 20, 3, 0), tableOf(slices.Repeat([]int64{0}, impl.MaxNonces)...)} {
		for _, text := range texts {
			if len(x.Open) == 0 || text != nonceText(2) {
				expectSpend(t, "not open", x, text, x, impl.NcUnknown)
			}
		}
	}
	for _, x := range wrongTables() {
		for _, text := range []string{nonceText(2), nonceText(5), nonceText(0), nonceText(90), "", "a"} {
			expectSpend(t, "no table", x, text, impl.Table{}, impl.NcTable)
		}
	}
	other := tableOf(0)
	other.Secret = "!w"
	expectSpend(t, "by another secret", other, nonceText(2), other, impl.NcUnknown)
	expectSpend(t, "by its own secret", other, "(hash !w n2)", withoutNonce(other, 0), impl.NcOk)
}

func TestOpenNow(t *testing.T) {
	for _, x := range rightTables() {
		var want []string
		for _, n := range freshOf(x) {
			want = append(want, "(hash "+x.Secret+" "+nameOf(n.Number)+")")
		}
		expect(t, "open now", impl.OpenNow(x), want...)
	}
	expect(t, "none", impl.OpenNow(tableOf()))
	expect(t, "none expired", impl.OpenNow(tableOf(20, 3, 0)), nonceTexts(2, 5, 8)...)
	expect(t, "some expired", impl.OpenNow(tableOf(99, 21, 20, 0)), nonceTexts(8, 11)...)
	expect(t, "all expired", impl.OpenNow(tableOf(99, 22, 21)))
	// By their numbers, not by their texts.
	expect(t, "in order", impl.OpenNow(tableOf(1, 1, 1, 1, 1)), nonceTexts(2, 5, 8, 11, 14)...)
	for _, x := range wrongTables() {
		expect(t, "no table", impl.OpenNow(x))
	}
}

// A nonceWalk goes on from a Table, and knows of each nonce that was given out when it was born and whether it is spent.
type nonceWalk struct {
	table impl.Table
	born  map[string]int64
	spent map[string]bool
}

func (w *nonceWalk) challenge(t *testing.T) {
	t.Helper()
	open := 0
	for nonce, born := range w.born {
		if !w.spent[nonce] && w.table.Now-born <= impl.MaxAge {
			open++
		}
	}
	next, nonce, code := impl.Challenge(w.table)
	if open == impl.MaxNonces {
		expectChallenge(t, "busy", w.table, w.table, "", impl.NcBusy)
		return
	}
	if _, twice := w.born[nonce]; code != impl.NcOk || twice || len(impl.OpenNow(next)) != open+1 {
		t.Error("it is not busy", w.table, next, nonce, code)
	}
	w.table, w.born[nonce] = next, next.Now
}

func (w *nonceWalk) spend(t *testing.T, nonce string) {
	t.Helper()
	born, given := w.born[nonce]
	good := given && !w.spent[nonce] && w.table.Now-born <= impl.MaxAge
	next, code := impl.Spend(w.table, nonce)
	if good != (code == impl.NcOk) || slices.Contains(impl.OpenNow(w.table), nonce) != good {
		t.Error("spend", w.table, nonce, code)
	}
	if !good && !sameTable(next, w.table) {
		t.Error("refused, and another one", w.table, next)
	}
	w.table = next
	w.spent[nonce] = w.spent[nonce] || good
}

// Promise 12: a nonce is spent once, and not when it is too old; a table is never busy with fewer than MaxNonces that are open.
func TestNoncesAreSpentOnce(t *testing.T) {
	r := rand.New(rand.NewSource(43))
	for range 60 {
		w := nonceWalk{table: impl.Table{Secret: "!v"}, born: map[string]int64{}, spent: map[string]bool{}}
		for range 150 {
			switch r.Intn(6) {
			case 0, 1, 2:
				w.challenge(t)
			case 3, 4:
				w.spend(t, nonceText(max(0, w.table.Next-r.Int63n(12))))
			case 5:
				next, ok := impl.Pass(w.table, r.Int63n(9))
				if !ok {
					t.Fatal("it passes", w.table)
				}
				w.table = next
			}
			if !impl.TableOk(w.table) {
				t.Fatal("it is right no more", w.table)
			}
		}
	}
}

func TestNoncesToTheEnd(t *testing.T) {
	x := impl.Table{Secret: "!v", Now: impl.MaxNumber, Next: impl.MaxNumber - 1}
	x, nonce, code := impl.Challenge(x)
	if nonce != nonceText(impl.MaxNumber-1) || code != impl.NcOk || !impl.TableOk(x) {
		t.Error(x, nonce, code)
	}
	expectChallenge(t, "the end", x, x, "", impl.NcEnd)
	expectPass(t, x, 0, true)
	expectPass(t, x, 1, false)
	expectSpend(t, "at the end", x, nonce, withOpen(x), impl.NcOk)
}

func TestNoncesGrowOld(t *testing.T) {
	x := impl.Table{Secret: "!v"}
	for range impl.MaxNonces {
		x, _, _ = impl.Challenge(x)
	}
	expectChallenge(t, "busy at once", x, x, "", impl.NcBusy)
	old, _ := impl.Pass(x, impl.MaxAge)
	expectChallenge(t, "busy to the last", old, old, "", impl.NcBusy)
	expectSpend(t, "to the last", old, nonceText(3), withoutNonce(old, 3), impl.NcOk)
	older, _ := impl.Pass(old, 1)
	expectSpend(t, "too old", older, nonceText(3), older, impl.NcExpired)
	expectChallenge(t, "busy no more", older, challenged(older), nonceText(8), impl.NcOk)
	next, _, _ := impl.Challenge(older)
	expectSpend(t, "left out", next, nonceText(3), next, impl.NcUnknown)
	spent, _ := impl.Spend(old, nonceText(3))
	expectChallenge(t, "one was spent", spent, challenged(spent), nonceText(8), impl.NcOk)
}
