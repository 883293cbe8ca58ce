package tests

import (
	"math"
	"math/rand"
	"slices"
	"testing"

	"loop.example/g00082/impl"
)

const divisor = 999983

func numbers(n int) []int64 {
	var all []int64
	for i := range n {
		all = append(all, int64(10+i))
	}
	return all
}

// copyWords is one copy, as the document tells it: wrong by so much in its check.
func copyWords(count int64, wrong int64, values ...int64) []int64 {
	sum := count
	for _, n := range values {
		sum += n
	}
	return slices.Concat([]int64{1 + sum%divisor + wrong}, values, []int64{count})
}

func twoCopies(first []int64, second []int64) impl.Nv {
	return impl.Nv{Size: int64(len(first)) - 2, Words: slices.Concat(first, second)}
}

func sameNv(a impl.Nv, b impl.Nv) bool {
	return a.Size == b.Size && slices.Equal(a.Words, b.Words)
}

func expectRead(t *testing.T, what string, v impl.Nv, count int64, values ...int64) {
	t.Helper()
	got, n, ok := impl.NvRead(v)
	if !ok || n != count || !slices.Equal(got, values) {
		t.Errorf("%s: got %v %d %v, want %v %d", what, got, n, ok, values, count)
	}
}

// expectNothing: nothing stands, so nothing can be put there; the writes of hand can still be done when it is formed.
func expectNothing(t *testing.T, what string, v impl.Nv, formed bool) {
	t.Helper()
	if got, n, ok := impl.NvRead(v); ok || n != 0 || len(got) != 0 {
		t.Errorf("%s: read %v %d %v", what, got, n, ok)
	}
	for size := range 23 {
		if got, ok := impl.NvWrites(v, numbers(size)); ok || len(got) != 0 {
			t.Errorf("%s: writes %v %v", what, got, ok)
		}
		if got, ok := impl.NvPut(v, numbers(size), 99); ok || !sameNv(got, impl.Nv{}) {
			t.Errorf("%s: put %v %v", what, got, ok)
		}
	}
	want := impl.Nv{}
	if formed {
		want = v
	}
	if got, ok := impl.NvApply(v, nil, 0); ok != formed || !sameNv(got, want) {
		t.Errorf("%s: apply %v %v", what, got, ok)
	}
}

func newNv(t *testing.T, values ...int64) impl.Nv {
	t.Helper()
	v, ok := impl.NvNew(values)
	if !ok {
		t.Fatal("no Nv of", values)
	}
	return v
}

func TestNvNew(t *testing.T) {
	for size := 1; size <= impl.MaxSize; size++ {
		v := newNv(t, numbers(size)...)
		want := twoCopies(copyWords(1, 0, numbers(size)...), make([]int64, size+2))
		if !sameNv(v, want) || v.Size != int64(size) {
			t.Error(v, want)
		}
		expectRead(t, "new", v, 1, numbers(size)...)
	}
	most := slices.Repeat([]int64{impl.MaxNumber}, impl.MaxSize)
	expectRead(t, "greatest", newNv(t, most...), 1, most...)
	expectRead(t, "least", newNv(t, 0), 1, 0)
	for _, wrong := range [][]int64{nil, {}, numbers(21), {-1}, {impl.MaxNumber + 1}, {3, 4, -1}, {3, impl.MaxNumber + 1, 4}, {math.MinInt64}, {math.MaxInt64}} {
		if v, ok := impl.NvNew(wrong); ok || !sameNv(v, impl.Nv{}) {
			t.Error("wrong values", wrong, v, ok)
		}
	}
}

func TestNvFormed(t *testing.T) {
	for size := int64(1); size <= impl.MaxSize; size++ {
		good := newNv(t, numbers(int(size))...)
		expectNothing(t, "a word too few", impl.Nv{Size: size, Words: good.Words[:len(good.Words)-1]}, false)
		expectNothing(t, "a word too many", impl.Nv{Size: size, Words: append(slices.Clone(good.Words), 0)}, false)
		expectNothing(t, "a greater size", impl.Nv{Size: size + 1, Words: good.Words}, false)
		expectNothing(t, "a smaller size", impl.Nv{Size: size - 1, Words: good.Words}, false)
		expectNothing(t, "one copy alone", impl.Nv{Size: size, Words: good.Words[:size+2]}, false)
	}
	for _, size := range []int64{0, -1, -2, 21, 22, math.MinInt64, math.MinInt64 + 1, math.MaxInt64, math.MaxInt64/2 - 1, math.MaxInt64 / 2} {
		for words := range int64(60) {
			expectNothing(t, "no such size", impl.Nv{Size: size, Words: make([]int64, words)}, false)
		}
	}
	expectNothing(t, "nothing", impl.Nv{}, false)
	empty := twoCopies(copyWords(1, 0), copyWords(1, 0))
	expectNothing(t, "size 0", empty, false)
	over := twoCopies(copyWords(1, 0, numbers(21)...), copyWords(1, 0, numbers(21)...))
	expectNothing(t, "size 21", over, false)
}

func TestNvWords(t *testing.T) {
	for size := 1; size <= impl.MaxSize; size++ {
		good := newNv(t, numbers(size)...)
		for at := range good.Words {
			for _, wrong := range []int64{-1, impl.MaxNumber + 1, math.MinInt64, math.MaxInt64} {
				bad := impl.Nv{Size: good.Size, Words: slices.Clone(good.Words)}
				bad.Words[at] = wrong
				expectNothing(t, "a word out of bounds", bad, false)
			}
		}
		// In the copy that is not whole any number is a word.
		for at := size + 2; at < len(good.Words); at++ {
			other := impl.Nv{Size: good.Size, Words: slices.Clone(good.Words)}
			other.Words[at] = impl.MaxNumber
			expectRead(t, "a great word in the second copy", other, 1, numbers(size)...)
		}
	}
	expectRead(t, "bounds", twoCopies(copyWords(4, 0, 0, impl.MaxNumber), copyWords(0, 0, 1, 1)), 4, 0, impl.MaxNumber)
}

func TestNvWhole(t *testing.T) {
	none := copyWords(0, -1, 0, 0)
	for _, wrong := range []int64{-1, 1, divisor, -16, 5} {
		v := twoCopies(copyWords(5, wrong, 3, 7), none)
		expectNothing(t, "wrong check", v, true)
		expectRead(t, "the other one", twoCopies(copyWords(5, wrong, 3, 7), copyWords(2, 0, 8, 9)), 2, 8, 9)
		expectRead(t, "the other one", twoCopies(copyWords(2, 0, 8, 9), copyWords(5, wrong, 3, 7)), 2, 8, 9)
	}
	expectNothing(t, "zeros", twoCopies(none, none), true)
	expectNothing(t, "count 0, check right", twoCopies(copyWords(0, 0, 3, 7), copyWords(0, 0, 3, 7)), true)
	expectNothing(t, "numbers 0, check right", twoCopies(copyWords(0, 0, 0, 0), none), true)
	expectRead(t, "count 0 beside a whole one", twoCopies(copyWords(0, 0, 3, 7), copyWords(1, 0, 4, 4)), 1, 4, 4)
	for _, count := range []int64{1, 2, impl.MaxNumber - 1, impl.MaxNumber} {
		expectRead(t, "first alone", twoCopies(copyWords(count, 0, 3, 7), none), count, 3, 7)
		expectRead(t, "second alone", twoCopies(none, copyWords(count, 0, 3, 7)), count, 3, 7)
	}
	// A count of 2 changed to 3 or numbers that are exchanged with the count are told apart by the sum alone.
	expectNothing(t, "another count", twoCopies([]int64{1 + 3 + 7 + 2, 3, 7, 3}, none), true)
	expectRead(t, "an equal sum", twoCopies([]int64{1 + 3 + 7 + 2, 7, 2, 3}, none), 3, 7, 2)
}

func TestNvSumOfTheDivisor(t *testing.T) {
	for _, values := range [][]int64{{divisor - 1}, {2*divisor - 1}, {1000*divisor - 1}, {divisor - 2, 1}, slices.Repeat([]int64{divisor}, 3)} {
		v := twoCopies(copyWords(1, 0, values...), make([]int64, len(values)+2))
		expectRead(t, "a sum of the divisor", v, 1, values...)
		if made := newNv(t, values...); !sameNv(made, v) {
			t.Error(made, v)
		}
	}
	if v := newNv(t, divisor-1); v.Words[0] != 1 {
		t.Error("a check is 1 there", v)
	}
	if v := newNv(t, divisor-2); v.Words[0] != divisor {
		t.Error("the greatest check", v)
	}
	zero := []int64{0, divisor - 1, 1}
	expectNothing(t, "check 0", twoCopies(zero, []int64{0, 0, 0}), true)
	expectNothing(t, "check one round more", twoCopies([]int64{1 + divisor, divisor - 1, 1}, zero), true)
}

func TestNvWhichStands(t *testing.T) {
	for _, c := range []struct{ first, second int64 }{{1, 2}, {2, 1}, {3, 3}, {1, impl.MaxNumber}, {impl.MaxNumber, impl.MaxNumber - 1}, {impl.MaxNumber, impl.MaxNumber}, {9, 10}, {10, 9}} {
		v := twoCopies(copyWords(c.first, 0, 3, 7), copyWords(c.second, 0, 8, 9))
		count, values, other := c.first, []int64{3, 7}, int64(4)
		if c.second > c.first {
			count, values, other = c.second, []int64{8, 9}, 0
		}
		expectRead(t, "two whole copies", v, count, values...)
		writes, ok := impl.NvWrites(v, []int64{5, 6})
		if ok != (count < impl.MaxNumber) {
			t.Error("writes", c, ok)
		}
		if ok && !slices.Equal(writes, changeOf(other, count+1, 5, 6)) {
			t.Error("writes", c, writes)
		}
	}
}

// changeOf is the writes that put numbers into the copy that begins at start.
func changeOf(start int64, count int64, values ...int64) []impl.Write {
	words := copyWords(count, 0, values...)
	writes := []impl.Write{{At: start}}
	for at := 1; at < len(words); at++ {
		writes = append(writes, impl.Write{At: start + int64(at), Value: words[at]})
	}
	return append(writes, impl.Write{At: start, Value: words[0]})
}

func TestNvWrites(t *testing.T) {
	for size := 1; size <= impl.MaxSize; size++ {
		v := newNv(t, numbers(size)...)
		other := int64(size) + 2
		for count := int64(2); count < 6; count++ {
			values := numbers(size)
			values[0], values[size-1] = count*1000, impl.MaxNumber
			writes, ok := impl.NvWrites(v, values)
			if !ok || !slices.Equal(writes, changeOf(other, count, values...)) {
				t.Error(size, count, writes, ok)
			}
			v, _ = impl.NvPut(v, values, int64(size)+3)
			expectRead(t, "put", v, count, values...)
			other = int64(size) + 2 - other
		}
		for _, wrong := range [][]int64{nil, numbers(size - 1), numbers(size + 1), append(numbers(size-1), -1), append(numbers(size-1), impl.MaxNumber+1)} {
			if got, ok := impl.NvWrites(v, wrong); ok || len(got) != 0 {
				t.Error("wrong values", wrong, got)
			}
			if got, ok := impl.NvPut(v, wrong, 3); ok || !sameNv(got, impl.Nv{}) {
				t.Error("wrong values", wrong, got)
			}
		}
	}
}

func TestNvGreatestCount(t *testing.T) {
	v := twoCopies(copyWords(impl.MaxNumber-1, 0, 3), copyWords(impl.MaxNumber-2, 0, 4))
	writes, ok := impl.NvWrites(v, []int64{5})
	if !ok || !slices.Equal(writes, changeOf(3, impl.MaxNumber, 5)) {
		t.Error(writes, ok)
	}
	v, ok = impl.NvPut(v, []int64{5}, 4)
	if !ok {
		t.Error("the greatest count is one")
	}
	expectRead(t, "the greatest count", v, impl.MaxNumber, 5)
	for cut := range int64(6) {
		if got, ok := impl.NvPut(v, []int64{6}, cut); ok || !sameNv(got, impl.Nv{}) {
			t.Error("beyond the greatest count", cut, got)
		}
	}
	if got, ok := impl.NvWrites(v, []int64{6}); ok || len(got) != 0 {
		t.Error("beyond the greatest count", got)
	}
	// It is the one of the copy that stands that matters.
	broken := twoCopies(copyWords(4, 0, 3), copyWords(impl.MaxNumber, 1, 4))
	if _, ok := impl.NvWrites(broken, []int64{5}); !ok {
		t.Error("the count of a copy that does not stand")
	}
}

func TestNvApply(t *testing.T) {
	v := newNv(t, 7, 9)
	last := int64(len(v.Words)) - 1
	writes := []impl.Write{{At: 0, Value: 0}, {At: last, Value: impl.MaxNumber}, {At: 1, Value: 5}, {At: 1, Value: 6}, {At: last, Value: 2}}
	words := slices.Clone(v.Words)
	for n := range int64(9) {
		got, ok := impl.NvApply(v, writes, n)
		if !ok || !sameNv(got, impl.Nv{Size: 2, Words: words}) {
			t.Error(n, got, ok)
		}
		if n < int64(len(writes)) {
			words[writes[n].At] = writes[n].Value
		}
	}
	if got, ok := impl.NvApply(v, writes, math.MaxInt64); !ok || !slices.Equal(got.Words, words) {
		t.Error(got, ok)
	}
	for _, n := range []int64{-1, -2, math.MinInt64} {
		if got, ok := impl.NvApply(v, writes, n); ok || !sameNv(got, impl.Nv{}) {
			t.Error("n below 0", n, got)
		}
		if got, ok := impl.NvPut(v, []int64{5, 6}, n); ok || !sameNv(got, impl.Nv{}) {
			t.Error("cut below 0", n, got)
		}
	}
}

func TestNvApplyWrongWrites(t *testing.T) {
	v := newNv(t, 7, 9)
	end := int64(len(v.Words))
	for _, wrong := range []impl.Write{{At: -1}, {At: end}, {At: math.MinInt64}, {At: math.MaxInt64}, {Value: -1}, {Value: impl.MaxNumber + 1}, {At: end - 1, Value: math.MinInt64}, {At: 3, Value: math.MaxInt64}} {
		writes := []impl.Write{{At: 1, Value: 1}, {At: 2, Value: 2}, wrong}
		for n := range int64(5) {
			if got, ok := impl.NvApply(v, writes, n); ok || !sameNv(got, impl.Nv{}) {
				t.Error("a wrong write", wrong, n, got)
			}
		}
		if _, ok := impl.NvApply(v, writes[:2], 5); !ok {
			t.Error("without it they are right")
		}
	}
}

func TestNvApplyMostWrites(t *testing.T) {
	v := newNv(t, 7)
	var writes []impl.Write
	for i := range int64(impl.MaxWrites) {
		writes = append(writes, impl.Write{At: i % 6, Value: i})
	}
	got, ok := impl.NvApply(v, writes, impl.MaxWrites)
	if !ok || !slices.Equal(got.Words, []int64{96, 97, 98, 99, 94, 95}) {
		t.Error(got, ok)
	}
	if got, ok := impl.NvApply(v, writes, 3); !ok || !slices.Equal(got.Words, []int64{0, 1, 2, 0, 0, 0}) {
		t.Error(got, ok)
	}
	writes = append(writes, impl.Write{At: 0, Value: 0})
	for _, n := range []int64{0, 1, 100, 101} {
		if got, ok := impl.NvApply(v, writes, n); ok || !sameNv(got, impl.Nv{}) {
			t.Error("a write too many", n, got)
		}
	}
	if got, ok := impl.NvApply(v, nil, 7); !ok || !sameNv(got, v) {
		t.Error("no writes", got, ok)
	}
}

// Promise 3: whatever was cut ahead of it, each change is there wholly or not at all.
func TestNvCutAgainAndAgain(t *testing.T) {
	r := rand.New(rand.NewSource(3))
	for range 400 {
		size := 1 + r.Intn(impl.MaxSize)
		values := someNumbers(r, size)
		v := newNv(t, values...)
		count := int64(1)
		for range 30 {
			next := someNumbers(r, size)
			all := int64(size) + 3
			cut := r.Int63n(all + 3)
			if r.Intn(4) == 0 {
				cut = all - 1
			}
			put, ok := impl.NvPut(v, next, cut)
			if !ok {
				t.Fatal("no put", v, next, cut)
			}
			if cut >= all {
				values, count = next, count+1
			}
			expectRead(t, "after a cut", put, count, values...)
			v = put
		}
	}
}

func someNumbers(r *rand.Rand, size int) []int64 {
	var all []int64
	for range size {
		switch r.Intn(4) {
		case 0:
			all = append(all, r.Int63n(3))
		case 1:
			all = append(all, impl.MaxNumber-r.Int63n(3))
		case 2:
			all = append(all, divisor*r.Int63n(1000))
		default:
			all = append(all, r.Int63n(impl.MaxNumber+1))
		}
	}
	return all
}

// someCopy is whole, or nearly so.
func someCopy(r *rand.Rand, size int) []int64 {
	words := copyWords(r.Int63n(4), 0, someNumbers(r, size)...)
	switch r.Intn(5) {
	case 0:
		words[0] = 0
	case 1:
		words[r.Intn(len(words))] = r.Int63n(5)
	case 2:
		return make([]int64, len(words))
	}
	return words
}

// Promise 3 for whatever is formed, not from NvNew on alone.
func TestNvCutOfWhateverIsFormed(t *testing.T) {
	r := rand.New(rand.NewSource(4))
	for range 2000 {
		size := 1 + r.Intn(4)
		v := twoCopies(someCopy(r, size), someCopy(r, size))
		values, count, there := impl.NvRead(v)
		next := someNumbers(r, size)
		writes, ok := impl.NvWrites(v, next)
		if ok != there {
			t.Fatal("writes there are just when it is read", v)
		}
		if !there {
			expectNothing(t, "some", v, true)
			continue
		}
		for cut := range int64(len(writes)) {
			put, ok := impl.NvPut(v, next, cut)
			done, okToo := impl.NvApply(v, writes, cut)
			if !ok || !okToo || !sameNv(put, done) {
				t.Error("put is apply of writes", put, done)
			}
			expectRead(t, "ahead", put, count, values...)
		}
		put, _ := impl.NvPut(v, next, int64(len(writes)))
		expectRead(t, "done", put, count+1, next...)
	}
}
