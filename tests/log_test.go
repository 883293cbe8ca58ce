package tests

import (
	"bytes"
	"math"
	"math/rand"
	"slices"
	"strings"
	"testing"

	"loop.example/g00082/impl"
)

// numberBytes is a number in bytes, as the document tells it.
func numberBytes(n int) []byte {
	if n < 128 {
		return []byte{byte(n)}
	}
	return append([]byte{byte(128 + n%128)}, numberBytes(n/128)...)
}

// longer is a number with one byte more than it needs.
func longer(n int) []byte {
	data := numberBytes(n)
	data[len(data)-1] += 128
	return append(data, 0)
}

// A logPiece is a number, a Register or a Measure, with the place at which it begins.
type logPiece struct {
	at   int
	data []byte
}

// piecesOf is what stands behind the start of a log, as the document tells it.
func piecesOf(events []impl.Event) []logPiece {
	var pieces []logPiece
	at := 2
	put := func(data []byte) {
		pieces = append(pieces, logPiece{at, data})
		at += len(data)
	}
	put(numberBytes(len(events)))
	for _, e := range events {
		put([]byte{byte(e.Register)})
		put(numberBytes(len(e.Measure)))
		put([]byte(e.Measure))
	}
	return pieces
}

func logBytes(events []impl.Event) []byte {
	data := []byte{81, 76}
	for _, p := range piecesOf(events) {
		data = append(data, p.data...)
	}
	return data
}

// logWith is the start of a log and what stands behind it: numbers are bytes, texts are their bytes.
func logWith(parts ...any) []byte {
	data := []byte{81, 76}
	for _, p := range parts {
		switch x := p.(type) {
		case int:
			data = append(data, byte(x))
		case string:
			data = append(data, x...)
		case []byte:
			data = append(data, x...)
		}
	}
	return data
}

func eventsOfSizes(sizes ...int) []impl.Event {
	var events []impl.Event
	for i, size := range sizes {
		events = append(events, impl.Event{Register: inTurn(i), Measure: termOf(size)})
	}
	return events
}

func expectWritten(t *testing.T, what string, events []impl.Event) {
	t.Helper()
	want := logBytes(events)
	if got := impl.WriteLog(events); !bytes.Equal(got, want) {
		t.Errorf("%s: written %.200q, want %.200q", what, got, want)
	}
	expectReadBack(t, what, want, events)
}

func expectReadBack(t *testing.T, what string, data []byte, want []impl.Event) {
	t.Helper()
	if got, code, at := impl.ReadLog(data); code != 0 || at != -1 || !slices.Equal(got, want) {
		t.Errorf("%s: read %.200v %d %d, want %.200v", what, got, code, at, want)
	}
}

func expectFault(t *testing.T, what string, data []byte, wantCode int64, wantAt int64) {
	t.Helper()
	if got, code, at := impl.ReadLog(data); code != wantCode || at != wantAt || len(got) != 0 {
		t.Errorf("%s: read %d %d of %.60q: %.200v, want %d %d", what, code, at, data, got, wantCode, wantAt)
	}
}

func expectNotWritten(t *testing.T, what string, events []impl.Event) {
	t.Helper()
	if got := impl.WriteLog(events); len(got) != 0 {
		t.Errorf("%s: written %.200q", what, got)
	}
}

func TestWriteLog(t *testing.T) {
	if got := impl.WriteLog(nil); !bytes.Equal(got, []byte{81, 76, 0}) {
		t.Error("nothing", got)
	}
	expectWritten(t, "nothing", nil)
	expectWritten(t, "an empty list", []impl.Event{})
	got := impl.WriteLog([]impl.Event{{Register: 7, Measure: "(hash a !b)"}, {Register: 0, Measure: termOf(300)}})
	if want := logWith(2, 7, 11, "(hash a !b)", 0, 128+44, 2, termOf(300)); !bytes.Equal(got, want) {
		t.Error(got, want)
	}
	for at := range int64(8) {
		expectWritten(t, "a register", []impl.Event{{Register: at, Measure: "m"}})
	}
	for _, size := range []int{1, 126, 127, 128, 129, 255, 256, 300, 3999, impl.MaxTerm} {
		expectWritten(t, "a size", eventsOfSizes(size, 1, size))
	}
	expectWritten(t, "the most events", stepsOf(impl.MaxEvents, inTurn))
	expectWritten(t, "what does not fold", stepsOf(impl.MaxEvents, inThree))
}

func TestLogsThatAreNotWritten(t *testing.T) {
	expectNotWritten(t, "an event too many", stepsOf(impl.MaxEvents+1, inTurn))
	var wrong []impl.Event
	for _, at := range []int64{-1, 8, 255, 256, 257, math.MinInt64, math.MaxInt64} {
		wrong = append(wrong, impl.Event{Register: at, Measure: "a"})
	}
	for _, noTerm := range []string{"", "A", "a b", "(hash a", "a\x00", nested(impl.MaxDeep+1, "a"), termOf(impl.MaxTerm + 1)} {
		wrong = append(wrong, impl.Event{Register: 1, Measure: noTerm})
	}
	for _, e := range wrong {
		for at := range 4 {
			expectNotWritten(t, "a wrong event", slices.Insert(stepsOf(3, inTurn), at, e))
		}
	}
}

// longLog has just so many bytes.
func longLog(size int) []impl.Event {
	const each = 3997
	left := size - 3
	var sizes []int
	for left > each+3 {
		sizes = append(sizes, each)
		left -= each + 3
	}
	return eventsOfSizes(append(sizes, left-3)...)
}

func TestLogsOfTheMostBytes(t *testing.T) {
	for _, size := range []int{impl.MaxLogged - 1, impl.MaxLogged} {
		events := longLog(size)
		if n := len(impl.WriteLog(events)); n != size {
			t.Error("bytes", n, size)
		}
		expectWritten(t, "just as long", events)
	}
	over := longLog(impl.MaxLogged + 1)
	if len(over) > impl.MaxEvents || len(logBytes(over)) != impl.MaxLogged+1 {
		t.Fatal("it is right but for its bytes")
	}
	expectNotWritten(t, "a byte too many", over)
	expectFault(t, "a byte too many", logBytes(over), impl.LgLong, 0)
	expectNotWritten(t, "far too many", eventsOfSizes(slices.Repeat([]int{impl.MaxTerm}, impl.MaxEvents)...))
	// What is too long is not looked at; what is just long enough is.
	expectFault(t, "long, and no start", make([]byte, impl.MaxLogged+1), impl.LgLong, 0)
	expectFault(t, "just no start", make([]byte, impl.MaxLogged), impl.LgStart, 0)
	expectFault(t, "long, and left over", append(logWith(0), make([]byte, impl.MaxLogged-2)...), impl.LgLong, 0)
	expectFault(t, "left over", append(logWith(0), make([]byte, impl.MaxLogged-3)...), impl.LgMore, 3)
}

func TestStartOfALog(t *testing.T) {
	for _, data := range [][]byte{nil, {}, {81}, {76}, {0}, {76, 81}, {81, 75, 0}, {80, 76, 0}, {81, 81, 76, 0}, {0, 0}, {81, 77}, {209, 76, 0}} {
		expectFault(t, "start", data, impl.LgStart, 0)
	}
}

func TestFaultsOfALog(t *testing.T) {
	if !slices.Equal([]int64{impl.LgLong, impl.LgStart, impl.LgShort, impl.LgNumber, impl.LgMany, impl.LgRegister, impl.LgTerm, impl.LgMore}, []int64{1, 2, 3, 4, 5, 6, 7, 8}) || impl.MaxLogged != 60000 {
		t.Error("numbers of the codes")
	}
	for _, c := range []struct {
		data     []byte
		code, at int64
	}{
		{logWith(), impl.LgShort, 2},
		{logWith(61), impl.LgMany, 2}, {logWith(127, 9), impl.LgMany, 2}, {logWith(128, 1, 0, 0), impl.LgMany, 2},
		{logWith(60), impl.LgShort, 3}, {logWith(1), impl.LgShort, 3},
		{logWith(1, 7), impl.LgShort, 4}, {logWith(1, 8), impl.LgRegister, 3}, {logWith(1, 8, 1, "a"), impl.LgRegister, 3}, {logWith(1, 128, 0), impl.LgRegister, 3}, {logWith(1, 255), impl.LgRegister, 3}, {logWith(1, 8, 0), impl.LgRegister, 3},
		{logWith(1, 7, 0), impl.LgTerm, 4}, {logWith(1, 7, 0, "a"), impl.LgTerm, 4},
		{logWith(1, 7, 1), impl.LgShort, 5}, {logWith(1, 7, 2, "A"), impl.LgShort, 5}, {logWith(1, 7, 2, "a"), impl.LgShort, 5},
		{logWith(1, 7, 1, "A"), impl.LgTerm, 5}, {logWith(1, 7, 1, "A", 0), impl.LgTerm, 5}, {logWith(1, 7, 2, "aA"), impl.LgTerm, 5}, {logWith(2, 7, 8, "(hash a)", 0, 8, "(hash a("), impl.LgTerm, 15},
		{logWith(0, 0), impl.LgMore, 3}, {logWith(0, "QL"), impl.LgMore, 3}, {logWith(1, 7, 1, "ab"), impl.LgMore, 6}, {logWith(1, 7, 1, "aA"), impl.LgMore, 6}, {logWith(1, 7, 1, "a", 128), impl.LgMore, 6},
		{logWith(2, 7, 1, "a"), impl.LgShort, 6}, {logWith(2, 7, 1, "a", 9), impl.LgRegister, 6}, {logWith(2, 7, 1, "a", 0), impl.LgShort, 7}, {logWith(2, 7, 1, "a", 0, 0), impl.LgTerm, 7}, {logWith(2, 7, 1, "a", 0, 1), impl.LgShort, 8}, {logWith(2, 7, 1, "a", 0, 1, "!"), impl.LgTerm, 8},
		{logWith(2, 9, 1, "A", 9), impl.LgRegister, 3}, {logWith(2, 1, 1, "A", 9), impl.LgTerm, 5}, {logWith(2, 1, 0, 9), impl.LgTerm, 4},
	} {
		expectFault(t, "fault", c.data, c.code, c.at)
	}
}

func TestMeasuresOfALog(t *testing.T) {
	for _, size := range []int{1, 12, 127, 128, 3999, impl.MaxTerm} {
		expectReadBack(t, "a size", logWith(1, 5, numberBytes(size), termOf(size)), []impl.Event{{Register: 5, Measure: termOf(size)}})
		expectFault(t, "a byte that is none", logWith(1, 5, numberBytes(size), termOf(size)[1:], " "), impl.LgTerm, int64(4+len(numberBytes(size))))
	}
	for _, size := range []int{impl.MaxTerm + 1, 16383, 16384, impl.MaxNumber} {
		expectFault(t, "too long a term", logWith(1, 5, numberBytes(size)), impl.LgTerm, 4)
		expectFault(t, "too long a term", logWith(1, 5, numberBytes(size), termOf(impl.MaxTerm+1)), impl.LgTerm, 4)
	}
	expectFault(t, "a term that ends", logWith(1, 5, numberBytes(impl.MaxTerm), termOf(impl.MaxTerm-1)), impl.LgShort, 6)
	deep := nested(impl.MaxDeep+1, "a")
	expectFault(t, "brackets", logWith(1, 5, numberBytes(len(deep)), deep), impl.LgTerm, 6)
	expectReadBack(t, "brackets", logWith(1, 5, numberBytes(len(deep)-7), nested(impl.MaxDeep, "a")), []impl.Event{{Register: 5, Measure: nested(impl.MaxDeep, "a")}})
}

// A log's first number has two or more bytes only where it is refused; a length has two where it is not.
func TestNumbersOfALog(t *testing.T) {
	const events, length = 2, 4
	for what, c := range map[string]struct {
		number         []byte
		events, length int64
	}{
		"not short, 0":              {longer(0), impl.LgNumber, impl.LgNumber},
		"not short, 1":              {longer(1), impl.LgNumber, impl.LgNumber},
		"not short, 128":            {longer(128), impl.LgNumber, impl.LgNumber},
		"not short, four bytes":     {longer(1 << 20), impl.LgNumber, impl.LgNumber},
		"not short, the greatest":   {longer(impl.MaxNumber), impl.LgNumber, impl.LgNumber},
		"not short by two bytes":    {[]byte{129, 128, 0}, impl.LgNumber, impl.LgNumber},
		"not short by four bytes":   {[]byte{129, 128, 128, 128, 0}, impl.LgNumber, impl.LgNumber},
		"not short by many":         {append(bytes.Repeat([]byte{128}, 40), 0), impl.LgNumber, impl.LgNumber},
		"the greatest":              {numberBytes(impl.MaxNumber), impl.LgMany, impl.LgTerm},
		"one more":                  {numberBytes(impl.MaxNumber + 1), impl.LgNumber, impl.LgNumber},
		"five bytes":                {[]byte{255, 255, 255, 255, 127}, impl.LgNumber, impl.LgNumber},
		"six bytes":                 {[]byte{128, 128, 128, 128, 128, 1}, impl.LgNumber, impl.LgNumber},
		"32 bits and 1":             {numberBytes(1<<32 + 1), impl.LgNumber, impl.LgNumber},
		"63 bits":                   {numberBytes(math.MaxInt64), impl.LgNumber, impl.LgNumber},
		"64 bits":                   {append(bytes.Repeat([]byte{255}, 9), 1), impl.LgNumber, impl.LgNumber},
		"64 bits and 1":             {append([]byte{129}, append(bytes.Repeat([]byte{128}, 8), 2)...), impl.LgNumber, impl.LgNumber},
		"beyond 64 bits":            {append([]byte{129}, append(bytes.Repeat([]byte{128}, 9), 1)...), impl.LgNumber, impl.LgNumber},
		"far beyond 64 bits":        {append([]byte{129}, append(bytes.Repeat([]byte{128}, 300), 1)...), impl.LgNumber, impl.LgNumber},
		"one that ends":             {[]byte{128}, impl.LgShort, impl.LgShort},
		"a great one that ends":     {bytes.Repeat([]byte{255}, 5), impl.LgShort, impl.LgShort},
		"one beyond 64 that ends":   {bytes.Repeat([]byte{255}, 20), impl.LgShort, impl.LgShort},
		"noughts that end":          {bytes.Repeat([]byte{128}, 300), impl.LgShort, impl.LgShort},
		"two bytes":                 {[]byte{128, 1}, impl.LgMany, impl.LgShort},
		"three bytes":               {[]byte{128, 128, 1}, impl.LgMany, impl.LgTerm},
		"two bytes, the least over": {numberBytes(impl.MaxTerm + 1), impl.LgMany, impl.LgTerm},
	} {
		at := int64(length)
		if c.length == impl.LgShort && c.number[len(c.number)-1] < 128 {
			at += int64(len(c.number)) // the length is there, and the Measure is not
		}
		expectFault(t, what, logWith(c.number), c.events, events)
		expectFault(t, what, logWith(1, 0, c.number), c.length, at)
		if c.events != impl.LgShort {
			expectFault(t, what+", and more", logWith(c.number, 9, 9), c.events, events)
		}
	}
}

func someEvents(r *rand.Rand, most int) []impl.Event {
	var events []impl.Event
	for range r.Intn(most + 1) {
		events = append(events, impl.Event{Register: r.Int63n(8), Measure: someTerm(r, r.Intn(5))})
	}
	return events
}

// Promise 8: right logs come back from their bytes.
func TestLogsComeBack(t *testing.T) {
	r := rand.New(rand.NewSource(16))
	for range 500 {
		expectWritten(t, "some events", someEvents(r, 12))
	}
	for range 100 {
		d := runSome(t, r, upDevice(nil, nil))
		expectWritten(t, "a device's log", d.Log)
	}
}

func TestBeginningsOfLogs(t *testing.T) {
	r := rand.New(rand.NewSource(17))
	for _, events := range [][]impl.Event{nil, stepsOf(3, inTurn), eventsOfSizes(1, 130, 12), stepsOf(impl.MaxEvents, inTurn), someEvents(r, 9), someEvents(r, 9)} {
		data := logBytes(events)
		expectReadBack(t, "all of it", data, events)
		for n := range 2 {
			expectFault(t, "no start", data[:n], impl.LgStart, 0)
		}
		for _, p := range piecesOf(events) {
			for inside := range p.data {
				expectFault(t, "a beginning", data[:p.at+inside], impl.LgShort, int64(p.at))
			}
		}
		for more := range 256 {
			expectFault(t, "one byte more", append(slices.Clone(data), byte(more)), impl.LgMore, int64(len(data)))
		}
	}
}

// expectOwnBytes: what is read as a log is just what its events are written as.
func expectOwnBytes(t *testing.T, data []byte) {
	t.Helper()
	events, code, at := impl.ReadLog(data)
	if code == 0 {
		if back := impl.WriteLog(events); at != -1 || !bytes.Equal(back, data) {
			t.Errorf("read %q as %v, written %q", data, events, back)
		}
		return
	}
	if len(events) != 0 || code < 0 || code > impl.LgMore || at < 0 || at > int64(len(data)) {
		t.Errorf("refused %q: %v %d %d", data, events, code, at)
	}
}

// Promise 8: nothing else is read as one.
func TestTurnedBytesOfLogs(t *testing.T) {
	r := rand.New(rand.NewSource(18))
	for _, events := range [][]impl.Event{nil, stepsOf(3, inTurn), eventsOfSizes(1, 130, 12), someEvents(r, 4), someEvents(r, 4), loadsOf(someImages(3))} {
		data := logBytes(events)
		for at := range data {
			for other := range 256 {
				turned := slices.Clone(data)
				turned[at] = byte(other)
				expectOwnBytes(t, turned)
				if got, code, _ := impl.ReadLog(turned); code == 0 && slices.Equal(got, events) != (turned[at] == data[at]) {
					t.Error("another log with these events", turned, events)
				}
			}
			if at < 2 {
				turned := slices.Clone(data)
				turned[at] ^= 1
				expectFault(t, "the start", turned, impl.LgStart, 0)
			}
		}
	}
}

func TestSomeBytesAreNoLog(t *testing.T) {
	r := rand.New(rand.NewSource(19))
	from := []byte{0, 1, 1, 2, 7, 8, 128, 129, 'a', '!', 'b', 255}
	for range 30000 {
		data := []byte{81, 76}
		for range r.Intn(12) {
			data = append(data, from[r.Intn(len(from))])
		}
		expectOwnBytes(t, data)
	}
}

func TestFirstUnlike(t *testing.T) {
	list := func(measures string) []impl.Event {
		var events []impl.Event
		for i, m := range strings.Fields(measures) {
			events = append(events, impl.Event{Register: int64(i), Measure: m})
		}
		return events
	}
	turned := list("a b c")
	turned[1].Register = 7
	for what, c := range map[string]struct {
		a, b []impl.Event
		want int64
	}{
		"nothing":               {nil, nil, -1},
		"nothing and an empty":  {nil, []impl.Event{}, -1},
		"alike":                 {list("a b c"), list("a b c"), -1},
		"one ends":              {list("a b c"), list("a b"), 2},
		"one is empty":          {list("a b c"), nil, 0},
		"the first":             {list("a b c"), list("x b c"), 0},
		"the middle":            {list("a b c"), list("a x c"), 1},
		"the last":              {list("a b c"), list("a b x"), 2},
		"ahead of an end":       {list("a b c"), list("a x"), 1},
		"the Register alone":    {list("a b c"), turned, 1},
		"the first of two":      {list("a b c"), list("a x x"), 1},
		"a beginning of it":     {list("a bb"), list("a b"), 1},
		"no right events":       {[]impl.Event{{Register: -1}}, []impl.Event{{Register: -1, Measure: " "}}, 0},
		"no right events alike": {[]impl.Event{{Register: -1}}, []impl.Event{{Register: -1}}, -1},
		"many alike":            {stepsOf(500, inTurn), stepsOf(500, inTurn), -1},
		"many":                  {stepsOf(500, inTurn), stepsOf(400, inTurn), 400},
	} {
		if got := impl.FirstUnlike(c.a, c.b); got != c.want {
			t.Error(what, got, c.want)
		}
		if got := impl.FirstUnlike(c.b, c.a); got != c.want {
			t.Error(what+", turned round", got, c.want)
		}
	}
}
