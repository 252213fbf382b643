package tests

import (
	"fmt"
	"math"
	"math/rand"
	"slices"
	"strings"
	"testing"

	"loop.example/g00308/impl"
)

func sameStates(a, b impl.State) bool {
	return a.Term == b.Term && a.Vote == b.Vote && slices.Equal(a.Log, b.Log)
}

func cloneState(s impl.State) impl.State {
	s.Log = slices.Clone(s.Log)
	return s
}

func stateShown(s impl.State) string {
	text := fmt.Sprintf("term %d, vote %d, %d entries", s.Term, s.Vote, len(s.Log))
	for _, e := range s.Log[:min(len(s.Log), 12)] {
		text += fmt.Sprintf(" %d:%.8q(%d)", e.Term, e.Data, len(e.Data))
	}
	return text
}

func storeShown(s impl.Store) string {
	return fmt.Sprintf("%d bytes, %d sure, %.60q", len(s.Data), s.Sure, s.Data)
}

// logOf has an entry a word: its Term, a colon, its Data.
func logOf(text string) []impl.Entry {
	var log []impl.Entry
	for _, word := range strings.Fields(text) {
		var e impl.Entry
		term, data, _ := strings.Cut(word, ":")
		fmt.Sscan(term, &e.Term)
		e.Data = data
		log = append(log, e)
	}
	return log
}

func stateOf(term, vote int, log string) impl.State {
	return impl.State{Term: term, Vote: vote, Log: logOf(log)}
}

func firstState() impl.State { return impl.State{Vote: -1} }

func termText(term, vote int) string {
	return string(fieldsOf([]string{"t", modelNumbers(term, vote)}))
}

func cutText(stay int) string { return string(fieldsOf([]string{"c", modelNumbers(stay)})) }

func entryText(term int, data string) string {
	return string(fieldsOf([]string{"e", modelNumbers(term), data}))
}

func modelStateOK(s impl.State) bool {
	if !inBounds(s.Term, 0, 1000) || !inBounds(s.Vote, -1, 4) || len(s.Log) > 60 {
		return false
	}
	for i, e := range s.Log {
		if e.Term < 1 || e.Term > s.Term || len(e.Data) > 400 || i > 0 && s.Log[i-1].Term > e.Term {
			return false
		}
	}
	return true
}

func modelRecords(was, now impl.State) []string {
	var list []string
	if was.Term != now.Term || was.Vote != now.Vote {
		list = append(list, termText(now.Term, now.Vote))
	}
	alike := min(len(was.Log), len(now.Log))
	for !slices.Equal(was.Log[:alike], now.Log[:alike]) {
		alike--
	}
	if len(was.Log) > alike {
		list = append(list, cutText(alike))
	}
	for _, e := range now.Log[alike:] {
		list = append(list, entryText(e.Term, e.Data))
	}
	return list
}

// modelTake answers the state as it was, and false, of what is no record that leads to a right state.
func modelTake(s impl.State, record string) (impl.State, bool) {
	fields, ok := modelFields([]byte(record))
	if !ok || len(fields) < 2 {
		return s, false
	}
	next, n := cloneState(s), modelReadNumbers(fields[1], -1)
	switch fmt.Sprintf("%s, %d fields, %d numbers", fields[0], len(fields), len(n)) {
	case "t, 2 fields, 2 numbers":
		next.Term, next.Vote = n[0], n[1]
	case "c, 2 fields, 1 numbers":
		if n[0] < 0 || n[0] >= len(s.Log) {
			return s, false
		}
		next.Log = next.Log[:n[0]]
	case "e, 3 fields, 1 numbers":
		next.Log = append(next.Log, impl.Entry{Term: n[0], Data: fields[2]})
	default:
		return s, false
	}
	if !modelStateOK(next) || next.Term < s.Term {
		return s, false
	}
	return next, true
}

func modelStoreOK(s impl.Store) bool { return len(s.Data) <= 60000 && inBounds(s.Sure, 0, len(s.Data)) }

// modelStored are the records of whole frames; sums is false if one is not right.
func modelStored(data string) (records []string, size int, sums bool) {
	for len(data)-size >= 7 {
		rest := data[size:]
		n := int(rest[0])<<16 + int(rest[1])<<8 + int(rest[2])
		if n < 1 || n > impl.MaxText {
			return records, size, false
		}
		if len(rest) < 7+n {
			break
		}
		if string(frameOf(rest[7:7+n])) != rest[:7+n] {
			return records, size, false
		}
		records, size = append(records, rest[7:7+n]), size+7+n
	}
	return records, size, true
}

func modelRecover(s impl.Store) (impl.State, impl.Store, int) {
	if !modelStoreOK(s) {
		return impl.State{}, impl.Store{}, impl.ErrBad
	}
	records, size, sums := modelStored(s.Data)
	if !sums {
		return impl.State{}, impl.Store{}, impl.ErrSum
	}
	state := firstState()
	for _, record := range records {
		next, ok := modelTake(state, record)
		if !ok {
			return impl.State{}, impl.Store{}, impl.ErrForm
		}
		state = next
	}
	return state, impl.Store{Data: s.Data[:size], Sure: size}, impl.OK
}

func framesText(list ...string) string {
	text := ""
	for _, data := range list {
		text += string(frameOf(data))
	}
	return text
}

func longLog(n, term int, data string) []impl.Entry {
	return slices.Repeat([]impl.Entry{{Term: term, Data: data}}, n)
}

// rightStates are at each edge, and in between.
func rightStates() []impl.State {
	list := []impl.State{
		firstState(), {}, {Term: 1}, {Term: 1, Vote: -1}, {Term: 999, Vote: 3}, {Term: 1000, Vote: 4}, {Term: 1000, Vote: -1}, {Term: 3, Vote: -1, Log: []impl.Entry{}},
		stateOf(1, -1, "1:"), stateOf(2, 1, "1:x 2:y"), stateOf(3, -1, "1:x 3:"), stateOf(3, 2, "1:x 1:y 1:z"), stateOf(3, 2, "2:x 2:y 3:z 3:z"), stateOf(9, 0, "1:a 1:b 2:a 2:b 5:c"),
		stateOf(1000, 4, "1:a 999:b 1000:c 1000:d"), stateOf(9, 0, "1:a 1:b 2:a 2:b"), stateOf(9, 0, "1:a 1:b 3:a 3:b 5:c"), stateOf(9, 0, "1:a 1:b 2:a 2:B 5:c 7:d"), stateOf(9, 0, "9:a"),
		{Term: 7, Vote: 4, Log: longLog(60, 7, "")}, {Term: 7, Vote: 4, Log: longLog(59, 7, "")}, {Term: 1000, Vote: 0, Log: longLog(60, 1000, strings.Repeat("d", 400))},
		{Term: 2, Vote: 0, Log: []impl.Entry{{Term: 1, Data: strings.Repeat("d", 400)}, {Term: 2, Data: strings.Repeat("\x00", 399)}, {Term: 2, Data: strings.Repeat("\xff", 256)}}},
	}
	rising := impl.State{Term: 60, Vote: 2}
	for i := range 60 {
		rising.Log = append(rising.Log, impl.Entry{Term: 1 + i, Data: string(sampleBytes(i * 6))})
	}
	return append(list, rising)
}

// wrongStates differ from right ones in one part each.
func wrongStates() []impl.State {
	long := strings.Repeat("d", 401)
	list := []impl.State{
		{Term: 7, Log: longLog(61, 7, "")}, {Term: 7, Log: longLog(62, 7, "x")}, {Term: 7, Log: longLog(impl.MaxList+1, 7, "")},
		{Term: 7, Log: []impl.Entry{{Term: 7, Data: long}}}, {Term: 7, Log: []impl.Entry{{Term: 1, Data: long}, {Term: 7}}}, {Term: 7, Log: []impl.Entry{{Term: 1}, {Term: 7, Data: long}}},
		{Term: 7, Log: []impl.Entry{{Term: 7, Data: strings.Repeat("d", impl.MaxText+1)}}}, {Term: 7, Log: append(longLog(59, 7, ""), impl.Entry{Term: 7, Data: long})},
		stateOf(0, -1, "1:x"), stateOf(0, -1, "0:x"), stateOf(7, 0, "0:x"), stateOf(7, 0, "0:x 1:y"), stateOf(7, 0, "-1:x 1:y"), stateOf(7, 0, "-9223372036854775808:x"),
		stateOf(7, 0, "1:x 0:y"), stateOf(7, 0, "2:x 1:y"), stateOf(7, 0, "1:x 3:y 2:z"), stateOf(7, 0, "1:x 3:y 2:z 5:z"), stateOf(7, 0, "7:x 6:y"), stateOf(7, 0, "2:x 1:y 3:z"),
		stateOf(7, 0, "8:x"), stateOf(7, 0, "1:x 8:y"), stateOf(7, 0, "1:x 8:y 8:z"), stateOf(7, 0, "9223372036854775807:x"), stateOf(1000, 0, "1001:x"), stateOf(7, 0, "8:x 7:y"),
		{Term: 7, Log: append(longLog(59, 7, ""), impl.Entry{Term: 6})}, {Term: 7, Log: append(longLog(59, 7, ""), impl.Entry{Term: 8})},
	}
	for _, term := range []int{math.MinInt, -1000, -2, -1, 1001, 1002, 1 << 32, 1<<32 + 5, math.MaxInt} {
		list = append(list, impl.State{Term: term}, impl.State{Term: term, Vote: -1})
	}
	for _, vote := range []int{math.MinInt, -3, -2, 5, 6, 1 << 32, 1<<32 + 1, math.MaxInt} {
		list = append(list, impl.State{Vote: vote}, impl.State{Term: 7, Vote: vote, Log: logOf("1:x 7:y")})
	}
	return list
}

// wrongStores are not right, whatever their bytes are.
func wrongStores() []impl.Store {
	whole := framesText(termText(3, 1))
	return []impl.Store{
		{Sure: 1}, {Sure: -1}, {Sure: math.MinInt}, {Sure: math.MaxInt}, {Data: whole, Sure: -1}, {Data: whole, Sure: len(whole) + 1}, {Data: whole, Sure: math.MaxInt}, {Data: whole, Sure: math.MinInt},
		{Data: string(make([]byte, 60001))}, {Data: string(make([]byte, 60001)), Sure: 60001}, {Data: string(make([]byte, 60000)), Sure: 60001}, {Data: whole + string(make([]byte, 60000)), Sure: 5},
		{Data: string(make([]byte, impl.MaxText+1))},
	}
}

func TestStoreConstants(t *testing.T) {
	if got := []int{impl.MaxEntries, impl.MaxTerm, impl.MaxRoom}; !slices.Equal(got, []int{60, 1000, 60000}) {
		t.Error(got)
	}
}

func TestStatesThatAreRight(t *testing.T) {
	for _, s := range rightStates() {
		if !modelStateOK(s) || !impl.StateOK(s) {
			t.Error("not right:", stateShown(s))
		}
	}
	for term := -3; term < 1005; term++ {
		for vote := -3; vote < 8; vote++ {
			s := impl.State{Term: term, Vote: vote}
			if impl.StateOK(s) != (term >= 0 && term <= 1000 && vote >= -1 && vote <= 4) {
				t.Error("StateOK of", stateShown(s))
			}
		}
	}
	for n := range 70 {
		if impl.StateOK(impl.State{Term: 3, Log: longLog(n, 2, "x")}) != (n <= 60) {
			t.Error("StateOK of so many entries:", n)
		}
	}
	for n := range 410 {
		if impl.StateOK(impl.State{Term: 3, Log: logOf("1:x 2:" + strings.Repeat("y", n) + " 2:z")}) != (n <= 400) {
			t.Error("StateOK of data of so many bytes:", n)
		}
	}
}

// Of all terms that three entries may have.
func TestTermsThatFallOrAreAboveTheStates(t *testing.T) {
	for i := range 4 * 6 * 6 * 6 {
		term, a, b, c := i%4, i/4%6-1, i/24%6-1, i/144-1
		s := impl.State{Term: term, Log: []impl.Entry{{Term: a}, {Term: b}, {Term: c}}}
		if impl.StateOK(s) != (a >= 1 && b >= a && c >= b && c <= term) {
			t.Error("StateOK of", stateShown(s))
		}
	}
}

func TestStatesThatAreNotRight(t *testing.T) {
	right := stateOf(7, 0, "1:x 7:y")
	for _, s := range wrongStates() {
		if modelStateOK(s) || impl.StateOK(s) {
			t.Error("right:", stateShown(s))
		}
		was := cloneState(s)
		for _, pair := range [][2]impl.State{{s, right}, {right, s}, {s, s}, {s, {}}, {firstState(), s}} {
			if list, code := impl.RecordsOf(pair[0], pair[1]); len(list) != 0 || code != impl.ErrBad {
				t.Errorf("RecordsOf(%s, %s) = %q, %d", stateShown(pair[0]), stateShown(pair[1]), list, code)
			}
			if same, code := impl.SameState(pair[0], pair[1]); same || code != impl.ErrBad {
				t.Errorf("SameState(%s, %s) = %v, %d", stateShown(pair[0]), stateShown(pair[1]), same, code)
			}
		}
		for _, record := range []string{"", "junk", termText(1000, 4), termText(7, 0), cutText(0), cutText(1), entryText(7, "z"), strings.Repeat("r", impl.MaxText)} {
			if got, code := impl.ApplyRecord(s, record); code != impl.ErrBad || !sameStates(got, impl.State{}) {
				t.Errorf("ApplyRecord(%s, %.20q) = %s, %d", stateShown(s), record, stateShown(got), code)
			}
		}
		if got, code := impl.ApplyRecord(s, strings.Repeat("r", impl.MaxText+1)); code != impl.ErrLong || !sameStates(got, impl.State{}) {
			t.Errorf("ApplyRecord(%s) of too many bytes = %s, %d", stateShown(s), stateShown(got), code)
		}
		if !sameStates(s, was) {
			t.Error("changed:", stateShown(was))
		}
	}
}

func TestRecordsWrittenOut(t *testing.T) {
	was := stateOf(2, 1, "1:x 2:y")
	now := stateOf(258, -1, "1:x 257:data 258:")
	list, code := impl.RecordsOf(was, now)
	want := []string{
		"\x02\x00\x01t\x00\x06\x00\x01\x03\x00\x00\x00",
		"\x02\x00\x01c\x00\x03\x00\x00\x02",
		"\x03\x00\x01e\x00\x03\x00\x01\x02\x00\x04data",
		"\x03\x00\x01e\x00\x03\x00\x01\x03\x00\x00",
	}
	if code != impl.OK || !slices.Equal(list, want) {
		t.Errorf("%q, %d, not %q", list, code, want)
	}
	for i, s := range []impl.State{stateOf(258, -1, "1:x 2:y"), stateOf(258, -1, "1:x"), stateOf(258, -1, "1:x 257:data"), now} {
		if was, code = impl.ApplyRecord(was, want[i]); code != impl.OK || !sameStates(was, s) {
			t.Errorf("behind record %d: %s, %d, not %s", i, stateShown(was), code, stateShown(s))
		}
	}
	data := strings.Repeat("d", 400)
	list, code = impl.RecordsOf(firstState(), impl.State{Term: 1000, Vote: 4, Log: []impl.Entry{{Term: 1000, Data: data}}})
	want = []string{"\x02\x00\x01t\x00\x06\x00\x03\xe9\x00\x00\x05", "\x03\x00\x01e\x00\x03\x00\x03\xe9\x01\x90" + data}
	if code != impl.OK || !slices.Equal(list, want) {
		t.Errorf("%.60q, %d, not %.60q", list, code, want)
	}
}

func TestRecordsBetweenStates(t *testing.T) {
	base := "1:a 2:b 2:c 4:d"
	for _, c := range []struct {
		was, now impl.State
		want     []string
	}{
		{firstState(), firstState(), nil},
		{stateOf(4, 1, base), stateOf(4, 1, base), nil},
		{firstState(), stateOf(1, -1, ""), []string{termText(1, -1)}},
		{stateOf(4, 1, base), stateOf(5, 1, base), []string{termText(5, 1)}},
		{stateOf(4, 1, base), stateOf(4, -1, base), []string{termText(4, -1)}},
		{stateOf(4, -1, base), stateOf(4, 0, base), []string{termText(4, 0)}},
		{stateOf(4, 1, base), stateOf(1000, 4, base), []string{termText(1000, 4)}},
		{stateOf(5, 1, base), stateOf(4, 1, base), []string{termText(4, 1)}},
		{stateOf(5, 1, "1:a 2:b"), stateOf(4, 2, "1:a"), []string{termText(4, 2), cutText(1)}},
		{stateOf(4, 1, ""), stateOf(4, 1, "1:a"), []string{entryText(1, "a")}},
		{stateOf(4, 1, base), stateOf(4, 1, base+" 4:e"), []string{entryText(4, "e")}},
		{stateOf(4, 1, base), stateOf(4, 1, base+" 4: 4:e"), []string{entryText(4, ""), entryText(4, "e")}},
		{stateOf(4, 1, base), stateOf(9, 2, base+" 9:e"), []string{termText(9, 2), entryText(9, "e")}},
		{stateOf(4, 1, base), stateOf(4, 1, "1:a 2:b 2:c"), []string{cutText(3)}},
		{stateOf(4, 1, base), stateOf(4, 1, "1:a"), []string{cutText(1)}},
		{stateOf(4, 1, base), stateOf(4, 1, ""), []string{cutText(0)}},
		{stateOf(4, 1, base), stateOf(5, 1, ""), []string{termText(5, 1), cutText(0)}},
		{stateOf(4, 1, base), stateOf(4, 1, "1:a 2:b 3:c 4:d"), []string{cutText(2), entryText(3, "c"), entryText(4, "d")}},
		{stateOf(4, 1, base), stateOf(4, 1, "1:a 2:b 2:C 4:d"), []string{cutText(2), entryText(2, "C"), entryText(4, "d")}},
		{stateOf(4, 1, base), stateOf(4, 1, "1:a 2:b 2: 4:d 4:e"), []string{cutText(2), entryText(2, ""), entryText(4, "d"), entryText(4, "e")}},
		{stateOf(4, 1, base), stateOf(4, 1, "1:a 2:b 2:C"), []string{cutText(2), entryText(2, "C")}},
		{stateOf(4, 1, base), stateOf(4, 1, "2:a 2:b 2:c 4:d"), []string{cutText(0), entryText(2, "a"), entryText(2, "b"), entryText(2, "c"), entryText(4, "d")}},
		{stateOf(4, 1, base), stateOf(4, 1, "1:b 2:b 2:c 4:d"), []string{cutText(0), entryText(1, "b"), entryText(2, "b"), entryText(2, "c"), entryText(4, "d")}},
		{stateOf(4, 1, base), stateOf(4, 1, "1:a 2:b 2:c 4:x"), []string{cutText(3), entryText(4, "x")}},
		{stateOf(4, 1, base), stateOf(6, -1, "1:a 2:b 2:c 5:d"), []string{termText(6, -1), cutText(3), entryText(5, "d")}},
		{stateOf(4, 1, "1:a 1:a 1:a"), stateOf(4, 1, "1:a 1:a 1:a 1:a"), []string{entryText(1, "a")}},
		{stateOf(4, 1, "1:a 1:a 1:a"), stateOf(4, 1, "1:a 1:a"), []string{cutText(2)}},
	} {
		list, code := impl.RecordsOf(c.was, c.now)
		if code != impl.OK || !slices.Equal(list, c.want) || !slices.Equal(modelRecords(c.was, c.now), c.want) {
			t.Errorf("RecordsOf(%s, %s) = %q, %d, not %q", stateShown(c.was), stateShown(c.now), list, code, c.want)
		}
		wantLed(t, c.was, c.now)
	}
}

// wantTaken holds what a record does against the model, and tells the state behind it.
func wantTaken(t *testing.T, s impl.State, record string) (impl.State, int) {
	t.Helper()
	kept := cloneState(s)
	want, ok := modelTake(s, record)
	got, code := impl.ApplyRecord(s, record)
	if (code == impl.OK) != ok || !ok && code != impl.ErrForm || !sameStates(got, want) {
		t.Fatalf("ApplyRecord(%s, %.60q) = %s, %d, not %s, %v", stateShown(s), record, stateShown(got), code, stateShown(want), ok)
	}
	if !impl.StateOK(got) || got.Term < s.Term || !sameStates(s, kept) {
		t.Fatalf("ApplyRecord(%s, %.60q) makes %s of %s", stateShown(kept), record, stateShown(got), stateShown(s))
	}
	return got, code
}

// wantLed asks that the records between two states lead from the one to the other, by right states alone, and that none is too many.
func wantLed(t *testing.T, was, now impl.State) {
	t.Helper()
	list, code := impl.RecordsOf(was, now)
	if want := modelRecords(was, now); code != impl.OK || !slices.Equal(list, want) {
		t.Fatalf("RecordsOf(%s, %s) = %.60q, %d, not %.60q", stateShown(was), stateShown(now), list, code, want)
	}
	if now.Term < was.Term {
		if s, code := wantTaken(t, was, list[0]); code != impl.ErrForm || !sameStates(s, was) {
			t.Fatalf("%.60q leads back from %s to %s, %d", list[0], stateShown(was), stateShown(s), code)
		}
		return
	}
	s := was
	for i, record := range list {
		if s, code = wantTaken(t, s, record); code != impl.OK {
			t.Fatalf("record %d of %s to %s: %d", i, stateShown(was), stateShown(now), code)
		}
		if i < len(list)-1 && sameStates(s, now) {
			t.Fatalf("records behind %d of %s to %s are too many", i, stateShown(was), stateShown(now))
		}
	}
	if same, code := impl.SameState(s, now); !same || code != impl.OK || !sameStates(s, now) {
		t.Fatalf("records from %s to %s lead to %s", stateShown(was), stateShown(now), stateShown(s))
	}
}

func TestRecordsLeadFromOneStateToAnother(t *testing.T) {
	for _, was := range rightStates() {
		for _, now := range rightStates() {
			wantLed(t, was, now)
		}
	}
}

func drawnState(draw *rand.Rand) impl.State {
	s := impl.State{Term: draw.Intn(4), Vote: draw.Intn(3) - 1}
	term := 1
	for range draw.Intn(6) {
		if term += draw.Intn(3) / 2; term <= s.Term {
			s.Log = append(s.Log, impl.Entry{Term: term, Data: []string{"", "a", "b"}[draw.Intn(3)]})
		}
	}
	return s
}

func TestRecordsBetweenDrawnStates(t *testing.T) {
	draw := rand.New(rand.NewSource(71))
	for range 20000 {
		wantLed(t, drawnState(draw), drawnState(draw))
	}
}

func TestRecordsOneByOne(t *testing.T) {
	s := stateOf(5, 1, "1:x 3:y 3:z")
	full := impl.State{Term: 5, Vote: 1, Log: longLog(60, 3, "x")}
	near := impl.State{Term: 5, Vote: 1, Log: longLog(59, 3, "x")}
	long := strings.Repeat("d", 400)
	for _, c := range []struct {
		from   impl.State
		record string
		want   impl.State
		code   int
	}{
		{s, termText(4, 1), s, impl.ErrForm}, {s, termText(0, -1), s, impl.ErrForm}, {s, termText(-1, 1), s, impl.ErrForm}, {s, termText(5, 1), s, impl.OK},
		{s, termText(6, 1), stateOf(6, 1, "1:x 3:y 3:z"), impl.OK}, {s, termText(1000, 0), stateOf(1000, 0, "1:x 3:y 3:z"), impl.OK}, {s, termText(1001, 0), s, impl.ErrForm}, {s, termText(16777214, 0), s, impl.ErrForm},
		{s, termText(5, -1), stateOf(5, -1, "1:x 3:y 3:z"), impl.OK}, {s, termText(5, 4), stateOf(5, 4, "1:x 3:y 3:z"), impl.OK}, {s, termText(5, 5), s, impl.ErrForm}, {s, termText(6, 5), s, impl.ErrForm}, {s, termText(5, 16777214), s, impl.ErrForm},
		{firstState(), termText(0, -1), firstState(), impl.OK}, {firstState(), termText(0, 4), stateOf(0, 4, ""), impl.OK}, {stateOf(1000, 0, ""), termText(1000, 1), stateOf(1000, 1, ""), impl.OK}, {stateOf(1000, 0, ""), termText(999, 0), stateOf(1000, 0, ""), impl.ErrForm},
		{s, cutText(3), s, impl.ErrForm}, {s, cutText(4), s, impl.ErrForm}, {s, cutText(16777214), s, impl.ErrForm}, {s, cutText(-1), s, impl.ErrForm}, {s, cutText(0), stateOf(5, 1, ""), impl.OK},
		{s, cutText(1), stateOf(5, 1, "1:x"), impl.OK}, {s, cutText(2), stateOf(5, 1, "1:x 3:y"), impl.OK}, {firstState(), cutText(0), firstState(), impl.ErrForm}, {firstState(), cutText(-1), firstState(), impl.ErrForm}, {stateOf(5, 1, "1:x"), cutText(0), stateOf(5, 1, ""), impl.OK},
		{full, cutText(59), near, impl.OK}, {full, cutText(60), full, impl.ErrForm}, {full, cutText(61), full, impl.ErrForm}, {near, entryText(3, "x"), full, impl.OK}, {full, entryText(3, "x"), full, impl.ErrForm}, {full, entryText(5, ""), full, impl.ErrForm},
		{s, entryText(0, "d"), s, impl.ErrForm}, {s, entryText(-1, "d"), s, impl.ErrForm}, {s, entryText(6, "d"), s, impl.ErrForm}, {s, entryText(2, "d"), s, impl.ErrForm}, {s, entryText(1, "d"), s, impl.ErrForm}, {s, entryText(16777214, "d"), s, impl.ErrForm},
		{s, entryText(3, "d"), stateOf(5, 1, "1:x 3:y 3:z 3:d"), impl.OK}, {s, entryText(4, "d"), stateOf(5, 1, "1:x 3:y 3:z 4:d"), impl.OK}, {s, entryText(5, ""), stateOf(5, 1, "1:x 3:y 3:z 5:"), impl.OK},
		{s, entryText(5, long), stateOf(5, 1, "1:x 3:y 3:z 5:"+long), impl.OK}, {s, entryText(5, long+"d"), s, impl.ErrForm}, {s, entryText(5, strings.Repeat("d", 20000)), s, impl.ErrForm}, {s, entryText(5, strings.Repeat("d", 20001)), s, impl.ErrForm},
		{firstState(), entryText(1, "d"), firstState(), impl.ErrForm}, {firstState(), entryText(0, "d"), firstState(), impl.ErrForm}, {stateOf(1, -1, ""), entryText(1, "d"), stateOf(1, -1, "1:d"), impl.OK}, {stateOf(1, -1, ""), entryText(0, ""), stateOf(1, -1, ""), impl.ErrForm},
	} {
		got, code := wantTaken(t, c.from, c.record)
		if code != c.code || !sameStates(got, c.want) {
			t.Errorf("ApplyRecord(%s, %.40q) = %s, %d, not %s, %d", stateShown(c.from), c.record, stateShown(got), code, stateShown(c.want), c.code)
		}
	}
}

// otherRecords are fields, or bytes, that no record is.
func otherRecords() []string {
	two, one, none := modelNumbers(7, 1), modelNumbers(1), ""
	three, many := modelNumbers(7, 1, 1), strings.Repeat("\x00\x00\x02", 6666)
	var list []string
	for _, fields := range [][]string{
		nil, {""}, {"t"}, {"c"}, {"e"}, {two}, {one}, {"", two}, {"", one}, {"", one, "d"}, make([]string, 2), make([]string, 3), make([]string, 60),
		{"t", none}, {"t", one}, {"t", three}, {"t", two, ""}, {"t", two, "d"}, {"t", two, two}, {"t", two[:5]}, {"t", two + "\x00"}, {"t", modelNumbers(7), modelNumbers(1)}, {"t", many}, {"t", "7 1"}, {two, "t"},
		{"c", none}, {"c", two}, {"c", one + one}, {"c", one + two}, {"c", one, ""}, {"c", one, "d"}, {"c", one[:2]}, {"c", one + "\x00"}, {"c", many}, {"c", "1"}, {"c", "", one}, {one, "c"},
		{"e", one}, {"e", none, "d"}, {"e", two, "d"}, {"e", one + one, "d"}, {"e", one + two, "d"}, {"e", one, "d", ""}, {"e", one, "d", "d"}, {"e", one[:2], "d"}, {"e", one + "\x00", "d"}, {"e", many, "d"}, {"e", "d", modelNumbers(7)}, {"e", "", one, "d"}, {"e", "d", one + one},
		{"T", two}, {"C", one}, {"E", one, "d"}, {"tt", two}, {"t ", two}, {" t", two}, {"c\x00", one}, {"ee", one, "d"}, {"q", one}, {"q", two}, {"q", one, "d"}, {"\x00", one}, {"\x00", one, "d"}, {"tc", one}, {"term", two},
	} {
		list = append(list, string(fieldsOf(fields)))
	}
	return append(list, "", "\x00", "t", "c", "e", "junk", "\x02", "\x3d", strings.Repeat("\x00", 100), strings.Repeat("t", 1000), strings.Repeat("\x01", impl.MaxText))
}

func TestBytesThatAreNoRecords(t *testing.T) {
	states := []impl.State{firstState(), stateOf(1, -1, ""), stateOf(5, 1, "1:x 1:y 1:z"), {Term: 7, Vote: 1, Log: longLog(60, 7, "x")}}
	for _, s := range states {
		for _, record := range otherRecords() {
			if got, code := wantTaken(t, s, record); code != impl.ErrForm || !sameStates(got, s) {
				t.Errorf("ApplyRecord(%s, %.40q) = %s, %d", stateShown(s), record, stateShown(got), code)
			}
		}
		long := termText(7, 1) + strings.Repeat("\x00", impl.MaxText+1-len(termText(7, 1)))
		if got, code := impl.ApplyRecord(s, long); code != impl.ErrLong || !sameStates(got, impl.State{}) {
			t.Errorf("ApplyRecord(%s) of %d bytes = %s, %d", stateShown(s), len(long), stateShown(got), code)
		}
	}
	// Just these letters, of all bytes.
	s := stateOf(5, 1, "1:x 1:y")
	for b := range 256 {
		letter := string([]byte{byte(b)})
		for want, fields := range map[byte][]string{'t': {letter, modelNumbers(7, 1)}, 'c': {letter, modelNumbers(1)}, 'e': {letter, modelNumbers(1), "d"}} {
			if _, code := wantTaken(t, s, string(fieldsOf(fields))); (code == impl.OK) != (byte(b) == want) {
				t.Errorf("a record of the letter %q: %d", letter, code)
			}
		}
	}
}

func TestRecordsCutOffLongerAndChanged(t *testing.T) {
	s := stateOf(5, 1, "1:x 3:y 3:z")
	for _, record := range []string{termText(5, 2), termText(700, -1), cutText(0), cutText(2), entryText(5, ""), entryText(4, "data"), entryText(3, strings.Repeat("d", 400))} {
		if _, code := wantTaken(t, s, record); code != impl.OK {
			t.Fatalf("%.40q: %d", record, code)
		}
		for n := range len(record) {
			if _, code := wantTaken(t, s, record[:n]); code != impl.ErrForm {
				t.Errorf("%.40q of %d bytes: %d", record, n, code)
			}
		}
		for b := range 256 {
			if _, code := wantTaken(t, s, record+string([]byte{byte(b)})); code != impl.ErrForm {
				t.Errorf("%.40q and a byte %d: %d", record, b, code)
			}
		}
		for at := range min(len(record), 20) {
			for b := range 256 {
				wantTaken(t, s, record[:at]+string([]byte{byte(b)})+record[at+1:])
				wantTaken(t, s, record[:at]+string([]byte{byte(b)})+record[at:])
			}
			wantTaken(t, s, record[:at]+record[at+1:])
		}
	}
}

func TestEveryNumberOfARecord(t *testing.T) {
	s := stateOf(5, 1, "1:x 3:y 3:z")
	for n := -1; n < 1010; n++ {
		for record, ok := range map[string]bool{
			termText(n, 1): n >= 5 && n <= 1000, termText(7, n): n <= 4, termText(5, n): n <= 4, cutText(n): n >= 0 && n < 3, entryText(n, "d"): n >= 3 && n <= 5,
		} {
			if _, code := wantTaken(t, s, record); (code == impl.OK) != ok {
				t.Errorf("%q with %d: %d", record, n, code)
			}
		}
	}
}

func TestStoresThatAreRight(t *testing.T) {
	for _, n := range []int{0, 1, 7, 100, 59999, 60000, 60001, 60002, impl.MaxText, impl.MaxText + 1} {
		for _, sure := range []int{math.MinInt, -2, -1, 0, 1, 7, 99, 100, 101, n - 1, n, n + 1, n + 2, 60000, 60001, math.MaxInt} {
			s := impl.Store{Data: string(sampleBytes(n)), Sure: sure}
			if impl.StoreOK(s) != (n <= 60000 && sure >= 0 && sure <= n) {
				t.Error("StoreOK of", storeShown(s))
			}
		}
	}
}

func TestStoresThatAreNotRight(t *testing.T) {
	for _, s := range wrongStores() {
		if impl.StoreOK(s) {
			t.Error("right:", storeShown(s))
		}
		for _, list := range [][]string{nil, {"record"}, {""}, {strings.Repeat("r", 1001)}, slices.Repeat([]string{strings.Repeat("r", 1000)}, 61), slices.Repeat([]string{"r"}, impl.MaxList)} {
			if got, code := impl.WriteRecords(s, list); got != (impl.Store{}) || code != impl.ErrBad {
				t.Errorf("WriteRecords(%s) of %d = %s, %d", storeShown(s), len(list), storeShown(got), code)
			}
		}
		if got, code := impl.WriteRecords(s, make([]string, impl.MaxList+1)); got != (impl.Store{}) || code != impl.ErrLong {
			t.Errorf("WriteRecords(%s) of too many = %s, %d", storeShown(s), storeShown(got), code)
		}
		if got, code := impl.SyncStore(s); got != (impl.Store{}) || code != impl.ErrBad {
			t.Errorf("SyncStore(%s) = %s, %d", storeShown(s), storeShown(got), code)
		}
		for _, keep := range []int{math.MinInt, -1, 0, 1, 60000, math.MaxInt} {
			if got, code := impl.CrashStore(s, keep); got != (impl.Store{}) || code != impl.ErrBad {
				t.Errorf("CrashStore(%s, %d) = %s, %d", storeShown(s), keep, storeShown(got), code)
			}
		}
		if state, got, code := impl.Recover(s); !sameStates(state, impl.State{}) || got != (impl.Store{}) || code != impl.ErrBad {
			t.Errorf("Recover(%s) = %s, %s, %d", storeShown(s), stateShown(state), storeShown(got), code)
		}
	}
}

func wantWritten(t *testing.T, s impl.Store, list []string, want impl.Store, wantCode int) {
	t.Helper()
	if got, code := impl.WriteRecords(s, list); got != want || code != wantCode {
		t.Errorf("WriteRecords(%s) of %d = %s, %d, not %s, %d", storeShown(s), len(list), storeShown(got), code, storeShown(want), wantCode)
	}
}

func TestRecordsAreWrittenBehindTheOthers(t *testing.T) {
	for _, s := range []impl.Store{{}, {Data: "some bytes"}, {Data: "some bytes", Sure: 4}, {Data: framesText("a", "bc"), Sure: 8}, {Data: framesText("a", "bc"), Sure: 17}} {
		for _, list := range [][]string{nil, {}, {"a"}, {"\x00"}, {"a", "b"}, {"b", "a", "a"}, {string(sampleBytes(999))}, {string(sampleBytes(1000)), "x", string(sampleBytes(1000))}, someRecords(), slices.Repeat([]string{"r"}, impl.MaxList)} {
			wantWritten(t, s, list, impl.Store{Data: s.Data + framesText(list...), Sure: s.Sure}, impl.OK)
		}
	}
	for n := 1; n <= 1000; n++ {
		record := string(sampleBytes(n))
		wantWritten(t, impl.Store{Data: "x"}, []string{record}, impl.Store{Data: "x" + framesText(record)}, impl.OK)
	}
}

func TestRecordsThatAreNotWritten(t *testing.T) {
	s := impl.Store{Data: framesText("front"), Sure: 5}
	full := impl.Store{Data: string(sampleBytes(60000)), Sure: 300}
	long := strings.Repeat("r", 1001)
	many := slices.Repeat([]string{long[:1000]}, 60)
	for _, list := range [][]string{{""}, {long}, {"a", ""}, {"", "a"}, {"a", long, "b"}, {strings.Repeat("r", impl.MaxText)}, {strings.Repeat("r", impl.MaxText+1)}, append(slices.Clone(many), ""), append([]string{long}, many...), append(slices.Clone(many), long), make([]string, impl.MaxList)} {
		wantWritten(t, s, list, impl.Store{}, impl.ErrRange)
		wantWritten(t, full, list, impl.Store{}, impl.ErrRange)
	}
	for _, list := range [][]string{make([]string, impl.MaxList+1), slices.Repeat([]string{"r"}, impl.MaxList+1), slices.Repeat([]string{long}, impl.MaxList+1)} {
		wantWritten(t, s, list, impl.Store{}, impl.ErrLong)
		wantWritten(t, full, list, impl.Store{}, impl.ErrLong)
	}
	for _, list := range [][]string{{"r"}, many, {long[:1000]}, slices.Repeat([]string{long[:1000]}, impl.MaxList)} {
		wantWritten(t, full, list, full, impl.ErrFull)
	}
	wantWritten(t, full, nil, full, impl.OK)
}

func TestRecordsThatJustFillTheRoom(t *testing.T) {
	most := slices.Repeat([]string{string(sampleBytes(1000))}, 59) // 59413 bytes
	for _, c := range []struct {
		size int
		list []string
		code int
	}{
		{0, append(slices.Clone(most), string(sampleBytes(580))), impl.OK}, {0, append(slices.Clone(most), string(sampleBytes(581))), impl.ErrFull},
		{1, append(slices.Clone(most), string(sampleBytes(579))), impl.OK}, {1, append(slices.Clone(most), string(sampleBytes(580))), impl.ErrFull},
		{0, append(slices.Clone(most), string(sampleBytes(280)), string(sampleBytes(293))), impl.OK}, {0, append(slices.Clone(most), string(sampleBytes(280)), string(sampleBytes(294))), impl.ErrFull},
		{59992, []string{"r"}, impl.OK}, {59993, []string{"r"}, impl.ErrFull}, {59992, []string{"rr"}, impl.ErrFull}, {59991, []string{"rr"}, impl.OK}, {59984, []string{"r", "r"}, impl.OK}, {59985, []string{"r", "r"}, impl.ErrFull}, {59984, []string{"r", "r", "r"}, impl.ErrFull},
		{58993, []string{string(sampleBytes(1000))}, impl.OK}, {58994, []string{string(sampleBytes(1000))}, impl.ErrFull}, {60000, nil, impl.OK}, {60000, []string{"r"}, impl.ErrFull},
		{27232, slices.Repeat([]string{"r"}, impl.MaxList), impl.OK}, {27233, slices.Repeat([]string{"r"}, impl.MaxList), impl.ErrFull},
	} {
		s := impl.Store{Data: string(sampleBytes(c.size)), Sure: c.size / 2}
		want := s
		if c.code == impl.OK {
			want.Data += framesText(c.list...)
		}
		if !modelStoreOK(want) || c.code == impl.ErrFull && len(s.Data)+len(framesText(c.list...)) <= 60000 {
			t.Fatal("not what it should be:", c.size, len(c.list))
		}
		wantWritten(t, s, c.list, want, c.code)
	}
}

func TestSyncStore(t *testing.T) {
	for _, n := range []int{0, 1, 50, 59999, 60000} {
		data := string(sampleBytes(n))
		for _, sure := range []int{0, n / 2, n} {
			if got, code := impl.SyncStore(impl.Store{Data: data, Sure: sure}); got != (impl.Store{Data: data, Sure: n}) || code != impl.OK {
				t.Errorf("SyncStore of %d bytes, %d sure = %s, %d", n, sure, storeShown(got), code)
			}
		}
	}
}

func TestCrashStore(t *testing.T) {
	for _, n := range []int{0, 1, 50, 60000} {
		data := string(sampleBytes(n))
		for _, sure := range []int{0, n / 3, n} {
			keeps := []int{math.MinInt, math.MinInt + 1, -1000, -1, n - sure, n - sure + 1, n, n + 1, 60000, 60001, 1 << 32, math.MaxInt - n, math.MaxInt - 1, math.MaxInt}
			for keep := range min(n-sure, 60) {
				keeps = append(keeps, keep)
			}
			for _, keep := range keeps {
				stays := sure
				if keep > n-sure {
					stays = n
				} else if keep > 0 {
					stays += keep
				}
				if got, code := impl.CrashStore(impl.Store{Data: data, Sure: sure}, keep); got != (impl.Store{Data: data[:stays], Sure: stays}) || code != impl.OK {
					t.Errorf("CrashStore of %d bytes, %d sure, with %d = %s, %d", n, sure, keep, storeShown(got), code)
				}
			}
		}
	}
}

// wantRecovered holds Recover against the model.
func wantRecovered(t *testing.T, s impl.Store) (impl.State, impl.Store, int) {
	t.Helper()
	wantState, wantStore, wantCode := modelRecover(s)
	state, store, code := impl.Recover(s)
	if !sameStates(state, wantState) || store != wantStore || code != wantCode {
		t.Fatalf("Recover(%s) = %s, %s, %d, not %s, %s, %d", storeShown(s), stateShown(state), storeShown(store), code, stateShown(wantState), storeShown(wantStore), wantCode)
	}
	if code == impl.OK && (!impl.StateOK(state) || !impl.StoreOK(store) || store.Sure != len(store.Data)) {
		t.Fatalf("Recover(%s) is not right: %s, %s", storeShown(s), stateShown(state), storeShown(store))
	}
	return state, store, code
}

func someRecords() []string {
	return []string{termText(2, 1), entryText(1, "x"), entryText(2, "y"), termText(3, -1), cutText(1), entryText(3, ""), entryText(3, "more"), cutText(0), termText(3, 4), entryText(2, "data")}
}

// statesBehind are the first one, and that behind each record.
func statesBehind(t *testing.T, list []string) []impl.State {
	t.Helper()
	states := []impl.State{firstState()}
	for _, record := range list {
		next, ok := modelTake(states[len(states)-1], record)
		if !ok {
			t.Fatalf("%q is none", record)
		}
		states = append(states, next)
	}
	return states
}

func TestRecoverAtEachCut(t *testing.T) {
	list := someRecords()
	states := statesBehind(t, list)
	all := framesText(list...)
	whole, size := 0, 0
	for n := range len(all) + 1 {
		if whole < len(list) && n == size+7+len(list[whole]) {
			whole, size = whole+1, n
		}
		for _, sure := range []int{0, n / 2, n} {
			state, store, code := wantRecovered(t, impl.Store{Data: all[:n], Sure: sure})
			if code != impl.OK || !sameStates(state, states[whole]) || store != (impl.Store{Data: all[:size], Sure: size}) {
				t.Errorf("Recover of %d bytes = %s, %s, %d", n, stateShown(state), storeShown(store), code)
			}
		}
	}
}

func TestRecoverOfNothing(t *testing.T) {
	for _, data := range []string{"", "\x00", "\x00\x00\x00", "\xff\xff\xff", "\xff\xff\xff\xff\xff\xff", "\x00\x00\x0c\x01\x02\x03", "\x00\x00\x0c\x01\x02\x03\x04", "\x01\x00\x00\x01\x02\x03\x04data"} {
		if state, store, code := wantRecovered(t, impl.Store{Data: data}); code != impl.OK || !sameStates(state, impl.State{Vote: -1}) || store != (impl.Store{}) {
			t.Errorf("Recover of %q = %s, %s, %d", data, stateShown(state), storeShown(store), code)
		}
	}
}

func TestRecoverWithSumsOrLengthsThatAreNotRight(t *testing.T) {
	front, bad := framesText(termText(3, 1)), []byte(framesText(termText(4, 1)))
	bad[3] ^= 1
	junk := framesText("junk")
	for data, want := range map[string]int{
		string(bad): impl.ErrSum, front + string(bad): impl.ErrSum, string(bad) + front: impl.ErrSum, front + string(bad) + "tail": impl.ErrSum, front + string(bad[:len(bad)-1]): impl.OK,
		front + "\x00\x00\x00\x00\x00\x00\x00": impl.ErrSum, front + "\x00\x00\x00\x00\x00\x00": impl.OK, front + string(frameOf("")): impl.ErrSum, front + "\x01\x00\x01\x00\x00\x00\x00": impl.ErrSum, front + "\xff\xff\xff\x00\x00\x00\x00": impl.ErrSum, front + "\xff\xff\xff\x00\x00\x00": impl.OK,
		junk: impl.ErrForm, front + junk: impl.ErrForm, junk + front: impl.ErrForm, front + junk + front: impl.ErrForm, front + junk + "tail": impl.ErrForm, front + junk[:len(junk)-1]: impl.OK,
		junk + string(bad): impl.ErrSum, string(bad) + junk: impl.ErrSum, front + junk + front + string(bad): impl.ErrSum, junk + "\x00\x00\x00\x00\x00\x00\x00": impl.ErrSum,
		framesText(termText(3, 1), termText(2, 1)): impl.ErrForm, framesText(termText(3, 1), termText(3, 1)): impl.OK, framesText(cutText(0)): impl.ErrForm, framesText(entryText(1, "x")): impl.ErrForm, framesText(entryText(1, "x"), termText(1, 1)): impl.ErrForm,
		framesText(termText(1, 1), entryText(1, "x")): impl.OK, framesText(termText(1, 1), entryText(2, "x")): impl.ErrForm, framesText(termText(1, 1), entryText(1, "x"), cutText(1)): impl.ErrForm, framesText(termText(1001, 1)): impl.ErrForm, framesText(termText(1, 5)): impl.ErrForm,
		framesText(termText(1, 1), entryText(1, strings.Repeat("d", 401))): impl.ErrForm, framesText(termText(1, 1), entryText(1, strings.Repeat("d", 400))): impl.OK, framesText(string(sampleBytes(59993))): impl.ErrForm,
	} {
		for _, sure := range []int{0, len(data)} {
			state, store, code := wantRecovered(t, impl.Store{Data: data, Sure: sure})
			if code != want || code != impl.OK && (!sameStates(state, impl.State{}) || store != (impl.Store{})) {
				t.Errorf("Recover of %.80q = %s, %s, %d, not %d", data, stateShown(state), storeShown(store), code, want)
			}
		}
	}
}

func TestRecoverWithOneWrongBit(t *testing.T) {
	list := someRecords()
	all := framesText(list...)
	sums := 0
	for place := range len(all) * 8 {
		b := []byte(all)
		b[place/8] ^= 1 << (place % 8)
		if _, _, code := wantRecovered(t, impl.Store{Data: string(b), Sure: len(b)}); code == impl.ErrSum {
			sums++
		} else if code != impl.OK {
			t.Errorf("bit %d turned: %d", place, code)
		}
	}
	if sums < 7*len(all) {
		t.Error("too few sums are not right:", sums)
	}
}

func TestRecoverOfOtherRecords(t *testing.T) {
	for _, record := range otherRecords() {
		for _, list := range [][]string{{record}, {termText(5, 1), entryText(1, "x"), record}, {termText(5, 1), record, entryText(1, "x")}} {
			data := framesText(list...)
			want := impl.ErrForm
			if record == "" {
				want = impl.ErrSum
			}
			if _, _, code := wantRecovered(t, impl.Store{Data: data}); len(data) <= 60000 && code != want {
				t.Errorf("Recover with %.40q: %d", record, code)
			}
		}
	}
}

func TestFullStores(t *testing.T) {
	var list []string
	size := 0
	add := func(record string) bool {
		if size += 7 + len(record); size <= 60000 {
			list = append(list, record)
		}
		return size <= 60000
	}
	add(termText(2, 1))
	for n, entries := 0, 0; add(entryText(2, string(sampleBytes(n*7%401)))); n++ {
		if entries++; entries == 60 {
			entries = n % 60
			add(cutText(entries))
		}
	}
	full := impl.Store{Data: framesText(list...)}
	if state, store, code := wantRecovered(t, full); code != impl.OK || len(state.Log) == 0 || store.Data != full.Data {
		t.Fatal("a full store:", stateShown(state), storeShown(store), code)
	}
	full.Data += strings.Repeat("\x00", 60000-len(full.Data))
	wantRecovered(t, full)
	terms := framesText(slices.Repeat([]string{termText(1000, 4)}, 3157)...)
	if state, _, code := wantRecovered(t, impl.Store{Data: terms}); code != impl.OK || !sameStates(state, stateOf(1000, 4, "")) {
		t.Error("3157 records:", stateShown(state), code)
	}
	// More frames than a list may have as an argument: they are read all the same.
	if _, _, code := wantRecovered(t, impl.Store{Data: framesText(slices.Repeat([]string{"r"}, 7500)...)}); code != impl.ErrForm {
		t.Error("7500 frames:", code)
	}
}

// disk is a store with the states that it led to since it was sure.
type disk struct {
	t      *testing.T
	store  impl.Store
	states []impl.State
	ends   []int
}

func newDisk(t *testing.T) *disk {
	return &disk{t: t, states: []impl.State{firstState()}, ends: []int{0}}
}

func (d *disk) now() impl.State { return d.states[len(d.states)-1] }

// write leads the store to another state; it is false if there is no room.
func (d *disk) write(next impl.State) bool {
	d.t.Helper()
	list, code := impl.RecordsOf(d.now(), next)
	if code != impl.OK {
		d.t.Fatal("RecordsOf", code)
	}
	store, code := impl.WriteRecords(d.store, list)
	if code == impl.ErrFull && store == d.store {
		return false
	}
	if code != impl.OK || store.Sure != d.store.Sure {
		d.t.Fatal("WriteRecords", code, storeShown(store))
	}
	for _, record := range list {
		state, code := impl.ApplyRecord(d.now(), record)
		if code != impl.OK {
			d.t.Fatal("ApplyRecord", code)
		}
		d.states, d.ends = append(d.states, state), append(d.ends, d.ends[len(d.ends)-1]+7+len(record))
	}
	d.store = store
	return true
}

func (d *disk) sync() {
	d.t.Helper()
	store, code := impl.SyncStore(d.store)
	if code != impl.OK || store != (impl.Store{Data: d.store.Data, Sure: len(d.store.Data)}) {
		d.t.Fatal("SyncStore", code, storeShown(store))
	}
	d.store, d.states, d.ends = store, d.states[len(d.states)-1:], d.ends[len(d.ends)-1:]
}

// crash goes on with what Recover tells, which must be a state that the store led to since it was sure.
func (d *disk) crash(keep int) {
	d.t.Helper()
	crashed, code := impl.CrashStore(d.store, keep)
	if code != impl.OK || !strings.HasPrefix(d.store.Data, crashed.Data) || len(crashed.Data) < d.store.Sure {
		d.t.Fatal("CrashStore", code, storeShown(crashed))
	}
	state, store, code := wantRecovered(d.t, crashed)
	at := slices.Index(d.ends, len(store.Data))
	if code != impl.OK || at < 0 || !sameStates(state, d.states[at]) || at+1 < len(d.ends) && d.ends[at+1] <= len(crashed.Data) {
		d.t.Fatalf("behind a crash %s leads to %s, %d, none of %d states", storeShown(crashed), stateShown(state), code, len(d.states))
	}
	d.store, d.states, d.ends = store, []impl.State{state}, []int{len(store.Data)}
}

func TestBehindACrashAStoreLeadsToAStateSinceItWasSure(t *testing.T) {
	states := []impl.State{stateOf(2, 1, "1:x 2:y"), stateOf(3, -1, "1:x 3:"), stateOf(3, 2, ""), stateOf(9, 0, "1:a 1:b 2:a 2:b 5:c"), stateOf(9, 0, "1:a 1:b 2:a 2:B 5:c 7:d")}
	for sure := range len(states) + 1 {
		for keep := -1; ; keep++ {
			d := newDisk(t)
			for i, s := range states {
				if d.write(s); i+1 == sure {
					d.sync()
				}
			}
			more := len(d.store.Data) - d.store.Sure
			d.crash(keep)
			d.write(stateOf(11, 3, "1:a 11:z"))
			d.sync()
			d.crash(0)
			if keep > more {
				break
			}
		}
	}
}

func TestDrawnWritesSyncsAndCrashes(t *testing.T) {
	draw := rand.New(rand.NewSource(72))
	for range 300 {
		d := newDisk(t)
		for range 60 {
			switch draw.Intn(7) {
			case 0:
				d.sync()
			case 1:
				d.crash(draw.Intn(len(d.store.Data)-d.store.Sure+20) - 5)
			default:
				next := drawnState(draw)
				if next.Term < d.now().Term {
					next.Term = d.now().Term
				}
				if !d.write(next) {
					t.Fatal("no room")
				}
			}
		}
	}
}

func TestAStoreIsWrittenTillItIsFull(t *testing.T) {
	d := newDisk(t)
	long := strings.Repeat("d", 400)
	for n := 0; d.write(impl.State{Term: 9, Vote: n % 5, Log: longLog(1+n%60, 1+n/60, long)}); n++ {
		if n%50 == 20 {
			d.sync()
		}
		if n > 2000 {
			t.Fatal("it is never full")
		}
	}
	d.crash(math.MaxInt)
	if len(d.store.Data) < 30000 || len(d.store.Data) > 60000 {
		t.Error("full with", storeShown(d.store))
	}
}

func TestSameState(t *testing.T) {
	list := rightStates()
	for i, a := range list {
		for k, b := range list {
			want := sameStates(a, b)
			if same, code := impl.SameState(a, cloneState(b)); same != want || code != impl.OK || i == k && !same {
				t.Errorf("SameState(%s, %s) = %v, %d", stateShown(a), stateShown(b), same, code)
			}
		}
	}
	base := stateOf(9, 1, "1:a 2:b 2:c 9:d")
	for _, other := range []impl.State{
		stateOf(10, 1, "1:a 2:b 2:c 9:d"), stateOf(9, 0, "1:a 2:b 2:c 9:d"), stateOf(9, -1, "1:a 2:b 2:c 9:d"), stateOf(9, 1, ""), stateOf(9, 1, "1:a 2:b 2:c"), stateOf(9, 1, "1:a 2:b 2:c 9:d 9:"), stateOf(9, 1, "2:b 2:c 9:d"), stateOf(9, 1, "1:a 2:c 2:b 9:d"),
		stateOf(9, 1, "2:a 2:b 2:c 9:d"), stateOf(9, 1, "1:A 2:b 2:c 9:d"), stateOf(9, 1, "1:a 1:b 2:c 9:d"), stateOf(9, 1, "1:a 2: 2:c 9:d"), stateOf(9, 1, "1:a 2:b 3:c 9:d"), stateOf(9, 1, "1:a 2:b 2:cc 9:d"), stateOf(9, 1, "1:a 2:b 2:c 8:d"), stateOf(9, 1, "1:a 2:b 2:c 9:e"), stateOf(9, 1, "1:a 2:b 2:c 9:"),
	} {
		for _, pair := range [][2]impl.State{{base, other}, {other, base}} {
			if same, code := impl.SameState(pair[0], pair[1]); same || code != impl.OK {
				t.Errorf("SameState(%s, %s) = %v, %d", stateShown(pair[0]), stateShown(pair[1]), same, code)
			}
		}
	}
	if same, code := impl.SameState(impl.State{Term: 1}, impl.State{Term: 1, Log: []impl.Entry{}}); !same || code != impl.OK {
		t.Error("no Log and an empty one:", same, code)
	}
}

// roomyState has entries behind its Log, which no call may write to.
func roomyState(s impl.State) (roomy impl.State, room []impl.Entry) {
	room = append(slices.Clone(s.Log), slices.Repeat([]impl.Entry{{Term: -7, Data: "behind"}}, 5)...)
	s.Log = room[:len(s.Log)]
	return s, room
}

func TestStatesAreNotChangedAndAnswersAreNewMemory(t *testing.T) {
	for _, base := range rightStates() {
		s, room := roomyState(base)
		was := slices.Clone(room)
		hold := func(what string, answers ...any) {
			t.Helper()
			if !slices.Equal(room, was) || !sameStates(s, base) {
				t.Fatalf("%s writes into %s, or behind it", what, stateShown(base))
			}
			wantApart(t, what, append([]any{s}, answers...)...)
		}
		for _, record := range append(otherRecords(), termText(s.Term, s.Vote), termText(1000, 4), termText(s.Term-1, 0), cutText(0), cutText(1), cutText(len(s.Log)), cutText(len(s.Log)-1), entryText(s.Term, "d"), entryText(1000, "d"), strings.Repeat("r", impl.MaxText+1)) {
			one, _ := impl.ApplyRecord(s, record)
			two, _ := impl.ApplyRecord(s, record)
			hold(fmt.Sprintf("ApplyRecord of %.30q", record), one, two)
			three, _ := impl.ApplyRecord(one, entryText(max(1, one.Term), "more"))
			four, _ := impl.ApplyRecord(one, entryText(max(1, one.Term), "other"))
			hold(fmt.Sprintf("ApplyRecord behind %.30q", record), one, two, three, four)
		}
		for _, other := range rightStates() {
			one, _ := impl.RecordsOf(s, other)
			two, _ := impl.RecordsOf(other, s)
			three, _ := impl.RecordsOf(s, s)
			hold("RecordsOf", other, one, two, three)
			impl.SameState(s, other)
			impl.SameState(other, s)
			impl.StateOK(s)
			hold("SameState", other)
		}
	}
}

func TestRecordListsAreNotChangedNorWhatStandsBehindThem(t *testing.T) {
	for _, list := range [][]string{nil, someRecords(), {""}, {"a", strings.Repeat("r", 1001)}, slices.Repeat([]string{strings.Repeat("r", 1000)}, 60), make([]string, impl.MaxList+1)} {
		room := append(slices.Clone(list), "behind", "behind")
		was := slices.Clone(room)
		for _, s := range append(wrongStores(), impl.Store{}, impl.Store{Data: "data", Sure: 2}) {
			kept := impl.Store{Data: strings.Clone(s.Data), Sure: s.Sure}
			impl.WriteRecords(s, room[:len(list)])
			if !slices.Equal(room, was) || s != kept {
				t.Error("WriteRecords writes into its arguments, or behind them")
			}
		}
	}
}

func TestRecoveredStatesAreNewMemory(t *testing.T) {
	data := framesText(someRecords()...)
	for n := range len(data) + 1 {
		one, _, _ := impl.Recover(impl.Store{Data: data[:n]})
		two, _, _ := impl.Recover(impl.Store{Data: data[:n]})
		wantApart(t, "Recover", one, two)
	}
}
