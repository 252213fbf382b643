package tests

import (
	"bytes"
	"encoding/binary"
	"fmt"
	"math"
	"math/rand"
	"slices"
	"strings"
	"testing"

	"loop.example/g00308/impl"
)

// dataIn are the bytes of commands, worked out without the program.
func dataIn(list ...impl.Command) []string {
	var out []string
	for _, c := range list {
		out = append(out, string(modelCommandBytes(c)))
	}
	return out
}

// modelFold takes data one by one on the model of a multiplexer.
func modelFold(m impl.Mux, list []string) (impl.Mux, []impl.Reply) {
	model := muxModelOf(m)
	var replies []impl.Reply
	for _, data := range list {
		reply := impl.Reply{Code: impl.ErrForm}
		if c, ok := modelReadCommand([]byte(data)); ok {
			reply = model.come(c)
		}
		replies = append(replies, reply)
	}
	return model.mux(), replies
}

func emptyMux(w, h int) impl.Mux { return impl.Mux{W: w, H: h, Next: 1} }

func listShown(list []string) string {
	return fmt.Sprintf("%d data %.200s", len(list), fmt.Sprintf("%.20q", list[:min(len(list), 8)]))
}

// roomyTexts has memory behind its end, which no call may write to.
func roomyTexts(list []string) (roomy, room []string) {
	room = append(slices.Clone(list), "behind", "behind", "behind")
	return room[:len(list)], room
}

// wantFoldAnswer holds what a fold answers against what the model makes of a multiplexer, or against a code with nothing else.
func wantFoldAnswer(t *testing.T, what string, start impl.Mux, list []string, got impl.Mux, replies []impl.Reply, code, wantCode int) {
	t.Helper()
	var want impl.Mux
	var wantReplies []impl.Reply
	if wantCode == impl.OK {
		want, wantReplies = modelFold(start, list)
	}
	if code != wantCode || !slices.Equal(replies, wantReplies) || !sameMuxes(got, want) {
		t.Fatalf("%s of %s on %s: %.300s, %d and %s\nnot %.300s, %d and %s", what, listShown(list), muxShown(start), fmt.Sprint(replies), code, muxShown(got), fmt.Sprint(wantReplies), wantCode, muxShown(want))
	}
	if impl.MuxOK(got) != (code == impl.OK) {
		t.Fatalf("%s of %s, %d: MuxOK of %s", what, listShown(list), code, muxShown(got))
	}
}

func modelFoldDataCode(w, h int, list []string) int {
	switch {
	case len(list) > 4096:
		return impl.ErrLong
	case w < 2 || w > 24 || h < 2 || h > 10:
		return impl.ErrRange
	case len(list) > 60:
		return impl.ErrMany
	}
	return impl.OK
}

// wantFoldData holds a fold on a new multiplexer against the model, and asks that the list is left alone, and the answer new memory.
func wantFoldData(t *testing.T, w, h int, list []string) (impl.Mux, []impl.Reply, int) {
	t.Helper()
	roomy, room := roomyTexts(list)
	was := slices.Clone(room)
	got, replies, code := impl.FoldData(w, h, roomy)
	again, repliesAgain, _ := impl.FoldData(w, h, roomy)
	what := fmt.Sprintf("FoldData(%d, %d)", w, h)
	if !slices.Equal(room, was) {
		t.Fatal(what, "writes into its list, or behind it:", listShown(list))
	}
	wantApart(t, what, room, got, replies, again, repliesAgain)
	wantFoldAnswer(t, what, emptyMux(w, h), list, got, replies, code, modelFoldDataCode(w, h, list))
	return got, replies, code
}

func modelFoldFromCode(m impl.Mux, list []string) int {
	switch {
	case len(list) > 4096:
		return impl.ErrLong
	case !modelMuxOK(m):
		return impl.ErrBad
	case len(list) > 60:
		return impl.ErrMany
	}
	return impl.OK
}

// wantFoldFrom does so of a fold that goes on, and asks that the multiplexer is left alone, too.
func wantFoldFrom(t *testing.T, m impl.Mux, list []string) (impl.Mux, []impl.Reply, int) {
	t.Helper()
	roomy, room := roomyTexts(list)
	start, lists := roomyMux(m)
	was, wasLists := slices.Clone(room), lists()
	got, replies, code := impl.FoldFrom(start, roomy)
	again, repliesAgain, _ := impl.FoldFrom(start, roomy)
	if !slices.Equal(room, was) || lists() != wasLists || !sameMuxes(start, m) {
		t.Fatalf("FoldFrom of %s writes into its arguments, or behind them: %s", listShown(list), muxShown(m))
	}
	wantApart(t, "FoldFrom", start, room, got, replies, again, repliesAgain)
	wantFoldAnswer(t, "FoldFrom", m, list, got, replies, code, modelFoldFromCode(m, list))
	return got, replies, code
}

// wantFoldNode holds a node's fold against the model of what it knows to be committed, without empty ones.
func wantFoldNode(t *testing.T, w, h int, base impl.Node) (impl.Mux, int, int) {
	t.Helper()
	n, lists := roomyNode(base)
	was := lists()
	got, count, code := impl.FoldNode(w, h, n)
	again, _, _ := impl.FoldNode(w, h, n)
	if lists() != was || !sameNodes(n, base) {
		t.Fatal("FoldNode writes into its node, or behind its lists:", nodeShown(base))
	}
	wantApart(t, "FoldNode", n, got, again)
	var list []string
	wantCode := impl.OK
	if !modelNodeOK(base) {
		wantCode = impl.ErrBad
	} else if wantCode = modelFoldDataCode(w, h, nil); wantCode == impl.OK {
		for place := range base.Commit {
			if len(base.Log[place].Data) > 0 {
				list = append(list, base.Log[place].Data)
			}
		}
	}
	_, replies := modelFold(emptyMux(w, h), list)
	what := fmt.Sprintf("FoldNode(%d, %d, %s)", w, h, nodeShown(base))
	if wantFoldAnswer(t, what, emptyMux(w, h), list, got, replies, code, wantCode); count != len(list) {
		t.Fatalf("%s counts %d, not %d", what, count, len(list))
	}
	return got, count, code
}

// committedNode knows the first of the data to be committed, and has them all.
func committedNode(list []string, commit int) impl.Node {
	n := newNode(1, 3)
	n.Term = 4
	for i, data := range list {
		n.Log = append(n.Log, impl.Entry{Term: 1 + 3*i/60, Data: data})
	}
	n.Commit = commit
	return n
}

// story are commands of which some fail, some come again and some come late, with data that are none in between; of two clients.
func story() []string {
	done := dataIn(
		at(1, windowCommand("main")), at(2, outputCommand(1, 1, "one\r\n\x1b[1")), at(3, splitCommand(1, false)), from(7, at(1, windowCommand("logs"))), from(7, at(2, outputCommand(3, 1, "\xe2\x82"))),
		at(4, outputCommand(1, 1, "mtwo")), from(7, at(3, outputCommand(3, 1, "\xacx\x1b]0;ti"))), at(5, ownCommand(2, 7)), from(7, at(4, outputCommand(2, 2, "taken"))), at(6, outputCommand(2, 1, "stale")),
		at(7, windowCommand("main")), at(8, killCommand(9)), at(9, moveCommand(1, 2)), at(10, resizeCommand(16, 5)), at(10, killCommand(1)), at(3, killCommand(1)), from(7, at(5, renameCommand("logs", "log"))), at(11, killCommand(2)),
	)
	list := slices.Clone(done[:3])
	list = append(list, "", done[2], "junk", done[0])
	list = append(list, done[3:12]...)
	return append(append(list, done[11][:20], done[12]+"x", ""), done[12:]...)
}

// noneData are data that are none: empty, cut off, with bytes behind, of another kind, and other things' bytes; each nearly a command that would be done.
func noneData(t *testing.T) []string {
	t.Helper()
	c := at(50, resizeCommand(9, 9))
	text := dataIn(c)[0]
	fields, _ := modelFields([]byte(text))
	list := []string{"", "\x00", "\x03", "junk", " ", text[:len(text)-1], text[:1], text[1:], text + "\x00", text + text, "\x00" + text, string(frameOf(text)), framesText(text, text), string(fieldsOf(append(slices.Clone(fields), ""))), string(fieldsOf(fields[:2])), string(fieldsOf(fields[1:]))}
	for _, other := range []impl.Command{withNumber(c, 0, 0), withNumber(c, 0, 9), withNumber(c, 0, 255), withNumber(c, 1, 201), withNumber(c, 2, 0), withNumber(c, 2, 60001), withNumber(c, 3, 1), withNumber(c, 4, 1), withNumber(c, 4, 25), withNumber(c, 5, 11), at(50, windowCommand("thirteenbytes")), at(50, outputCommand(1, 1, strings.Repeat("x", 201))), at(50, outputCommand(1, 1, ""))} {
		list = append(list, dataIn(other)...)
	}
	list = append(list, string(fieldsOf([]string{fields[0][:18] + modelNumbers(2), "", ""})), string(modelMuxBytes(emptyMux(9, 9))), termText(1, -1), entryText(1, text))
	list = append(list, string(sampleBytes(400)), string(sampleBytes(401)), string(make([]byte, impl.MaxText)), string(make([]byte, impl.MaxText+1)), text+strings.Repeat("x", impl.MaxText), string(fieldsOf(fullFields(0))), string(fieldsOf(fullFields(1))), strings.Repeat("\x03", 1<<20))
	for _, data := range list {
		if _, ok := modelReadCommand([]byte(data)); ok {
			t.Fatalf("the model takes %.100q", data)
		}
	}
	return list
}

func TestDataFoldedWrittenOut(t *testing.T) {
	list := append(dataIn(at(1, windowCommand("main")), at(2, outputCommand(1, 1, "hello\x1b[2"))), "junk", "")
	list = append(list, dataIn(at(3, outputCommand(1, 1, "DX")), at(3, killCommand(1)), at(2, killCommand(1)), at(4, killCommand(2)), from(5, at(1, outputCommand(1, 1, "y"))), at(5, splitCommand(1, true)))...)
	want := []impl.Reply{{Number: 1}, {}, {Code: impl.ErrForm}, {Code: impl.ErrForm}, {}, {}, {Code: impl.ErrLate}, {Code: impl.ErrNone}, {Code: impl.ErrStale}, {Number: 2}}
	m, replies, code := wantFoldData(t, 12, 6, list)
	if code != impl.OK || !slices.Equal(replies, want) || layoutTexts(m) != "main(1-3-2)" {
		t.Error("FoldData:", replies, code, layoutTexts(m))
	}
	if text, _ := impl.RowText(m.Panes[0].Screen, 0); text != "helXo" {
		t.Errorf("the screen begins %q", text)
	}
	if seens := []impl.Seen{{Client: 0, Seq: 5, Reply: impl.Reply{Number: 2}}, {Client: 5, Seq: 1, Reply: impl.Reply{Code: impl.ErrStale}}}; !slices.Equal(m.Seens, seens) {
		t.Error("the Seens are", m.Seens)
	}
	if n, code := impl.AppliedCount(list); n != 9 || code != impl.OK {
		t.Error("AppliedCount", n, code)
	}
	half := committedNode(list, 4)
	if m, count, code := wantFoldNode(t, 12, 6, half); count != 3 || code != impl.OK || layoutTexts(m) != "main1" {
		t.Error("FoldNode", count, code, layoutTexts(m))
	}
}

func foldLengths() []int { return []int{0, 1, 59, 60, 61, 62, 200, 201, 4095, 4096, 4097, 10000} }

// longData are commands of a window and what its pane's owner becomes, so that each has its own reply.
func longData(n int) []string {
	list := dataIn(at(1, windowCommand("a")))
	for seq := 2; seq <= n; seq++ {
		list = append(list, dataIn(at(seq, ownCommand(1, seq%200)))...)
	}
	return list[:n]
}

func TestFoldDataOfEverySize(t *testing.T) {
	sides := slices.Clone(strayNumbers)
	for n := -1; n < 28; n++ {
		sides = append(sides, n)
	}
	for _, w := range sides {
		for _, h := range sides {
			wantFoldData(t, w, h, nil)
			m, replies, code := wantFoldData(t, w, h, dataIn(at(1, windowCommand("a"))))
			if right := inBounds(w, 2, 24) && inBounds(h, 2, 10); right != (code == impl.OK) || right && (m.W != w || m.H != h || replies[0].Number != 1) || !right && code != impl.ErrRange {
				t.Errorf("FoldData(%d, %d): %v, %d", w, h, replies, code)
			}
			_, count, code := wantFoldNode(t, w, h, committedNode([]string{"", "x", ""}, 2))
			if right := inBounds(w, 2, 24) && inBounds(h, 2, 10); right && (count != 1 || code != impl.OK) || !right && (count != 0 || code != impl.ErrRange) {
				t.Errorf("FoldNode(%d, %d): %d, %d", w, h, count, code)
			}
		}
	}
}

func TestFoldsOfSoManyData(t *testing.T) {
	right, wrong := seenBy(muxOf(t, 20, 8, "(1|10|2)", "3"), 3), muxOf(t, 20, 8, "1")
	wrong.Next = 1
	for _, n := range foldLengths() {
		for _, list := range [][]string{longData(n), make([]string, n), slices.Repeat([]string{"junk"}, n), slices.Repeat([]string{strings.Repeat("x", impl.MaxText+1)}, n)} {
			most := impl.ErrMany
			if n > impl.MaxList {
				most = impl.ErrLong
			}
			if m, replies, code := wantFoldData(t, 12, 6, list); n <= 60 && (code != impl.OK || len(replies) != n) || n > 60 && (code != most || len(replies) != 0 || !sameMuxes(m, impl.Mux{})) {
				t.Errorf("FoldData of %d: %d replies, %d", n, len(replies), code)
			}
			if m, replies, code := wantFoldFrom(t, right, list); n <= 60 && (code != impl.OK || len(replies) != n) || n > 60 && (code != most || len(replies) != 0 || !sameMuxes(m, impl.Mux{})) {
				t.Errorf("FoldFrom of %d: %d replies, %d", n, len(replies), code)
			}
			first, other := impl.ErrRange, impl.ErrBad
			if n > impl.MaxList {
				first, other = impl.ErrLong, impl.ErrLong
			}
			if m, replies, code := wantFoldData(t, 25, 6, list); code != first || len(replies) != 0 || !sameMuxes(m, impl.Mux{}) {
				t.Errorf("FoldData(25, 6) of %d: %d, not %d", n, code, first)
			}
			if m, replies, code := wantFoldFrom(t, wrong, list); code != other || len(replies) != 0 || !sameMuxes(m, impl.Mux{}) {
				t.Errorf("FoldFrom one that is not right of %d: %d, not %d", n, code, other)
			}
			wantAppliedCount(t, list)
		}
	}
	if m, replies, _ := wantFoldData(t, 12, 6, longData(60)); m.Panes[0].Epoch != 60 || replies[59] != (impl.Reply{Number: 60}) {
		t.Error("the last of 60 is told", replies[59])
	}
	for _, list := range [][]string{nil, {}} {
		if m, replies, code := wantFoldData(t, 2, 2, list); code != impl.OK || len(replies) != 0 || !sameMuxes(m, emptyMux(2, 2)) {
			t.Error("FoldData of none:", muxShown(m), replies, code)
		}
		if m, replies, code := wantFoldFrom(t, right, list); code != impl.OK || len(replies) != 0 || !sameMuxes(m, right) {
			t.Error("FoldFrom of none:", muxShown(m), replies, code)
		}
	}
}

// What is told of the others, and what they do, is as if the data that are none were not there.
func TestDataThatAreNone(t *testing.T) {
	t.Parallel()
	rest := story()
	without, told, _ := wantFoldData(t, 20, 8, rest)
	for _, none := range noneData(t) {
		if m, replies, code := wantFoldData(t, 20, 8, []string{none}); code != impl.OK || !slices.Equal(replies, []impl.Reply{{Code: impl.ErrForm}}) || !sameMuxes(m, emptyMux(20, 8)) {
			t.Errorf("%.40q alone: %v, %d", none, replies, code)
		}
		for _, place := range []int{0, 1, len(rest) / 2, len(rest)} {
			list := slices.Insert(slices.Clone(rest), place, none)
			m, replies, code := wantFoldData(t, 20, 8, list)
			if code != impl.OK || !sameMuxes(m, without) || !slices.Equal(replies, slices.Insert(slices.Clone(told), place, impl.Reply{Code: impl.ErrForm})) {
				t.Errorf("%.40q at %d: %v, %d", none, place, replies, code)
			}
		}
		for _, m := range someMuxes(t) {
			if got, replies, code := wantFoldFrom(t, m, []string{none, none}); code != impl.OK || !sameMuxes(got, m) || !slices.Equal(replies, []impl.Reply{{Code: impl.ErrForm}, {Code: impl.ErrForm}}) {
				t.Errorf("%.40q on %s: %v, %d", none, muxShown(m), replies, code)
			}
		}
	}
}

func TestDataWithOneByteChanged(t *testing.T) {
	start := seenBy(muxOf(t, 20, 8, "(1|10|2)", "3"), 5, 6)
	read, none := 0, 0
	hold := func(list ...string) {
		t.Helper()
		got, replies, code := impl.FoldFrom(start, list)
		wantFoldAnswer(t, "FoldFrom", start, list, got, replies, code, impl.OK)
		if replies[0].Code == impl.ErrForm {
			none++
		} else {
			read++
		}
	}
	for _, c := range someCommands() {
		text := dataIn(at(30, c))[0]
		for place := range text {
			for _, value := range []byte{0, 1, 2, text[place] + 1, text[place] - 1, text[place] ^ 0x80} {
				changed := []byte(text)
				changed[place] = value
				hold(string(changed))
			}
			hold(text[:place], text[place:])
		}
	}
	if read < 300 || none < 1000 {
		t.Error("only", read, "were read, and", none, "were not")
	}
}

func TestCommandsThatComeAgainOrFailWithinAList(t *testing.T) {
	base := dataIn(at(1, windowCommand("a")), at(2, splitCommand(1, false)), at(3, windowCommand("b")))
	for _, c := range someCommands() {
		data := dataIn(at(4, c))[0]
		once, told, _ := wantFoldData(t, 24, 10, append(slices.Clone(base), data))
		for _, again := range [][]string{{data}, {data, data}, {"", data, "junk"}, dataIn(at(4, killCommand(1)))} {
			m, replies, _ := wantFoldData(t, 24, 10, slices.Concat(base, []string{data}, again))
			if !sameMuxes(m, once) {
				t.Errorf("%+v again: %s, not %s", c, muxShown(m), muxShown(once))
			}
			for i, reply := range replies[4:] {
				if _, ok := modelReadCommand([]byte(again[i])); ok && reply != told[3] || !ok && reply != (impl.Reply{Code: impl.ErrForm}) {
					t.Errorf("%+v again is told %+v, not %+v", c, reply, told[3])
				}
			}
		}
		late, replies, _ := wantFoldData(t, 24, 10, slices.Concat(base, []string{data}, base))
		if !sameMuxes(late, once) || !slices.Equal(replies[4:], slices.Repeat([]impl.Reply{{Code: impl.ErrLate}}, 3)) {
			t.Errorf("behind %+v the first ones are told %v", c, replies[4:])
		}
		if was, _, _ := wantFoldData(t, 24, 10, base); told[3].Code != impl.OK && !sameButSeens(once, was) {
			t.Errorf("%+v fails, and changes %s", c, muxShown(was))
		}
	}
	var clients []string
	for client := range 6 {
		clients = append(clients, dataIn(from(client, at(1, ownCommand(1, client))))...)
	}
	want := []impl.Reply{{Code: impl.ErrNone}, {Code: impl.ErrNone}, {Code: impl.ErrNone}, {Code: impl.ErrNone}, {Code: impl.ErrFull}, {Code: impl.ErrFull}}
	if m, replies, _ := wantFoldData(t, 24, 10, clients); !slices.Equal(replies, want) || len(m.Seens) != 4 {
		t.Error("of more clients than there may be:", replies, m.Seens)
	}
}

// wantOneByOne asks for what the commands do by themselves.
func wantOneByOne(t *testing.T, w, h int, list []string) {
	t.Helper()
	got, replies, code := wantFoldData(t, w, h, list)
	m, _ := impl.NewMux(w, h)
	var commands []impl.Command
	for i, data := range list {
		want := impl.Reply{Code: impl.ErrForm}
		if c, code := impl.ReadCommand([]byte(data)); code == impl.OK {
			commands = append(commands, c)
			m, want, _ = impl.ApplyCommand(m, c)
		}
		if replies[i] != want {
			t.Fatalf("data %d are told %+v, not %+v", i, replies[i], want)
		}
	}
	if same, _ := impl.SameMux(m, got); !same || code != impl.OK {
		t.Fatalf("one by one the commands make %s, not %s", muxShown(m), muxShown(got))
	}
	if run, _, _ := impl.RunCommands(w, h, commands); !sameMuxes(run, got) {
		t.Fatal("together the commands make something else")
	}
}

// drawnData are mostly commands that may be done; some come again, and some data are none.
func drawnData(draw *rand.Rand, w, h, n int, none []string) []string {
	var list []string
	m := muxModelOf(emptyMux(w, h))
	for len(list) < n {
		data := ""
		switch kind := draw.Intn(10); {
		case kind == 0:
			data = none[draw.Intn(len(none))]
		case kind == 1 && len(list) > 0:
			data = list[draw.Intn(len(list))]
		default:
			data = dataIn(drawnCommand(draw, m.mux()))[0]
		}
		if c, ok := modelReadCommand([]byte(data)); ok {
			m.come(c)
		}
		list = append(list, data)
	}
	return list
}

func drawnLists(t *testing.T, seed int64, count int) [][]string {
	t.Helper()
	draw := rand.New(rand.NewSource(seed))
	none := slices.DeleteFunc(noneData(t), func(data string) bool { return len(data) > 400 })
	list := [][]string{story(), nil}
	for range count {
		list = append(list, drawnData(draw, 20, 8, 60-draw.Intn(3)*draw.Intn(31), none))
	}
	return list
}

func TestDrawnDataOneByOne(t *testing.T) {
	codes := map[int]int{}
	for _, list := range drawnLists(t, 10, 60) {
		wantOneByOne(t, 20, 8, list)
		_, replies, _ := impl.FoldData(20, 8, list)
		for _, reply := range replies {
			codes[reply.Code]++
		}
	}
	for _, code := range []int{impl.OK, impl.ErrForm, impl.ErrNone, impl.ErrTwice, impl.ErrStale, impl.ErrLate, impl.ErrFull} {
		if codes[code] < 10 {
			t.Error("drawn too seldom:", impl.CodeWord(code), codes[code])
		}
	}
}

// The list folded at once and in two parts, cut at every place, makes the same.
func TestFoldsInTwoParts(t *testing.T) {
	t.Parallel()
	for _, list := range drawnLists(t, 11, 12) {
		whole, told, code := wantFoldData(t, 20, 8, list)
		if code != impl.OK {
			t.Fatal("FoldData", code)
		}
		for place := range len(list) + 1 {
			first, replies, _ := wantFoldData(t, 20, 8, list[:place])
			end, more, code := wantFoldFrom(t, first, list[place:])
			if code != impl.OK || !sameMuxes(end, whole) || !slices.Equal(append(replies, more...), told) {
				t.Fatalf("cut at %d: %v, %d, not %v", place, append(replies, more...), code, told)
			}
		}
		step := emptyMux(20, 8)
		for i, data := range list {
			next, replies, code := wantFoldFrom(t, step, []string{data})
			if step = next; code != impl.OK || !slices.Equal(replies, told[i:i+1]) {
				t.Fatalf("data %d by themselves: %v, %d", i, replies, code)
			}
		}
		if !sameMuxes(step, whole) {
			t.Fatal("one by one the data make", muxShown(step))
		}
	}
}

func TestFoldFromOfEachMux(t *testing.T) {
	t.Parallel()
	var all []string
	for i, c := range append(someCommands(), rightCommands()...) {
		if all = append(all, dataIn(from(200, at(20+i, c)))...); i%5 == 0 {
			all = append(all, "junk", all[len(all)-1])
		}
	}
	for _, m := range someMuxes(t) {
		for place := 0; place <= len(all); place += 1 + place%3 {
			if _, replies, code := wantFoldFrom(t, m, all[:place]); code != impl.OK || len(replies) != place {
				t.Fatalf("FoldFrom of %d data: %d replies, %d", place, len(replies), code)
			}
		}
	}
	for _, m := range wrongMuxes(t) {
		was := cloneMux(m)
		for _, list := range [][]string{nil, all, {"junk"}, make([]string, 60), make([]string, 61), make([]string, impl.MaxList), make([]string, impl.MaxList+1)} {
			want := impl.ErrBad
			if len(list) > impl.MaxList {
				want = impl.ErrLong
			}
			if got, replies, code := impl.FoldFrom(m, list); code != want || len(replies) != 0 || !sameMuxes(got, impl.Mux{}) {
				t.Errorf("FoldFrom %.500s of %d: %d", muxShown(m), len(list), code)
			}
		}
		if !sameMuxes(m, was) {
			t.Errorf("FoldFrom changes %.500s", muxShown(was))
		}
	}
}

func TestFoldNodeOfWhatItKnowsToBeCommitted(t *testing.T) {
	list := slices.Insert(story(), 3, "", "\x00", string(sampleBytes(400)))
	for commit := range len(list) + 1 {
		n := committedNode(list, commit)
		m, count, code := wantFoldNode(t, 20, 8, n)
		known := slices.DeleteFunc(slices.Clone(list[:commit]), func(data string) bool { return data == "" })
		want, _, _ := impl.FoldData(20, 8, known)
		applied, _ := impl.AppliedCount(list[:commit])
		if code != impl.OK || count != len(known) || count != applied || !sameMuxes(m, want) {
			t.Errorf("FoldNode with %d committed: %d, %d", commit, count, code)
		}
		for _, other := range []impl.Node{downNode(n), withElapsed(n, 1000, 100), withLog(n, n.Log[:commit])} {
			if got, again, code := wantFoldNode(t, 20, 8, other); code != impl.OK || again != count || !sameMuxes(got, m) {
				t.Errorf("FoldNode of %s: %d, %d", nodeShown(other), again, code)
			}
		}
		for role := range 3 {
			n.Role = role
			wantFoldNode(t, 20, 8, n)
		}
		n.Commit = len(list) + 1
		wantFoldNode(t, 20, 8, n)
	}
	for _, full := range [][]string{longData(60), make([]string, 60), slices.Repeat([]string{strings.Repeat("d", 400)}, 60)} {
		for commit := range 61 {
			wantFoldNode(t, 24, 10, committedNode(full, commit))
		}
	}
	if m, count, code := wantFoldNode(t, 24, 10, committedNode(longData(60), 60)); count != 60 || code != impl.OK || m.Panes[0].Epoch != 60 {
		t.Error("FoldNode of 60:", count, code)
	}
	if m, count, code := wantFoldNode(t, 24, 10, committedNode(make([]string, 60), 60)); count != 0 || code != impl.OK || !sameMuxes(m, emptyMux(24, 10)) {
		t.Error("FoldNode of 60 empty ones:", count, code)
	}
}

func TestFoldNodeOfNodesThatAreRightAndNot(t *testing.T) {
	for _, n := range sampleNodes() {
		if _, _, code := wantFoldNode(t, 5, 5, n); code != impl.OK {
			t.Errorf("FoldNode of %s: %d", nodeShown(n), code)
		}
		if m, count, code := wantFoldNode(t, 1, 5, n); code != impl.ErrRange || count != 0 || !sameMuxes(m, impl.Mux{}) {
			t.Errorf("FoldNode of %s for 1 by 5: %d, %d", nodeShown(n), count, code)
		}
	}
	for _, n := range wrongNodes() {
		for _, size := range [][2]int{{5, 5}, {1, 5}, {5, 11}, {math.MinInt, math.MaxInt}} {
			if m, count, code := wantFoldNode(t, size[0], size[1], n); code != impl.ErrBad || count != 0 || !sameMuxes(m, impl.Mux{}) {
				t.Errorf("FoldNode of %s for %v: %d, %d", nodeShown(n), size, count, code)
			}
		}
	}
	if m, count, code := wantFoldNode(t, 5, 5, baseNode()); count != 2 || code != impl.OK || !sameMuxes(m, emptyMux(5, 5)) {
		t.Error("FoldNode of data that are none:", count, code)
	}
}

// What the nodes of a cluster know to be committed makes what a beginning of what is done makes, though nodes crash, and others lead.
func TestFoldsOfTheNodesOfACluster(t *testing.T) {
	r := newRack(t, 3)
	r.stand(0)
	told := story()
	for i, data := range told {
		if data == "" {
			continue
		}
		if i%7 == 5 {
			r.act(crashAct(r.leader()))
		}
		r.wantCommitted(data)
		done, _ := impl.LongestDone(r.c)
		for _, n := range r.c.Nodes {
			m, count, code := wantFoldNode(t, 20, 8, n)
			want, _, _ := wantFoldData(t, 20, 8, done[:count])
			if code != impl.OK || !sameMuxes(m, want) || count != len(done) {
				t.Fatalf("node %d makes %s of %d, %d", n.Id, muxShown(m), count, code)
			}
		}
	}
	done, _ := impl.LongestDone(r.c)
	if applied, code := impl.AppliedCount(told); code != impl.OK || applied != len(done) || len(r.c.Done) == len(done) {
		t.Error("AppliedCount", applied, code, "of", len(done), len(r.c.Done))
	}
	wantOneByOne(t, 20, 8, done)
}

func wantAppliedCount(t *testing.T, list []string) {
	t.Helper()
	roomy, room := roomyTexts(list)
	was := slices.Clone(room)
	want, wantCode := 0, impl.OK
	switch {
	case len(list) > 4096:
		wantCode = impl.ErrLong
	case len(list) > 60:
		wantCode = impl.ErrMany
	default:
		for _, data := range list {
			want += oneIf(len(data) > 0)
		}
	}
	if n, code := impl.AppliedCount(roomy); n != want || code != wantCode || !slices.Equal(room, was) {
		t.Errorf("AppliedCount of %s: %d, %d, not %d, %d", listShown(list), n, code, want, wantCode)
	}
}

func TestAppliedCount(t *testing.T) {
	for _, c := range []struct {
		list       []string
		want, code int
	}{
		{nil, 0, 0}, {[]string{}, 0, 0}, {[]string{""}, 0, 0}, {[]string{"x"}, 1, 0}, {[]string{"", "x", "", "", "junk", " ", "\x00", ""}, 4, 0}, {make([]string, 60), 0, 0}, {make([]string, 61), 0, impl.ErrMany}, {make([]string, impl.MaxList), 0, impl.ErrMany}, {make([]string, impl.MaxList+1), 0, impl.ErrLong},
		{slices.Repeat([]string{"x"}, 60), 60, 0}, {slices.Repeat([]string{"x"}, 61), 0, impl.ErrMany}, {append(make([]string, 59), "x"), 1, 0}, {append(make([]string, 60), "x"), 0, impl.ErrMany}, {[]string{strings.Repeat("x", impl.MaxText+1), ""}, 1, 0}, {[]string{"x", "x", "x"}, 3, 0},
	} {
		if n, code := impl.AppliedCount(c.list); n != c.want || code != c.code {
			t.Errorf("AppliedCount of %s: %d, %d, not %d, %d", listShown(c.list), n, code, c.want, c.code)
		}
		wantAppliedCount(t, c.list)
	}
	wantAppliedCount(t, story())
	wantAppliedCount(t, noneData(t))
}

// longFrameOf is a frame of any data: Check32 is 0 of more than MaxText bytes.
func longFrameOf(data string) string {
	b := frameOf(data)
	if len(data)+3 > 65536 {
		clear(b[3:7])
	}
	return string(b)
}

// wantCut holds pieces against those that are cut off by hand, and reads them back.
func wantCut(t *testing.T, b []byte, size int) {
	t.Helper()
	room := append(bytes.Clone(b), "behind"...)
	was := bytes.Clone(room)
	list, code := impl.CutChunks(room[:len(b)], size)
	if !bytes.Equal(room, was) {
		t.Fatalf("CutChunks of %d bytes by %d writes into them, or behind them", len(b), size)
	}
	wantCode := impl.OK
	if len(b) > 65536 {
		wantCode = impl.ErrLong
	} else if size < 16 || size > 4096 {
		wantCode = impl.ErrRange
	}
	var want []string
	for at := 0; wantCode == impl.OK && at < len(b); at += size {
		want = append(want, string(frameOf(string(b[at:min(at+size, len(b))]))))
	}
	if code != wantCode || !slices.Equal(list, want) {
		t.Fatalf("CutChunks of %d bytes by %d: %d pieces, %d, not %d, %d", len(b), size, len(list), code, len(want), wantCode)
	}
	if clear(room); !slices.Equal(list, want) {
		t.Fatal("pieces share memory with the bytes that they were cut from")
	}
	if code != impl.OK {
		return
	}
	again, _ := impl.CutChunks(b, size)
	wantApart(t, "CutChunks", b, list, again)
	if back, code := wantJoined(t, list); code != impl.OK || !bytes.Equal(back, b) {
		t.Fatalf("%d bytes by %d are joined to %d, %d", len(b), size, len(back), code)
	}
}

func TestCutsOfEachLength(t *testing.T) {
	sizes := []int{-1, 0, 1, 15, 16, 17, 100, 4095, 4096, 4097, impl.MaxText, impl.MaxText + 1}
	for _, size := range append(sizes, strayNumbers...) {
		lengths := []int{0, 1, 2, 15, 16, 17, 31, 32, 33, impl.MaxText - 1, impl.MaxText, impl.MaxText + 1, 2 * impl.MaxText}
		if size > 0 && size <= 4097 {
			lengths = append(lengths, size-1, size, size+1, 2*size-1, 2*size, 2*size+1, 5*size-1, 5*size, 5*size+1)
		}
		for _, n := range lengths {
			wantCut(t, sampleBytes(n), size)
		}
	}
	for n := range 200 {
		wantCut(t, sampleBytes(n), 16+n%40)
	}
	for size := 16; size <= 4096; size += 1 + size/9 {
		wantCut(t, sampleBytes(5000), size)
	}
}

func TestCutsWrittenOut(t *testing.T) {
	b := []byte("0123456789abcdefGHIJ")
	for size, want := range map[int][]string{16: {"0123456789abcdef", "GHIJ"}, 19: {"0123456789abcdefGHI", "J"}, 20: {"0123456789abcdefGHIJ"}, 21: {"0123456789abcdefGHIJ"}, 4096: {"0123456789abcdefGHIJ"}} {
		list, code := impl.CutChunks(b, size)
		if code != impl.OK || len(list) != len(want) {
			t.Fatal("CutChunks by", size, list, code)
		}
		for i, piece := range list {
			if frame, _ := impl.FrameBytes(want[i]); piece != string(frame) {
				t.Errorf("piece %d by %d is %q", i, size, piece)
			}
		}
	}
	most, code := impl.CutChunks(make([]byte, impl.MaxText), 16)
	if code != impl.OK || len(most) != impl.MaxList {
		t.Error("the most bytes by the least size are", len(most), code)
	}
	for _, b := range [][]byte{nil, {}} {
		if list, code := impl.CutChunks(b, 16); len(list) != 0 || code != impl.OK {
			t.Error("CutChunks of none", list, code)
		}
		if list, code := impl.CutChunks(b, 15); len(list) != 0 || code != impl.ErrRange {
			t.Error("CutChunks of none by 15", list, code)
		}
	}
	for _, size := range []int{15, 16, 4096, 4097} {
		if list, code := impl.CutChunks(make([]byte, impl.MaxText+1), size); len(list) != 0 || code != impl.ErrLong {
			t.Error("CutChunks of one more than the most by", size, len(list), code)
		}
	}
}

// modelFrames reads a text's frames from the front on, however long it is.
func modelFrames(text string) ([]string, int) {
	var list []string
	for text != "" {
		if len(text) < 7 {
			return list, impl.ErrAgain
		}
		size := int(binary.BigEndian.Uint32([]byte("\x00" + text[:3])))
		if size < 1 || size > 65536 {
			return list, impl.ErrSum
		}
		if len(text) < 7+size {
			return list, impl.ErrAgain
		}
		data := text[7 : 7+size]
		if text[:7+size] != longFrameOf(data) {
			return list, impl.ErrSum
		}
		list, text = append(list, data), text[7+size:]
	}
	return list, impl.OK
}

func modelJoined(list []string) (string, int) {
	if len(list) > 4096 {
		return "", impl.ErrLong
	}
	all := ""
	for _, text := range list {
		frames, code := modelFrames(text)
		switch {
		case code != impl.OK:
			return "", code
		case len(frames) != 1:
			return "", impl.ErrForm
		case len(all)+len(frames[0]) > 65536:
			return "", impl.ErrFull
		}
		all += frames[0]
	}
	return all, impl.OK
}

func wantJoined(t *testing.T, list []string) ([]byte, int) {
	t.Helper()
	roomy, room := roomyTexts(list)
	was := slices.Clone(room)
	got, code := impl.JoinChunks(roomy)
	again, _ := impl.JoinChunks(roomy)
	want, wantCode := modelJoined(list)
	if string(got) != want || code != wantCode {
		t.Fatalf("JoinChunks of %s: %d bytes, %d, not %d, %d", listShown(list), len(got), code, len(want), wantCode)
	}
	if !slices.Equal(room, was) {
		t.Fatal("JoinChunks writes into its list, or behind it:", listShown(list))
	}
	wantApart(t, "JoinChunks", room, got, again)
	return got, code
}

// wantJoin is for what is written out by hand.
func wantJoin(t *testing.T, what, want string, wantCode int, list ...string) {
	t.Helper()
	if got, code := wantJoined(t, list); string(got) != want || code != wantCode {
		t.Errorf("%s: JoinChunks of %s: %.40q, %d, not %.40q, %d", what, listShown(list), got, code, want, wantCode)
	}
}

func TestJoinsWrittenOut(t *testing.T) {
	one, two := longFrameOf("one"), longFrameOf("two")
	wrong := one[:9] + "E"
	wantJoin(t, "none", "", impl.OK)
	wantJoin(t, "one", "one", impl.OK, one)
	wantJoin(t, "several", "onetwoone", impl.OK, one, two, one)
	wantJoin(t, "in their order", "twoone", impl.OK, two, one)
	wantJoin(t, "an empty text", "", impl.ErrForm, "")
	wantJoin(t, "an empty text among others", "", impl.ErrForm, one, "", two)
	wantJoin(t, "two frames", "", impl.ErrForm, one+two)
	wantJoin(t, "two frames behind another", "", impl.ErrForm, one, two+one)
	wantJoin(t, "three frames", "", impl.ErrForm, one+two+one)
	wantJoin(t, "no frame", "", impl.ErrAgain, "junk")
	wantJoin(t, "no frame of seven bytes", "", impl.ErrSum, "junkjun")
	wantJoin(t, "noughts", "", impl.ErrSum, string(make([]byte, 7)))
	wantJoin(t, "a frame of none", "", impl.ErrSum, string(frameOf("")))
	wantJoin(t, "a wrong sum", "", impl.ErrSum, wrong)
	wantJoin(t, "a frame, and one cut off", "", impl.ErrAgain, one+two[:9])
	wantJoin(t, "a frame, and a byte", "", impl.ErrAgain, one+"x")
	wantJoin(t, "a frame, and one of a wrong sum", "", impl.ErrSum, one+wrong)
	wantJoin(t, "two frames, and a byte", "", impl.ErrAgain, one+two+"x")
	wantJoin(t, "the data alone", "", impl.ErrAgain, "one")
	for n := 1; n < len(one); n++ {
		wantJoin(t, "cut off", "", impl.ErrAgain, one[:n])
		wantJoin(t, "cut off behind another", "", impl.ErrAgain, two, one[:n], two)
	}
	for place := range len(one) * 8 {
		b := []byte(one)
		b[place/8] ^= 1 << (place % 8)
		if _, code := wantJoined(t, []string{two, string(b)}); code != impl.ErrSum && code != impl.ErrAgain {
			t.Errorf("with bit %d changed: %d", place, code)
		}
	}
}

// The codes are those of the first text that has one, whatever the texts behind it have.
func TestJoinsTellTheFirstCode(t *testing.T) {
	full, most := longFrameOf(string(sampleBytes(60000))), longFrameOf(string(sampleBytes(impl.MaxText)))
	one := longFrameOf("one")
	faults := map[int]string{impl.ErrAgain: one[:9], impl.ErrSum: one[:9] + "E", impl.ErrForm: one + one}
	for code, text := range faults {
		for _, behind := range faults {
			wantJoin(t, "in turn", "", code, text, behind)
			wantJoin(t, "in turn", "", code, one, text, one, behind)
			wantJoin(t, "in turn", "", code, text, full, full, behind)
			wantJoin(t, "ahead of too many bytes", "", code, full, text, full, behind)
			wantJoin(t, "behind too many bytes", "", impl.ErrFull, full, full, text, behind)
			wantJoin(t, "behind the most bytes", "", code, most, text, one, behind)
			wantJoin(t, "behind one more", "", impl.ErrFull, most, one, text, behind)
		}
		wantJoin(t, "a text of its own fault that would be too many", "", code, most, text)
	}
	wantJoin(t, "two frames that are too many together", "", impl.ErrForm, full+full)
	for _, fault := range append([]string{one, ""}, faults[impl.ErrAgain], faults[impl.ErrSum], faults[impl.ErrForm]) {
		wantJoin(t, "more than a list may have", "", impl.ErrLong, append(slices.Repeat([]string{one}, impl.MaxList), fault)...)
		wantJoin(t, "more than a list may have", "", impl.ErrLong, append([]string{fault}, slices.Repeat([]string{one}, impl.MaxList)...)...)
	}
	wantJoin(t, "as many as a list may have", strings.Repeat("one", impl.MaxList), impl.OK, slices.Repeat([]string{one}, impl.MaxList)...)
	wantJoin(t, "as many, with a fault", "", impl.ErrForm, append(slices.Repeat([]string{one}, impl.MaxList-1), "")...)
}

func TestJoinsOfTheMostBytes(t *testing.T) {
	for n := impl.MaxText - 8; n <= impl.MaxText; n++ {
		data := string(sampleBytes(n))
		frame, code := impl.FrameBytes(data)
		if code != impl.OK || string(frame) != longFrameOf(data) {
			t.Fatal("FrameBytes of", n, code)
		}
		text := string(frame)
		wantJoin(t, "one text", data, impl.OK, text)
		wantJoin(t, "cut off", "", impl.ErrAgain, text[:len(text)-1])
		wantJoin(t, "with a byte behind", "", impl.ErrAgain, text+"x")
		wantJoin(t, "with a frame behind", "", impl.ErrForm, text+longFrameOf("x"))
		wantJoin(t, "behind a frame", "", impl.ErrForm, longFrameOf("x")+text)
		rest := string(sampleBytes(impl.MaxText - n + 1))
		wantJoin(t, "with one more than the most", "", impl.ErrFull, text, longFrameOf(rest))
		wantJoin(t, "with one more than the most ahead", "", impl.ErrFull, longFrameOf(rest), text)
		if rest = rest[1:]; rest != "" {
			wantJoin(t, "with just the most", data+rest, impl.OK, text, longFrameOf(rest))
			wantJoin(t, "with one more in a text of its own", "", impl.ErrFull, text, longFrameOf(rest), longFrameOf("x"))
		}
		if n+3 <= impl.MaxText {
			wantJoin(t, "with a wrong sum", "", impl.ErrSum, text[:len(text)-1]+string(text[len(text)-1]^1))
		}
		head := binary.BigEndian.AppendUint32(nil, uint32(impl.MaxText+1))[1:]
		wantJoin(t, "of a length beyond the most", "", impl.ErrSum, string(head)+"\x00\x00\x00\x00"+strings.Repeat("x", impl.MaxText+1))
	}
	for _, size := range []int{impl.MaxText, impl.MaxText + 1, 3 * impl.MaxText} {
		wantJoin(t, "noughts", "", impl.ErrSum, string(make([]byte, size)))
		wantJoin(t, "many frames", "", impl.ErrForm, strings.Repeat(longFrameOf("x"), size/8))
		wantJoin(t, "many frames, and a byte", "", impl.ErrAgain, strings.Repeat(longFrameOf("x"), size/8)+"x")
	}
	piece := longFrameOf(string(sampleBytes(16)))
	most := slices.Repeat([]string{piece}, impl.MaxList)
	wantJoin(t, "the most texts of the most bytes", strings.Repeat(string(sampleBytes(16)), impl.MaxList), impl.OK, most...)
	most[impl.MaxList-1] = longFrameOf(string(sampleBytes(17)))
	wantJoin(t, "the most texts, and one byte more", "", impl.ErrFull, most...)
}

// bySnapshot is the multiplexer that its bytes, cut into pieces and joined, are read back to.
func bySnapshot(t *testing.T, m impl.Mux, size int) impl.Mux {
	t.Helper()
	b, code := impl.MuxBytes(m)
	if code != impl.OK {
		t.Fatal("MuxBytes", code)
	}
	pieces, code := impl.CutChunks(b, size)
	if code != impl.OK || len(pieces) != (len(b)+size-1)/size {
		t.Fatalf("CutChunks of %d bytes by %d: %d pieces, %d", len(b), size, len(pieces), code)
	}
	joined, code := impl.JoinChunks(pieces)
	if code != impl.OK || !bytes.Equal(joined, b) {
		t.Fatalf("JoinChunks of %d pieces by %d: %d bytes of %d, %d", len(pieces), size, len(joined), len(b), code)
	}
	back, code := impl.ReadMux(joined)
	if code != impl.OK || !sameMuxes(back, m) {
		t.Fatalf("ReadMux: %d, %s, not %s", code, muxShown(back), muxShown(m))
	}
	return back
}

// A fold goes on from a snapshot to just what it would have been, wherever the list is cut, and of whatever size the pieces are.
func TestFoldsByWayOfSnapshots(t *testing.T) {
	t.Parallel()
	sizes := []int{16, 17, 64, 100, 1000, 4095, 4096}
	for i, list := range drawnLists(t, 12, 10) {
		whole, told, _ := wantFoldData(t, 20, 8, list)
		for place := range len(list) + 1 {
			half, replies, _ := impl.FoldData(20, 8, list[:place])
			read := bySnapshot(t, half, sizes[(i+place)%len(sizes)])
			end, more, code := wantFoldFrom(t, read, list[place:])
			if code != impl.OK || !sameMuxes(end, whole) || !slices.Equal(append(replies, more...), told) {
				t.Fatalf("by way of a snapshot at %d: %v, %d, not %v", place, append(replies, more...), code, told)
			}
		}
	}
	list := story()
	whole, _, _ := wantFoldData(t, 20, 8, list)
	half, _, _ := wantFoldData(t, 20, 8, list[:9])
	for size := 16; size <= 4096; size++ {
		if end, _, code := impl.FoldFrom(bySnapshot(t, half, size), list[9:]); code != impl.OK || !sameMuxes(end, whole) {
			t.Errorf("by way of pieces of %d: %s, %d", size, muxShown(end), code)
		}
	}
	for _, m := range someMuxes(t) {
		for _, size := range sizes {
			got, replies, _ := impl.FoldFrom(bySnapshot(t, m, size), list)
			if want, wantReplies, _ := wantFoldFrom(t, m, list); !sameMuxes(got, want) || !slices.Equal(replies, wantReplies) {
				t.Errorf("by way of pieces of %d: %s", size, muxShown(m))
			}
		}
	}
}

// Of a multiplexer whose lists share memory the answer's have memory of their own, though nothing is done.
func TestFoldsOfMuxesThatShareMemory(t *testing.T) {
	m := muxOf(t, 20, 8, "(1|10|2)", "(3|10|4)")
	parser := impl.Parser{State: impl.PsCsi, Args: []int{1, 2}}
	for i := range m.Panes {
		m.Panes[i].Screen, m.Panes[i].Parser = m.Panes[0].Screen, parser
	}
	for _, list := range [][]string{nil, {"junk"}, dataIn(at(1, killCommand(9))), dataIn(from(m.Panes[0].Owner, at(1, outputCommand(1, m.Panes[0].Epoch, ";5Hx\n\n\n\n\n\n\n\n\n\n"))))} {
		was := cloneMux(m)
		got, _, code := impl.FoldFrom(m, list)
		wantApart(t, "FoldFrom", got)
		wantApart(t, "FoldFrom", m.Windows, got)
		if code != impl.OK || !sameMuxes(m, was) {
			t.Error("FoldFrom changes its argument", code)
		}
		want, _ := modelFold(was, list)
		clear(got.Panes[1].Screen.Cells)
		if got.Panes[1] = want.Panes[1]; !sameMuxes(got, want) {
			t.Error("panes share memory")
		}
	}
}
