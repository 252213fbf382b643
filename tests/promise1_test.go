package tests

import (
	"bytes"
	"fmt"
	"math"
	"slices"
	"strings"
	"sync"
	"testing"

	"loop.example/g00308/impl"
)

// call is one call with its arguments bound; its answer is told as a text, to be held against others.
type call struct {
	name string
	do   func() string
}

func bytesCalls(b []byte) []call {
	list := []call{
		{fmt.Sprintf("Hash of %d bytes", len(b)), func() string { return impl.Hash(b) }},
		{fmt.Sprintf("Check32 of %d bytes", len(b)), func() string { return fmt.Sprint(impl.Check32(b)) }},
		{fmt.Sprintf("ReadFrames of %d bytes", len(b)), func() string {
			list, n, code := impl.ReadFrames(b)
			return fmt.Sprintf("%q %d %d", list, n, code)
		}},
		{fmt.Sprintf("ReadFields of %d bytes", len(b)), func() string {
			list, code := impl.ReadFields(b)
			return fmt.Sprintf("%q %d", list, code)
		}},
		{fmt.Sprintf("ReadNumbers of %d bytes", len(b)), func() string {
			list, code := impl.ReadNumbers(b)
			return fmt.Sprint(list, code)
		}},
		{fmt.Sprintf("ReadScreen of %d bytes", len(b)), func() string { return fmt.Sprintln(impl.ReadScreen(b)) }},
		{fmt.Sprintf("ReadCommand of %d bytes", len(b)), func() string { return fmt.Sprintln(impl.ReadCommand(b)) }},
		{fmt.Sprintf("ReadMux of %d bytes", len(b)), func() string { return fmt.Sprintln(impl.ReadMux(b)) }},
		{fmt.Sprintf("ReadView of %d bytes", len(b)), func() string { return fmt.Sprintln(impl.ReadView(b)) }},
	}
	for _, size := range []int{math.MinInt, 15, 16, 100, 4096, 4097, math.MaxInt} {
		list = append(list, call{fmt.Sprintf("CutChunks of %d bytes by %d", len(b), size), func() string { return fmt.Sprintln(impl.CutChunks(b, size)) }})
	}
	return list
}

func listCalls(texts []string, numbers []int) []call {
	return []call{
		{fmt.Sprintf("FieldsBytes of %d fields", len(texts)), func() string {
			b, code := impl.FieldsBytes(texts)
			return fmt.Sprintf("%q %d", b, code)
		}},
		{fmt.Sprintf("NumbersBytes of %d numbers", len(numbers)), func() string {
			b, code := impl.NumbersBytes(numbers)
			return fmt.Sprintf("%q %d", b, code)
		}},
		{fmt.Sprintf("FoldData of %d data", len(texts)), func() string { return fmt.Sprintln(impl.FoldData(20, 8, texts)) }},
		{fmt.Sprintf("FoldData(1, 8) of %d data", len(texts)), func() string { return fmt.Sprintln(impl.FoldData(1, 8, texts)) }},
		{fmt.Sprintf("FoldFrom none of %d data", len(texts)), func() string { return fmt.Sprintln(impl.FoldFrom(impl.Mux{}, texts)) }},
		{fmt.Sprintf("FoldFrom an empty one of %d data", len(texts)), func() string { return fmt.Sprintln(impl.FoldFrom(emptyMux(9, 9), texts)) }},
		{fmt.Sprintf("AppliedCount of %d data", len(texts)), func() string { return fmt.Sprintln(impl.AppliedCount(texts)) }},
		{fmt.Sprintf("JoinChunks of %d texts", len(texts)), func() string { return fmt.Sprintln(impl.JoinChunks(texts)) }},
		{fmt.Sprintf("FullView of %d rows", len(texts)), func() string { return fmt.Sprintln(impl.FullView(7, 4, 3, texts)) }},
		{fmt.Sprintf("FullView(61) of %d rows", len(texts)), func() string { return fmt.Sprintln(impl.FullView(61, 4, 3, texts)) }},
		{fmt.Sprintf("DiffView of %d rows", len(texts)), func() string { return fmt.Sprintln(impl.DiffView(6, 7, 4, 3, motleyRows(4, 3, 0), texts)) }},
		{fmt.Sprintf("DiffView of %d old rows", len(texts)), func() string { return fmt.Sprintln(impl.DiffView(6, 7, 4, 3, texts, motleyRows(4, 3, 0))) }},
		{fmt.Sprintf("DiffView of %d rows all alike", len(texts)), func() string { return fmt.Sprintln(impl.DiffView(6, 7, 4, 3, texts, texts)) }},
	}
}

// someBytes are such as each of the readers takes whole, or stops at on its way.
func someBytes() [][]byte {
	var list [][]byte
	for _, n := range []int{0, 1, 54, 55, 56, 57, 63, 64, 65, 119, 120, 127, 128, impl.MaxText - 1, impl.MaxText, impl.MaxText + 1} {
		list = append(list, sampleBytes(n))
	}
	frames := append(frameOf("one"), frameOf("another")...)
	fields := fieldsOf([]string{"one", "", "another"})
	return append(list, nil, frames, frames[:len(frames)-1], fields, fields[:len(fields)-1], append(fields, 0))
}

func someTextLists() [][]string {
	frames := []string{string(frameOf("one")), string(frameOf("another"))}
	return [][]string{nil, {""}, {"one", "", "another"}, make([]string, 60), make([]string, 61), fullFields(0), fullFields(1), make([]string, impl.MaxList+1), story(), frames, {frames[0] + frames[1]}, {frames[0], frames[1][:9]}, motleyRows(4, 3, 0), motleyRows(4, 3, 1)}
}

func someNumberLists() [][]int {
	return [][]int{nil, {-1}, {0, 16777214}, {5, -2}, {math.MaxInt}, make([]int, impl.MaxList), make([]int, impl.MaxList+1)}
}

func textCalls(text string) []call {
	named := func(name string) string { return fmt.Sprintf("%s(%.12q) of %d bytes", name, text, len(text)) }
	coded := func(f func(string) (string, int)) func() string {
		return func() string { answer, code := f(text); return fmt.Sprintf("%q %d", answer, code) }
	}
	return []call{
		{named("NameOK"), func() string { return fmt.Sprint(impl.NameOK(text)) }},
		{named("CodeOf"), func() string { return fmt.Sprint(impl.CodeOf(text)) }},
		{named("HashText"), coded(impl.HashText)},
		{named("ReadHash"), coded(impl.ReadHash)},
		{named("HashBits"), coded(impl.HashBits)},
		{named("FrameBytes"), func() string { b, code := impl.FrameBytes(text); return fmt.Sprintf("%q %d", b, code) }},
		{named("Hmac by"), coded(func(key string) (string, int) { return impl.Hmac(key, "message") })},
		{named("Hmac of"), coded(func(msg string) (string, int) { return impl.Hmac("key", msg) })},
		{named("ReadLine"), func() string { return fmt.Sprintln(impl.ReadLine(text, 7)) }},
		{named("ReadLine of 0 of"), func() string { return fmt.Sprintln(impl.ReadLine(text, 0)) }},
		{named("Console"), coded(impl.Console)},
	}
}

func parserCalls(p impl.Parser, b []byte) []call {
	named := func(name string) string { return fmt.Sprintf("%s(%.60q, %.20q)", name, fmt.Sprintf("%+v", p), b) }
	list := []call{
		{named("ParserOK"), func() string { return fmt.Sprint(impl.ParserOK(p)) }},
		{named("ParseBytes"), func() string { return fmt.Sprintln(impl.ParseBytes(p, b)) }},
	}
	for _, n := range []int{-1, 0, 10, 27, '5', ';', '?', 'A', 0x82, 0xe2, 255, 256} {
		list = append(list, call{named(fmt.Sprint("ParseByte of ", n)), func() string { return fmt.Sprintln(impl.ParseByte(p, n)) }})
	}
	return list
}

func actionCalls(a impl.Action) []call {
	named := func(name string) string { return fmt.Sprintf("%s(%.60q)", name, fmt.Sprintf("%+v", a)) }
	list := []call{
		{named("ActionOK"), func() string { return fmt.Sprint(impl.ActionOK(a)) }},
		{named("ActionText"), func() string { return fmt.Sprintln(impl.ActionText(a)) }},
	}
	for _, i := range []int{math.MinInt, -1, 0, 7, 8, math.MaxInt} {
		for _, other := range []int{-2, -1, 9999, 10000} {
			list = append(list, call{named(fmt.Sprint("ArgOf ", i, other)), func() string { return fmt.Sprintln(impl.ArgOf(a, i, other)) }})
		}
	}
	return list
}

// terminalCalls are of right parsers and actions, and of such as are not.
func terminalCalls() []call {
	var list []call
	for _, p := range append(someParsers(), wrongParsers()...) {
		for _, text := range []string{"", "a\n\xe2\x82", "5;6\a\x1b\\A\x1b[?7;8", "\x82\x82\x82"} {
			list = append(list, parserCalls(p, []byte(text))...)
		}
	}
	for i, a := range append(someActions(), wrongActions()...) {
		if i%7 == 0 || a.Kind != impl.AcCsi {
			list = append(list, actionCalls(a)...)
		}
	}
	return list
}

func screenCalls(s impl.Screen) []call {
	named := func(name string) string { return fmt.Sprintf("%s(%.80s)", name, screenShown(s)) }
	list := []call{
		{named("ScreenOK"), func() string { return fmt.Sprint(impl.ScreenOK(s)) }},
		{named("ScreenBytes"), func() string { return fmt.Sprintln(impl.ScreenBytes(s)) }},
		{named("SameScreen with itself"), func() string { return fmt.Sprintln(impl.SameScreen(s, s)) }},
		{named("SameScreen with none"), func() string { return fmt.Sprintln(impl.SameScreen(s, impl.Screen{})) }},
	}
	for _, y := range []int{math.MinInt, -1, 0, 1, 9, 10, math.MaxInt} {
		list = append(list,
			call{named(fmt.Sprint("RowText ", y)), func() string { return fmt.Sprintln(impl.RowText(s, y)) }},
			call{named(fmt.Sprint("RowCells ", y)), func() string { return fmt.Sprintln(impl.RowCells(s, y)) }},
			call{named(fmt.Sprint("ResizeScreen ", y)), func() string { return fmt.Sprintln(impl.ResizeScreen(s, y, 5)) }},
			call{named(fmt.Sprint("ResizeScreen rows ", y)), func() string { return fmt.Sprintln(impl.ResizeScreen(s, 5, y)) }})
	}
	for _, a := range []impl.Action{{}, printOf('x'), printOf(127), controlOf(9), escapeOf('c'), escapeOf('M'), csiOf('S', 9999), csiOf('J', 1), csiOf('r', 2, 1), csiOf('m'), oscOf("t")} {
		list = append(list, call{named(fmt.Sprintf("ApplyAction %+v", a)), func() string { return fmt.Sprintln(impl.ApplyAction(s, a)) }})
	}
	for _, in := range []string{"", "ab\n\n\n\x1b[2;3r\x1b[9T", "\x1b[5;\xe2"} {
		list = append(list, call{named(fmt.Sprintf("FeedScreen %q", in)), func() string { return fmt.Sprintln(impl.FeedScreen(s, impl.Parser{}, []byte(in))) }})
	}
	return list
}

// screenAndSizeCalls are of right screens, and of such as are not, and of sizes and bytes that make them.
func screenAndSizeCalls(t *testing.T) []call {
	var list []call
	for i, s := range append(rightScreens(t), wrongScreens(t)...) {
		if i%3 == 0 {
			list = append(list, screenCalls(s)...)
		}
	}
	for _, s := range someScreens(t) {
		b := modelScreenBytes(s)
		for _, piece := range [][]byte{b, b[1:], b[:len(b)-1]} {
			list = append(list, bytesCalls(piece)...)
		}
	}
	for _, n := range []int{math.MinInt, -1, 1, 2, 10, 11, 24, 25, math.MaxInt} {
		list = append(list,
			call{fmt.Sprintf("NewScreen(%d, 5)", n), func() string { return fmt.Sprintln(impl.NewScreen(n, 5)) }},
			call{fmt.Sprintf("NewScreen(5, %d)", n), func() string { return fmt.Sprintln(impl.NewScreen(5, n)) }})
	}
	return list
}

func layoutCalls(l impl.Layout, w, h int) []call {
	named := func(name string) string {
		return fmt.Sprintf("%s(%.80s, %d, %d)", name, fmt.Sprintf("%+v", l.Parts), w, h)
	}
	list := []call{
		{named("LayoutOK"), func() string { return fmt.Sprint(impl.LayoutOK(l, w, h)) }},
		{named("LayoutAreas"), func() string { return fmt.Sprintln(impl.LayoutAreas(l, w, h)) }},
		{named("LayoutText"), func() string { return fmt.Sprintln(impl.LayoutText(l, w, h)) }},
	}
	for _, n := range []int{math.MinInt, -101, -1, 0, 1, 7, 24, 100, 1001, math.MaxInt} {
		list = append(list,
			call{named(fmt.Sprint("SplitArea ", n)), func() string { return fmt.Sprintln(impl.SplitArea(l, w, h, n, 50, false)) }},
			call{named(fmt.Sprint("SplitArea fresh ", n)), func() string { return fmt.Sprintln(impl.SplitArea(l, w, h, 7, n, true)) }},
			call{named(fmt.Sprint("KillArea ", n)), func() string { return fmt.Sprintln(impl.KillArea(l, w, h, n)) }},
			call{named(fmt.Sprint("MoveSplit ", n)), func() string { return fmt.Sprintln(impl.MoveSplit(l, w, h, n, 2)) }},
			call{named(fmt.Sprint("MoveSplit by ", n)), func() string { return fmt.Sprintln(impl.MoveSplit(l, w, h, 7, n)) }},
			call{named(fmt.Sprint("FitLayout ", n)), func() string { return fmt.Sprintln(impl.FitLayout(l, w, h, n, 6)) }},
			call{named(fmt.Sprint("FitLayout rows ", n)), func() string { return fmt.Sprintln(impl.FitLayout(l, w, h, 14, n)) }})
	}
	return list
}

// allLayoutCalls are of layouts that are right, of such as are not, and of sizes for which they are not.
func allLayoutCalls() []call {
	var list []call
	for i, a := range laidOut(6) {
		if i < 50 || i%61 == 0 {
			list = append(list, layoutCalls(a.l, a.w, a.h)...)
			list = append(list, layoutCalls(a.l, a.w-1, math.MaxInt)...)
		}
	}
	for i, l := range wrongLayouts() {
		if i%5 == 0 {
			list = append(list, layoutCalls(l, 24, 10)...)
		}
	}
	for _, n := range []int{math.MinInt, -1, 0, 1, 1000, 1001, math.MaxInt} {
		list = append(list, call{fmt.Sprintf("OneLayout(%d)", n), func() string { return fmt.Sprintln(impl.OneLayout(n)) }})
	}
	return list
}

func muxCalls(m impl.Mux) []call {
	named := func(name string) string { return fmt.Sprintf("%s(%.80s)", name, muxShown(m)) }
	list := []call{
		{named("MuxOK"), func() string { return fmt.Sprint(impl.MuxOK(m)) }},
		{named("MuxBytes"), func() string { return fmt.Sprintln(impl.MuxBytes(m)) }},
		{named("SameMux with itself"), func() string { return fmt.Sprintln(impl.SameMux(m, m)) }},
		{named("SameMux with none"), func() string { return fmt.Sprintln(impl.SameMux(m, impl.Mux{})) }},
	}
	for _, id := range []int{math.MinInt, -1, 0, 1, 5, 1000, math.MaxInt} {
		list = append(list, call{named(fmt.Sprint("PaneAt ", id)), func() string { return fmt.Sprintln(impl.PaneAt(m, id)) }})
	}
	for _, name := range []string{"", "a", "c", "none", strings.Repeat("a", impl.MaxText+1)} {
		list = append(list, call{named(fmt.Sprintf("RenderWindow %.9q", name)), func() string { return fmt.Sprintln(impl.RenderWindow(m, name)) }})
	}
	for i, c := range append(append(someCommands(), rightCommands()...), impl.Command{}) {
		if c.Seq = 11; i%3 == 0 {
			c.Seq = 10
		}
		list = append(list, call{named(fmt.Sprintf("ApplyCommand %.80s", fmt.Sprintf("%+v", c))), func() string { return fmt.Sprintln(impl.ApplyCommand(m, c)) }})
	}
	for _, data := range [][]string{nil, {"junk", ""}, story(), make([]string, 61), make([]string, impl.MaxList+1)} {
		list = append(list, call{named(fmt.Sprintf("FoldFrom of %d data", len(data))), func() string { return fmt.Sprintln(impl.FoldFrom(m, data)) }})
	}
	return list
}

func commandCalls(c impl.Command) []call {
	named := func(name string) string { return fmt.Sprintf("%s(%.80s)", name, fmt.Sprintf("%+v", c)) }
	return []call{
		{named("CommandOK"), func() string { return fmt.Sprint(impl.CommandOK(c)) }},
		{named("CommandBytes"), func() string { return fmt.Sprintln(impl.CommandBytes(c)) }},
	}
}

func runCalls(list []impl.Command) []call {
	var out []call
	for _, n := range []int{math.MinInt, 1, 2, 10, 11, math.MaxInt} {
		out = append(out, call{fmt.Sprintf("RunCommands(%d, %d) of %d", n, n, len(list)), func() string { return fmt.Sprintln(impl.RunCommands(n, n, list)) }})
	}
	return out
}

func someRuns() [][]impl.Command {
	all := slices.Concat(someCommands(), rightCommands())
	for i := range all {
		all[i].Seq = 1 + i
	}
	return [][]impl.Command{nil, all, all[:5], append(slices.Clone(all), impl.Command{}), make([]impl.Command, 201), make([]impl.Command, impl.MaxList+1)}
}

// allMuxCalls are of multiplexers and commands that are right, and of such as are not.
func allMuxCalls(t *testing.T) []call {
	var list []call
	for _, m := range someMuxes(t) {
		b := modelMuxBytes(m)
		list = append(list, slices.Concat(muxCalls(m), bytesCalls(b), bytesCalls(b[1:]))...)
	}
	for i, m := range wrongMuxes(t) {
		if i%9 == 0 {
			list = append(list, muxCalls(m)...)
		}
	}
	for _, c := range rightCommands() {
		list = append(list, commandCalls(c)...)
		list = append(list, bytesCalls(modelCommandBytes(c))...)
	}
	for _, c := range otherCommands(rightCommands()[0]) {
		list = append(list, commandCalls(c)...)
	}
	for _, run := range someRuns() {
		list = append(list, runCalls(run)...)
	}
	for _, n := range []int{math.MinInt, -1, 1, 2, 10, 11, 24, 25, math.MaxInt} {
		list = append(list,
			call{fmt.Sprintf("NewMux(%d, 5)", n), func() string { return fmt.Sprintln(impl.NewMux(n, 5)) }},
			call{fmt.Sprintf("NewMux(5, %d)", n), func() string { return fmt.Sprintln(impl.NewMux(5, n)) }})
	}
	return list
}

func stateCalls(s impl.State) []call {
	named := func(name string) string { return fmt.Sprintf("%s(%.80s)", name, stateShown(s)) }
	list := []call{{named("StateOK"), func() string { return fmt.Sprint(impl.StateOK(s)) }}}
	for _, other := range append(rightStates()[:12], wrongStates()[:5]...) {
		list = append(list,
			call{named("RecordsOf to " + stateShown(other)), func() string { return fmt.Sprintln(impl.RecordsOf(s, other)) }},
			call{named("RecordsOf from " + stateShown(other)), func() string { return fmt.Sprintln(impl.RecordsOf(other, s)) }},
			call{named("SameState with " + stateShown(other)), func() string { return fmt.Sprintln(impl.SameState(s, other)) }})
	}
	for _, record := range slices.Concat(otherRecords(), someRecords(), []string{termText(1000, 4), strings.Repeat("r", impl.MaxText+1)}) {
		list = append(list, call{named(fmt.Sprintf("ApplyRecord %.20q", record)), func() string { return fmt.Sprintln(impl.ApplyRecord(s, record)) }})
	}
	return list
}

func storeCalls(s impl.Store) []call {
	named := func(name string) string { return fmt.Sprintf("%s(%.80s)", name, storeShown(s)) }
	list := []call{
		{named("StoreOK"), func() string { return fmt.Sprint(impl.StoreOK(s)) }},
		{named("SyncStore"), func() string { return fmt.Sprintln(impl.SyncStore(s)) }},
		{named("Recover"), func() string { return fmt.Sprintln(impl.Recover(s)) }},
	}
	for _, keep := range []int{math.MinInt, -1, 0, 1, 20, math.MaxInt} {
		list = append(list, call{named(fmt.Sprint("CrashStore ", keep)), func() string { return fmt.Sprintln(impl.CrashStore(s, keep)) }})
	}
	for _, records := range someTextLists() {
		list = append(list, writeCalls(s, records)...)
	}
	return list
}

func writeCalls(s impl.Store, list []string) []call {
	name := fmt.Sprintf("WriteRecords(%.80s) of %d", storeShown(s), len(list))
	return []call{{name, func() string { return fmt.Sprintln(impl.WriteRecords(s, list)) }}}
}

func someStores() []impl.Store {
	data := framesText(someRecords()...)
	return []impl.Store{
		{}, {Data: data}, {Data: data, Sure: len(data)}, {Data: data[:len(data)-1], Sure: 30}, {Data: data[1:]}, {Data: data + framesText("junk"), Sure: 9},
		{Data: string(sampleBytes(100))}, {Data: string(sampleBytes(60000)), Sure: 60000},
	}
}

// allStoreCalls are of states and stores that are right, and of such as are not.
func allStoreCalls() []call {
	var list []call
	for _, s := range append(rightStates(), wrongStates()...) {
		list = append(list, stateCalls(s)...)
	}
	for _, s := range append(someStores(), wrongStores()...) {
		list = append(list, storeCalls(s)...)
	}
	return list
}

func nodeCalls(n impl.Node) []call {
	named := func(name string) string { return fmt.Sprintf("%s(%.160s)", name, nodeShown(n)) }
	list := []call{
		{named("NodeOK"), func() string { return fmt.Sprint(impl.NodeOK(n)) }},
		{named("Committed"), func() string { return fmt.Sprintln(impl.Committed(n)) }},
	}
	for _, h := range []int{math.MinInt, 1, 2, 10, 11, math.MaxInt} {
		list = append(list, call{named(fmt.Sprint("FoldNode of rows ", h)), func() string { return fmt.Sprintln(impl.FoldNode(12, h, n)) }})
	}
	for _, number := range []int{math.MinInt, -1, 0, 4, 7, 1000000, math.MaxInt} {
		list = append(list,
			call{named(fmt.Sprint("NodeTick ", number)), func() string { return fmt.Sprintln(impl.NodeTick(n, number)) }},
			call{named(fmt.Sprint("UpToDate index ", number)), func() string { return fmt.Sprintln(impl.UpToDate(n, number, 7)) }},
			call{named(fmt.Sprint("UpToDate term ", number)), func() string { return fmt.Sprintln(impl.UpToDate(n, 4, number)) }})
	}
	for _, size := range []int{0, 1, 400, 401, impl.MaxText + 1} {
		list = append(list, call{named(fmt.Sprintf("NodePropose of %d bytes", size)), func() string { return fmt.Sprintln(impl.NodePropose(n, strings.Repeat("d", size))) }})
	}
	for _, m := range someMessages() {
		list = append(list, messageCalls(n, m)...)
	}
	return list
}

func messageCalls(n impl.Node, m impl.Message) []call {
	name := fmt.Sprintf("(%.160s, %s)", nodeShown(n), messageShown(m))
	return []call{
		{"NodeTake" + name, func() string { return fmt.Sprintln(impl.NodeTake(n, m)) }},
		{"MessageOK" + name, func() string { return fmt.Sprint(impl.MessageOK(m)) }},
	}
}

// allNodeCalls are of nodes and messages that are right, and of such as are not.
func allNodeCalls() []call {
	var list []call
	for _, n := range slices.Concat(sampleNodes(), wrongNodes(), []impl.Node{committedNode(story(), 20)}) {
		list = append(list, nodeCalls(n)...)
	}
	for _, m := range wrongMessages() {
		list = append(list, messageCalls(baseNode(), m)...)
	}
	for _, number := range []int{math.MinInt, -1, 0, 1, 4, 5, 6, math.MaxInt} {
		list = append(list,
			call{fmt.Sprintf("NewNode(%d, 5)", number), func() string { return fmt.Sprintln(impl.NewNode(number, 5)) }},
			call{fmt.Sprintf("NewNode(0, %d)", number), func() string { return fmt.Sprintln(impl.NewNode(0, number)) }})
	}
	return list
}

func clusterCalls(c impl.Cluster) []call {
	named := func(name string) string { return fmt.Sprintf("%s(%.160s)", name, clusterShown(c)) }
	list := []call{
		{named("ClusterOK"), func() string { return fmt.Sprint(impl.ClusterOK(c)) }},
		{named("CommitsAgree"), func() string { return fmt.Sprintln(impl.CommitsAgree(c)) }},
		{named("StoresHold"), func() string { return fmt.Sprintln(impl.StoresHold(c)) }},
		{named("LongestDone"), func() string { return fmt.Sprintln(impl.LongestDone(c)) }},
	}
	for _, a := range someActs() {
		list = append(list, call{named("ClusterStep " + actShown(a)), func() string { return fmt.Sprintln(impl.ClusterStep(c, a)) }})
	}
	for _, rounds := range []int{math.MinInt, -1, 0, 1, 7, 1000, 1001, math.MaxInt} {
		list = append(list, call{named(fmt.Sprint("Settle ", rounds)), func() string { return fmt.Sprintln(impl.Settle(c, rounds)) }})
	}
	return list
}

func clusterRunCalls(acts []impl.ClusterAct) []call {
	var list []call
	for _, nodes := range []int{math.MinInt, -1, 0, 1, 3, 5, 6, math.MaxInt} {
		list = append(list, call{fmt.Sprintf("ClusterRun(%d) of %d acts", nodes, len(acts)), func() string { return fmt.Sprintln(impl.ClusterRun(nodes, acts)) }})
	}
	return list
}

func someClusterRuns(t *testing.T) [][]impl.ClusterAct {
	return [][]impl.ClusterAct{nil, someActs(), replaced(t).acts, make([]impl.ClusterAct, 240), make([]impl.ClusterAct, 241), make([]impl.ClusterAct, impl.MaxList+1)}
}

// allClusterCalls are of clusters that are right, and of such as are not.
func allClusterCalls(t *testing.T) []call {
	var list []call
	for _, c := range append(someClusters(t), wrongClusters()...) {
		list = append(list, clusterCalls(c)...)
	}
	for _, acts := range someClusterRuns(t) {
		list = append(list, clusterRunCalls(acts)...)
	}
	for _, number := range []int{math.MinInt, -1, 0, 1, 5, 6, math.MaxInt} {
		list = append(list, call{fmt.Sprintf("NewCluster(%d)", number), func() string { return fmt.Sprintln(impl.NewCluster(number)) }})
	}
	return list
}

func viewCalls(v impl.View) []call {
	named := func(name string) string { return fmt.Sprintf("%s(%.160s)", name, viewShown(v)) }
	list := []call{
		{named("ViewOK"), func() string { return fmt.Sprint(impl.ViewOK(v)) }},
		{named("ViewBytes"), func() string { return fmt.Sprintln(impl.ViewBytes(v)) }},
	}
	for _, m := range append(someMirrors(), wrongMirrors()[:6]...) {
		list = append(list, acceptCalls(m, v)...)
	}
	return list
}

func acceptCalls(m impl.Mirror, v impl.View) []call {
	name := fmt.Sprintf("AcceptView(%.160s, %.160s)", mirrorShown(m), viewShown(v))
	return []call{{name, func() string { return fmt.Sprintln(impl.AcceptView(m, v)) }}}
}

func mirrorCalls(m impl.Mirror) []call {
	named := func(name string) string { return fmt.Sprintf("%s(%.160s)", name, mirrorShown(m)) }
	list := []call{
		{named("MirrorOK"), func() string { return fmt.Sprint(impl.MirrorOK(m)) }},
		{named("MirrorText"), func() string { return fmt.Sprintln(impl.MirrorText(m)) }},
	}
	for _, v := range append(someViews(), wrongViews()[:6]...) {
		list = append(list, acceptCalls(m, v)...)
	}
	return list
}

// allViewCalls are of views and mirrors that are right, and of such as are not, and of numbers and sizes that make them.
func allViewCalls() []call {
	var list []call
	for _, v := range someViews() {
		b := modelViewBytes(v)
		list = append(list, slices.Concat(viewCalls(v), bytesCalls(b), bytesCalls(b[1:]), bytesCalls(b[:len(b)-1]))...)
	}
	for _, v := range wrongViews() {
		list = append(list, viewCalls(v)...)
	}
	for _, m := range append(someMirrors(), wrongMirrors()...) {
		list = append(list, mirrorCalls(m)...)
	}
	old, rows := motleyRows(4, 3, 0), motleyRows(4, 3, 1)
	for _, n := range []int{math.MinInt, -1, 0, 1, 3, 4, 60, 61, math.MaxInt} {
		list = append(list,
			call{fmt.Sprintf("FullView(%d, 4, 3)", n), func() string { return fmt.Sprintln(impl.FullView(n, 4, 3, rows)) }},
			call{fmt.Sprintf("FullView(5, %d, 3)", n), func() string { return fmt.Sprintln(impl.FullView(5, n, 3, rows)) }},
			call{fmt.Sprintf("FullView(5, 4, %d)", n), func() string { return fmt.Sprintln(impl.FullView(5, 4, n, rows)) }},
			call{fmt.Sprintf("DiffView(%d, 5, 4, 3)", n), func() string { return fmt.Sprintln(impl.DiffView(n, 5, 4, 3, old, rows)) }},
			call{fmt.Sprintf("DiffView(0, %d, 4, 3)", n), func() string { return fmt.Sprintln(impl.DiffView(0, n, 4, 3, old, rows)) }},
			call{fmt.Sprintf("DiffView(0, 5, %d, 3)", n), func() string { return fmt.Sprintln(impl.DiffView(0, 5, n, 3, old, rows)) }},
			call{fmt.Sprintf("DiffView(0, 5, 4, %d)", n), func() string { return fmt.Sprintln(impl.DiffView(0, 5, 4, n, old, rows)) }})
	}
	return list
}

func issueCalls(key string, client int, window string, number int) []call {
	name := fmt.Sprintf("(%.12q of %d bytes, %d, %.15q of %d bytes, %d)", key, len(key), client, window, len(window), number)
	return []call{
		{"TokenMark" + name, func() string { return fmt.Sprintln(impl.TokenMark(key, client, window, number)) }},
		{"IssueToken" + name, func() string { return fmt.Sprintln(impl.IssueToken(key, client, window, number)) }},
	}
}

func readTokenCalls(key, text string) []call {
	name := fmt.Sprintf("ReadToken(%.12q of %d bytes, %.60q of %d bytes)", key, len(key), text, len(text))
	return []call{{name, func() string { return fmt.Sprintln(impl.ReadToken(key, text)) }}}
}

func someKeys() []string {
	var list []string
	for _, n := range []int{0, 3, 64, 65, impl.MaxText, impl.MaxText + 1} {
		list = append(list, string(sampleBytes(n)))
	}
	return append(list, "key")
}

func someTokenTexts() []string {
	token := modelToken("key", 3, "main", 12)
	return append(someTokens(), "", " ", "    ", "token", token+"0", token+" ", " "+token, token[1:], token[:len(token)-32], "token 03 main 12 0", "\xff\x00",
		strings.Repeat(" ", impl.MaxText), strings.Repeat("t ", impl.MaxText/2), strings.Repeat("9", impl.MaxText+1), string(sampleBytes(impl.MaxText)))
}

// allTokenCalls are of what a token may say, and of what it may not, and of texts that are tokens, and that are none.
func allTokenCalls() []call {
	var list []call
	for _, key := range someKeys() {
		for _, n := range []int{math.MinInt, -2, -1, 0, 60, 61, 200, 201, math.MaxInt} {
			list = append(list, issueCalls(key, n, "main", 12)...)
			list = append(list, issueCalls(key, 3, "main", n)...)
		}
		for _, window := range []string{"", "9", "ma in", strings.Repeat("a", 12), strings.Repeat("a", 13), strings.Repeat("a", impl.MaxText+1)} {
			list = append(list, issueCalls(key, 3, window, 12)...)
		}
		for _, text := range someTokenTexts() {
			list = append(list, readTokenCalls(key, text)...)
		}
	}
	return list
}

func newClientCalls(key string, id int, window string) []call {
	name := fmt.Sprintf("NewClient(%.12q of %d bytes, %d, %.15q of %d bytes)", key, len(key), id, window, len(window))
	return []call{{name, func() string { return fmt.Sprintln(impl.NewClient(key, id, window)) }}}
}

func serveCalls(key string, w, h int, n impl.Node, token string) []call {
	name := fmt.Sprintf("ServeView(%.12q of %d bytes, %d, %d, %.160s, %.60q of %d bytes)", key, len(key), w, h, nodeShown(n), token, len(token))
	return []call{{name, func() string { return fmt.Sprintln(impl.ServeView(key, w, h, n, token)) }}}
}

func clientCalls(key string, c impl.Client) []call {
	name := fmt.Sprintf("(%.12q of %d bytes, %.160s)", key, len(key), clientShown(c))
	list := []call{{"ClientOK" + name, func() string { return fmt.Sprint(impl.ClientOK(key, c)) }}}
	for _, v := range viewsForClients() {
		for _, token := range []string{modelToken(key, c.Id, c.Window, v.Number), c.Token, "", strings.Repeat("t", impl.MaxText+1)} {
			list = append(list, clientAcceptCalls(key, c, v, token)...)
		}
	}
	return list
}

func clientAcceptCalls(key string, c impl.Client, v impl.View, token string) []call {
	name := fmt.Sprintf("ClientAccept(%.12q of %d bytes, %.160s, %.160s, %.60q of %d bytes)", key, len(key), clientShown(c), viewShown(v), token, len(token))
	return []call{{name, func() string { return fmt.Sprintln(impl.ClientAccept(key, c, v, token)) }}}
}

// viewsForClients are such as a client of Number 7 and size 4 by 3 takes, and such as it does not.
func viewsForClients() []impl.View {
	rows := motleyRows(4, 3, 1)
	return []impl.View{someOf(7, 9, 4, 3, rows, 0, 2), someOf(7, 9, 4, 3, nil), someOf(6, 9, 4, 3, rows, 1), fullOf(9, 4, 3, rows), fullOf(7, 4, 3, rows), fullOf(60, 24, 10, motleyRows(24, 10, 1)), {}}
}

func nodesForClients() []impl.Node {
	n := nodeKnowing(saga(), 10)
	return []impl.Node{n, nodeKnowing(saga(), 18), nodeKnowing(saga(), 0), downNode(n), newNode(0, 1), baseNode(), wrongNodes()[5], {}}
}

func tokensForClients() []string {
	list := []string{"", "token", strings.Repeat("t", impl.MaxText), strings.Repeat("t", impl.MaxText+1), modelToken("other", 3, "main", 2)}
	for _, number := range []int{-1, 0, 2, 9, 10, 11, 60} {
		list = append(list, modelToken("key", 3, "main", number), modelToken("key", 200, "logs", number), modelToken("key", 0, "never", number))
	}
	return list
}

// allClientCalls are of clients and nodes that are right, and of such as are not, of right tokens and of others, and of sizes and keys.
func allClientCalls() []call {
	var list []call
	for _, key := range someKeys() {
		for _, id := range []int{math.MinInt, -1, 0, 200, 201, math.MaxInt} {
			list = append(list, newClientCalls(key, id, "main")...)
		}
		for _, window := range []string{"", "9", "ma in", strings.Repeat("a", 12), strings.Repeat("a", 13), strings.Repeat("a", impl.MaxText+1)} {
			list = append(list, newClientCalls(key, 3, window)...)
		}
		c, _, _ := acceptBase()
		list = append(list, slices.Concat(clientCalls(key, c), clientCalls(key, clientWith(key, 3, "main", c.Mirror)), serveCalls(key, 20, 8, nodeKnowing(saga(), 10), modelToken(key, 3, "main", 2)))...)
	}
	for _, c := range append(someClients("key"), wrongClients("key")...) {
		list = append(list, clientCalls("key", c)...)
	}
	for _, n := range nodesForClients() {
		for _, token := range tokensForClients() {
			list = append(list, slices.Concat(serveCalls("key", 20, 8, n, token), serveCalls("key", math.MinInt, 8, n, token), serveCalls("key", 20, math.MaxInt, n, token))...)
		}
		for _, size := range []int{-1, 1, 2, 10, 11, 24, 25} {
			list = append(list, slices.Concat(serveCalls("key", size, 8, n, modelToken("key", 3, "main", 2)), serveCalls("key", 20, size, n, modelToken("key", 3, "main", 2)))...)
		}
	}
	return list
}

func worldCalls(w impl.World) []call {
	named := func(name string) string { return fmt.Sprintf("%s(%.200s)", name, worldShown(w)) }
	list := []call{{named("WorldOK"), func() string { return fmt.Sprint(impl.WorldOK(w)) }}}
	for _, a := range append(someWorldActs(), tokenAct(0, 0, strings.Repeat("t", impl.MaxText+1))) {
		list = append(list, call{named("WorldStep " + worldActShown(a)), func() string { return fmt.Sprintln(impl.WorldStep(w, a)) }})
	}
	return list
}

func worldRunCalls(acts []impl.WorldAct) []call {
	var list []call
	for _, n := range []int{math.MinInt, 0, 1, 2, 3, 5, 6, math.MaxInt} {
		list = append(list,
			call{fmt.Sprintf("WorldRun(%d, 20, 8) of %d acts", n, len(acts)), func() string { return fmt.Sprintln(impl.WorldRun(n, 20, 8, acts)) }},
			call{fmt.Sprintf("WorldRun(3, %d, 10) of %d acts", n, len(acts)), func() string { return fmt.Sprintln(impl.WorldRun(3, n, 10, acts)) }},
			call{fmt.Sprintf("WorldRun(1, 24, %d) of %d acts", n, len(acts)), func() string { return fmt.Sprintln(impl.WorldRun(1, 24, n, acts)) }})
	}
	return list
}

// allWorldCalls are of worlds that are right, and of such as are not, each with some of the acts, and of numbers and acts that make them.
func allWorldCalls(t *testing.T) []call {
	list := []call{{"WorldKey", impl.WorldKey}}
	for i, w := range append(someWorlds(t), wrongWorlds()...) {
		for j, c := range worldCalls(w) {
			if (i+j)%3 == 0 {
				list = append(list, c)
			}
		}
	}
	for _, acts := range someWorldRuns() {
		list = append(list, worldRunCalls(acts)...)
	}
	for _, n := range []int{math.MinInt, -1, 0, 1, 2, 5, 6, 10, 11, 24, 25, math.MaxInt} {
		list = append(list,
			call{fmt.Sprintf("NewWorld(%d, 5, 5)", n), func() string { return fmt.Sprintln(impl.NewWorld(n, 5, 5)) }},
			call{fmt.Sprintf("NewWorld(3, %d, 5)", n), func() string { return fmt.Sprintln(impl.NewWorld(3, n, 5)) }},
			call{fmt.Sprintf("NewWorld(3, 5, %d)", n), func() string { return fmt.Sprintln(impl.NewWorld(3, 5, n)) }})
	}
	return list
}

func historyCalls(w impl.World) []call {
	named := func(name string) string { return fmt.Sprintf("%s(%.200s)", name, worldShown(w)) }
	return []call{
		{named("MirrorsHold"), func() string { return fmt.Sprintln(impl.MirrorsHold(w)) }},
		{named("NodesHold"), func() string { return fmt.Sprintln(impl.NodesHold(w)) }},
		{named("HistoryMux"), func() string { return fmt.Sprintln(impl.HistoryMux(w)) }},
	}
}

// allHistoryCalls are of worlds that are right, of such as are not, and of worlds whose sizes are anything.
func allHistoryCalls(t *testing.T) []call {
	var list []call
	for _, w := range slices.Concat(someWorlds(t), wrongWorlds(), []impl.World{worldKnowing(story(), story()), worldKnowing(story()[:9], story())}) {
		list = append(list, historyCalls(w)...)
	}
	for _, n := range strayNumbers {
		list = append(list, slices.Concat(historyCalls(impl.World{W: n, H: n}), historyCalls(newWorld(3, n, 5)), historyCalls(newWorld(3, 5, n)))...)
	}
	return list
}

func lineCalls(line string) []call {
	var list []call
	for _, seq := range []int{math.MinInt, -1, 0, 1, 60000, 60001, math.MaxInt} {
		list = append(list, call{fmt.Sprintf("ReadLine(%.99q, %d)", line, seq), func() string { return fmt.Sprintln(impl.ReadLine(line, seq)) }})
	}
	return list
}

func consoleCalls(text string) []call {
	return []call{{fmt.Sprintf("Console(%.300q)", text), func() string { return fmt.Sprintln(impl.Console(text)) }}}
}

// someLines are of each sort, right ones, and such as are none.
func someLines() []string {
	list := []string{"", "go", "# x", "lead 0", "lead 3", "crash 1", "crash 9", "start 1", "show main", "window 9", "window", "split 1 up", "kill 01", "write 1 1 a b", "write 1 1\ta", "\xff", strings.Repeat(" ", impl.MaxText), strings.Repeat("x", impl.MaxText+1)}
	for _, c := range rightCommands() {
		list = append(list, lineOf(c))
	}
	return list
}

func someConsoles() []string {
	lines := strings.Join(someLines()[:16], "\n")
	return []string{"", "\n", lines, "lead 0\n" + lines, "lead 0\nwindow main\nsplit 1 rows\nwrite 1 1 x\nshow main\ncrash 0\nshow main\nlead 1\nkill 2\n" + lines, "crash 1\ncrash 2\nlead 0\nwindow a", strings.Repeat("\n", 60), strings.Repeat("\n", 61), strings.Repeat("x", impl.MaxText+1)}
}

func allConsoleCalls() []call {
	var list []call
	for _, line := range someLines() {
		list = append(list, lineCalls(line)...)
	}
	for _, text := range someConsoles() {
		list = append(list, consoleCalls(text)...)
	}
	return list
}

func allCalls(t *testing.T) []call {
	list := slices.Concat(screenAndSizeCalls(t), allLayoutCalls(), allMuxCalls(t), allStoreCalls(), allNodeCalls(), allClusterCalls(t), allViewCalls(), allTokenCalls(), allClientCalls(), allWorldCalls(t), allHistoryCalls(t), allConsoleCalls())
	for _, b := range someBytes() {
		list = append(list, bytesCalls(b)...)
		list = append(list, textCalls(string(b))...)
		list = append(list, textCalls(strings.Repeat("a", len(b)))...)
	}
	for _, b := range someBytes() {
		list = append(list, parserCalls(impl.Parser{}, b)...)
	}
	list = append(list, terminalCalls()...)
	for _, texts := range someTextLists() {
		list = append(list, listCalls(texts, nil)...)
	}
	for _, numbers := range someNumberLists() {
		list = append(list, listCalls(nil, numbers)...)
	}
	for _, text := range []string{"ok", "view", "A", "9", strings.Repeat("x", 40), strings.Repeat("x", 41), impl.Hash(nil)} {
		list = append(list, textCalls(text)...)
	}
	for _, n := range []int{math.MinInt, -1, 0, 7, 19, 20, math.MaxInt} {
		list = append(list, call{fmt.Sprintf("CodeWord(%d)", n), func() string { return impl.CodeWord(n) }})
	}
	return list
}

func TestAnswersDoNotHangOnCallsAhead(t *testing.T) {
	t.Parallel()
	calls := allCalls(t)
	first := make([]string, len(calls))
	for i, c := range calls {
		first[i] = c.do()
	}
	for i := len(calls) - 1; i >= 0; i-- {
		if calls[i].do() != first[i] || calls[i].do() != first[i] {
			t.Error(calls[i].name, "answers otherwise when it comes again")
		}
	}
}

func TestAnswersDoNotHangOnCallsBeside(t *testing.T) {
	t.Parallel()
	calls := allCalls(t)
	alone := make([]string, len(calls))
	for i, c := range calls {
		alone[i] = c.do()
	}
	beside := make([]string, len(calls))
	var group sync.WaitGroup
	for i, c := range calls {
		group.Go(func() { beside[i] = c.do() })
	}
	group.Wait()
	for i, c := range calls {
		if beside[i] != alone[i] {
			t.Error(c.name, "answers otherwise beside others")
		}
	}
}

func TestBytesAreNotChangedNorWhatStandsBehindThem(t *testing.T) {
	for _, b := range someBytes() {
		room := bytes.Repeat([]byte{0xa5}, len(b)+200)
		copy(room, b)
		was := bytes.Clone(room)
		calls := append(bytesCalls(room[:len(b)]), parserCalls(impl.Parser{}, room[:len(b)])...)
		for _, c := range calls {
			c.do()
			if !bytes.Equal(room, was) {
				t.Error(c.name, "writes into its argument, or behind it")
			}
		}
	}
}

func TestListsAreNotChangedNorWhatStandsBehindThem(t *testing.T) {
	for _, texts := range someTextLists() {
		room := append(slices.Clone(texts), slices.Repeat([]string{"behind"}, 5)...)
		was := slices.Clone(room)
		for _, c := range listCalls(room[:len(texts)], nil) {
			if c.do(); !slices.Equal(room, was) {
				t.Error(c.name, "writes into its argument, or behind it")
			}
		}
	}
	for _, numbers := range someNumberLists() {
		room := append(slices.Clone(numbers), 7, 7, 7)
		was := slices.Clone(room)
		for _, c := range listCalls(nil, room[:len(numbers)]) {
			if c.do(); !slices.Equal(room, was) {
				t.Error(c.name, "writes into its argument, or behind it")
			}
		}
	}
}

func TestAlikeBytesHaveAlikeAnswers(t *testing.T) {
	for _, tight := range someBytes() {
		roomy := append(make([]byte, 0, len(tight)+300), tight...)
		wantAlike(t, bytesCalls(tight), bytesCalls(roomy))
		wantAlike(t, parserCalls(impl.Parser{}, tight), parserCalls(impl.Parser{}, roomy))
	}
	wantAlike(t, bytesCalls(nil), bytesCalls([]byte{}))
	wantAlike(t, listCalls(nil, nil), listCalls([]string{}, []int{}))
}

func TestAlikeParsersAndActionsHaveAlikeAnswers(t *testing.T) {
	in := []byte("1;2A\x1b[3;4")
	for _, args := range someArgs() {
		_, roomy := roomyArgs(args)
		one, other := impl.Parser{State: impl.PsCsi, Args: args}, impl.Parser{State: impl.PsCsi, Args: roomy}
		wantAlike(t, parserCalls(one, in), parserCalls(other, in))
		wantAlike(t, actionCalls(csiOf('A', args...)), actionCalls(csiOf('A', roomy...)))
	}
	wantAlike(t, parserCalls(impl.Parser{}, nil), parserCalls(impl.Parser{Args: []int{}}, []byte{}))
	wantAlike(t, actionCalls(printOf('a')), actionCalls(withArgs(printOf('a'), false, []int{}...)))
}

func TestAlikeScreensHaveAlikeAnswers(t *testing.T) {
	for _, s := range rightScreens(t) {
		roomy, _ := roomyScreen(s)
		wantAlike(t, screenCalls(s), screenCalls(roomy))
		if len(s.History) == 0 {
			none, empty := s, s
			none.History, empty.History = nil, []string{}
			wantAlike(t, screenCalls(none), screenCalls(empty))
		}
	}
	wantAlike(t, screenCalls(impl.Screen{}), screenCalls(impl.Screen{Cells: []impl.Cell{}, History: []string{}}))
}

func TestAlikeLayoutsHaveAlikeAnswers(t *testing.T) {
	for i, a := range laidOut(6) {
		if i < 50 || i%31 == 0 {
			roomy, _ := roomyLayout(a.l)
			wantAlike(t, layoutCalls(a.l, a.w, a.h), layoutCalls(roomy, a.w, a.h))
		}
	}
	for _, l := range wrongLayouts() {
		roomy, _ := roomyLayout(l)
		wantAlike(t, layoutCalls(l, 24, 10), layoutCalls(roomy, 24, 10))
	}
	wantAlike(t, layoutCalls(impl.Layout{}, 5, 5), layoutCalls(impl.Layout{Parts: []impl.Part{}}, 5, 5))
}

func TestAlikeMuxesHaveAlikeAnswers(t *testing.T) {
	for _, m := range someMuxes(t) {
		roomy, _ := roomyMux(m)
		wantAlike(t, muxCalls(m), muxCalls(roomy))
	}
	none := impl.Mux{W: 5, H: 5, Next: 1}
	empty := impl.Mux{W: 5, H: 5, Next: 1, Windows: []impl.Window{}, Panes: []impl.Pane{}, Seens: []impl.Seen{}}
	wantAlike(t, muxCalls(none), muxCalls(empty))
	one, other := muxOf(t, 5, 5, "1"), muxOf(t, 5, 5, "1")
	one.Panes[0].Parser, other.Panes[0].Parser = impl.Parser{}, impl.Parser{Args: []int{}}
	one.Panes[0].Screen.History, other.Panes[0].Screen.History = nil, []string{}
	wantAlike(t, muxCalls(one), muxCalls(other))
	wantAlike(t, muxCalls(impl.Mux{}), muxCalls(impl.Mux{Windows: []impl.Window{}}))
	wantAlike(t, runCalls(nil), runCalls([]impl.Command{}))
	for _, run := range someRuns() {
		wantAlike(t, runCalls(run), runCalls(append(make([]impl.Command, 0, len(run)+50), run...)))
	}
}

func TestAlikeStatesAndStoresHaveAlikeAnswers(t *testing.T) {
	for _, s := range append(rightStates(), wrongStates()...) {
		roomy, _ := roomyState(s)
		wantAlike(t, stateCalls(s), stateCalls(roomy))
	}
	wantAlike(t, stateCalls(impl.State{Term: 3}), stateCalls(impl.State{Term: 3, Log: []impl.Entry{}}))
	for _, s := range append(someStores(), wrongStores()...) {
		wantAlike(t, storeCalls(s), storeCalls(impl.Store{Data: strings.Clone(s.Data), Sure: s.Sure}))
		wantAlike(t, writeCalls(s, nil), writeCalls(s, []string{}))
		for _, list := range append(someTextLists(), someRecords()) {
			wantAlike(t, writeCalls(s, list), writeCalls(s, append(make([]string, 0, len(list)+50), list...)))
		}
	}
}

func TestAlikeNodesAndMessagesHaveAlikeAnswers(t *testing.T) {
	for _, n := range slices.Concat(sampleNodes(), wrongNodes(), []impl.Node{committedNode(story(), 20)}) {
		roomy, _ := roomyNode(n)
		wantAlike(t, nodeCalls(n), nodeCalls(roomy))
		for _, m := range append(someMessages(), wrongMessages()...) {
			wide, _ := roomyMessage(m)
			wantAlike(t, messageCalls(n, m), messageCalls(roomy, wide))
		}
	}
	none, empty := newNode(1, 3), newNode(1, 3)
	none.Log, none.Votes, empty.Log, empty.Votes = nil, nil, []impl.Entry{}, []int{}
	wantAlike(t, nodeCalls(none), nodeCalls(empty))
	wantAlike(t, nodeCalls(impl.Node{}), nodeCalls(impl.Node{Log: []impl.Entry{}, Votes: []int{}, Next: []int{}, Match: []int{}}))
	for _, m := range someMessages() {
		if one, other := m, m; len(m.Entries) == 0 {
			one.Entries, other.Entries = nil, []impl.Entry{}
			wantAlike(t, messageCalls(baseNode(), one), messageCalls(baseNode(), other))
		}
	}
}

func TestAlikeClustersHaveAlikeAnswers(t *testing.T) {
	for _, c := range append(someClusters(t), wrongClusters()...) {
		roomy, _ := roomyCluster(c)
		wantAlike(t, clusterCalls(c), clusterCalls(roomy))
	}
	none, empty := newCluster(3), newCluster(3)
	none.Wire, none.Done, empty.Wire, empty.Done = nil, nil, []impl.Message{}, []string{}
	for id := range 3 {
		none.Nodes[id].Log, none.Nodes[id].Votes = nil, nil
		empty.Nodes[id].Log, empty.Nodes[id].Votes = []impl.Entry{}, []int{}
	}
	wantAlike(t, clusterCalls(none), clusterCalls(empty))
	wantAlike(t, clusterCalls(impl.Cluster{}), clusterCalls(impl.Cluster{Nodes: []impl.Node{}, Stores: []impl.Store{}, Wire: []impl.Message{}, Done: []string{}}))
	wantAlike(t, clusterRunCalls(nil), clusterRunCalls([]impl.ClusterAct{}))
	for _, acts := range someClusterRuns(t) {
		wantAlike(t, clusterRunCalls(acts), clusterRunCalls(append(make([]impl.ClusterAct, 0, len(acts)+50), acts...)))
	}
}

func TestAlikeViewsAndMirrorsHaveAlikeAnswers(t *testing.T) {
	for _, v := range append(someViews(), wrongViews()...) {
		roomy, _ := roomyView(v)
		wantAlike(t, viewCalls(v), viewCalls(roomy))
	}
	for _, m := range append(someMirrors(), wrongMirrors()...) {
		roomy, _ := roomyMirror(m)
		wantAlike(t, mirrorCalls(m), mirrorCalls(roomy))
	}
	none := impl.View{Number: 7, From: 5, W: 4, H: 3}
	empty := impl.View{Number: 7, From: 5, W: 4, H: 3, Rows: []impl.Row{}}
	wantAlike(t, viewCalls(none), viewCalls(empty))
	wantAlike(t, viewCalls(impl.View{}), viewCalls(impl.View{Rows: []impl.Row{}}))
	wantAlike(t, mirrorCalls(impl.Mirror{Number: -1}), mirrorCalls(impl.Mirror{Number: -1, Rows: []string{}}))
	wantAlike(t, mirrorCalls(impl.Mirror{}), mirrorCalls(impl.Mirror{Rows: []string{}}))
	for _, list := range someTextLists() {
		wantAlike(t, listCalls(list, nil), listCalls(append(make([]string, 0, len(list)+50), list...), nil))
	}
}

func TestAlikeTokensHaveAlikeAnswers(t *testing.T) {
	// within is alike, but has other bytes ahead of it and behind it in its memory
	within := func(text string) string { return ("9 " + text + " 9")[2 : 2+len(text)] }
	for _, key := range someKeys() {
		for _, window := range []string{"", "main", "9", strings.Repeat("a", 13)} {
			wantAlike(t, issueCalls(key, 3, window, 12), issueCalls(within(key), 3, within(window), 12))
		}
		for _, text := range someTokenTexts() {
			wantAlike(t, readTokenCalls(key, text), readTokenCalls(within(key), within(text)))
		}
	}
}

func TestAlikeClientsHaveAlikeAnswers(t *testing.T) {
	// within is alike, but has other bytes ahead of it and behind it in its memory
	within := func(text string) string { return ("9 " + text + " 9")[2 : 2+len(text)] }
	for _, c := range append(someClients("key"), wrongClients("key")...) {
		roomy, _ := roomyClient(c)
		roomy.Window, roomy.Token = within(c.Window), within(c.Token)
		wantAlike(t, clientCalls("key", c), clientCalls(within("key"), roomy))
	}
	none, empty := newClient("key", 3, "main"), newClient("key", 3, "main")
	none.Mirror.Rows, empty.Mirror.Rows = nil, []string{}
	wantAlike(t, clientCalls("key", none), clientCalls("key", empty))
	wantAlike(t, clientCalls("key", impl.Client{}), clientCalls("key", impl.Client{Mirror: impl.Mirror{Rows: []string{}}}))
	c, _, token := acceptBase()
	for _, v := range viewsForClients() {
		roomy, _ := roomyView(v)
		wantAlike(t, clientAcceptCalls("key", c, v, token), clientAcceptCalls("key", c, roomy, within(token)))
	}
	wantAlike(t, clientAcceptCalls("key", c, someOf(7, 9, 4, 3, nil), token), clientAcceptCalls("key", c, impl.View{Number: 9, From: 7, W: 4, H: 3, Rows: []impl.Row{}}, token))
	for _, n := range nodesForClients() {
		roomy, _ := roomyNode(n)
		for _, token := range tokensForClients() {
			wantAlike(t, serveCalls("key", 20, 8, n, token), serveCalls(within("key"), 20, 8, roomy, within(token)))
		}
	}
	for _, window := range []string{"", "main", "9", strings.Repeat("a", 13)} {
		wantAlike(t, newClientCalls("key", 3, window), newClientCalls(within("key"), 3, within(window)))
	}
}

func TestAlikeWorldsHaveAlikeAnswers(t *testing.T) {
	for _, w := range append(someWorlds(t), wrongWorlds()...) {
		roomy, _ := roomyWorld(w)
		wantAlike(t, worldCalls(w), worldCalls(roomy))
		wantAlike(t, historyCalls(w), historyCalls(roomy))
	}
	none, empty := newWorld(3, 20, 8), newWorld(3, 20, 8)
	none.Cluster.Wire, none.Cluster.Done, empty.Cluster.Wire, empty.Cluster.Done = nil, nil, []impl.Message{}, []string{}
	for id := range 2 {
		none.Clients[id].Mirror.Rows, empty.Clients[id].Mirror.Rows = nil, []string{}
	}
	for id := range 3 {
		none.Cluster.Nodes[id].Log, none.Cluster.Nodes[id].Votes = nil, nil
		empty.Cluster.Nodes[id].Log, empty.Cluster.Nodes[id].Votes = []impl.Entry{}, []int{}
	}
	wantAlike(t, worldCalls(none), worldCalls(empty))
	wantAlike(t, historyCalls(none), historyCalls(empty))
	wantAlike(t, worldCalls(impl.World{}), worldCalls(impl.World{Clients: []impl.Client{}}))
	wantAlike(t, historyCalls(impl.World{}), historyCalls(impl.World{Clients: []impl.Client{}}))
	wantAlike(t, worldRunCalls(nil), worldRunCalls([]impl.WorldAct{}))
	for _, acts := range someWorldRuns() {
		wantAlike(t, worldRunCalls(acts), worldRunCalls(append(make([]impl.WorldAct, 0, len(acts)+50), acts...)))
	}
}

func TestAlikeLinesHaveAlikeAnswers(t *testing.T) {
	// within is alike, but has other bytes ahead of it and behind it in its memory
	within := func(text string) string { return ("9 " + text + "9\nkill 1")[2 : 2+len(text)] }
	for _, line := range someLines() {
		wantAlike(t, lineCalls(line), lineCalls(within(line)))
	}
	for _, text := range someConsoles() {
		wantAlike(t, consoleCalls(text), consoleCalls(within(text)))
	}
}

func wantAlike(t *testing.T, one, other []call) {
	t.Helper()
	for i := range one {
		if one[i].do() != other[i].do() {
			t.Error(one[i].name, "answers otherwise of alike arguments")
		}
	}
}

func TestAnswersStayWhenTheArgumentChangesLater(t *testing.T) {
	b := sampleBytes(100)
	answer := impl.Hash(b)
	kept := strings.Clone(answer)
	clear(b)
	if answer != kept || impl.Hash(b) == kept {
		t.Error("Hash shares memory with its argument")
	}
}
