package tests

import (
	"fmt"
	"math/rand"
	"slices"
	"strings"
	"sync"
	"testing"

	"loop.example/g00308/impl"
)

// counted are data without empty ones.
func counted(list []string) []string {
	var out []string
	for _, data := range list {
		if data != "" {
			out = append(out, data)
		}
	}
	return out
}

// recount is what the three calls answer of a world.
type recount struct {
	mirrors, nodes bool
	mux            impl.Mux
	replies        []impl.Reply
	codes          [3]int
}

func recountOf(w impl.World) recount {
	var a recount
	a.mirrors, a.codes[0] = impl.MirrorsHold(w)
	a.nodes, a.codes[1] = impl.NodesHold(w)
	a.mux, a.replies, a.codes[2] = impl.HistoryMux(w)
	return a
}

func sameRecounts(a, b recount) bool {
	return a.mirrors == b.mirrors && a.nodes == b.nodes && sameMuxes(a.mux, b.mux) && slices.Equal(a.replies, b.replies) && a.codes == b.codes
}

func (a recount) String() string {
	return fmt.Sprintf("mirrors %v, nodes %v, %.300s, %s, %v", a.mirrors, a.nodes, fmt.Sprint(a.replies), muxShown(a.mux), a.codes)
}

func modelMirrorHolds(w impl.World, c impl.Client) bool {
	done, number := counted(w.Cluster.Done), c.Mirror.Number
	if number < 0 {
		return true
	}
	if number > len(done) {
		return false
	}
	_, rows := modelPicture(w.W, w.H, done[:number], c.Window)
	return rows != nil && slices.Equal(rows, c.Mirror.Rows)
}

func modelNodeHolds(w impl.World, n impl.Node) bool {
	own, done := notEmpty(n), counted(w.Cluster.Done)
	if len(own) > len(done) {
		return false
	}
	made, _ := modelFold(emptyMux(w.W, w.H), own)
	half, _ := modelFold(emptyMux(w.W, w.H), done[:len(own)/2])
	read, ok := modelReadMux(modelMuxBytes(half))
	whole, _ := modelFold(read, done[len(own)/2:len(own)])
	return ok && sameMuxes(made, whole)
}

func modelRecount(w impl.World) recount {
	if !modelWorldOK(w) {
		return recount{codes: [3]int{impl.ErrBad, impl.ErrBad, impl.ErrBad}}
	}
	a := recount{mirrors: true, nodes: true}
	for _, c := range w.Clients {
		a.mirrors = a.mirrors && modelMirrorHolds(w, c)
	}
	for _, n := range w.Cluster.Nodes {
		a.nodes = a.nodes && modelNodeHolds(w, n)
	}
	a.mux, a.replies = modelFold(emptyMux(w.W, w.H), counted(w.Cluster.Done))
	return a
}

// wantHistory holds what the three answer of a world against the model, and asks that nothing of it was changed, and that answers are new memory.
func wantHistory(t *testing.T, what string, base impl.World) recount {
	t.Helper()
	w, lists := roomyWorld(base)
	was := lists()
	got, again := recountOf(w), recountOf(w)
	if lists() != was || !sameWorlds(w, base) {
		t.Fatalf("%s: a call of history writes into %s, or behind its lists", what, worldShown(base))
	}
	wantApart(t, what, w, got.mux, got.replies, again.mux, again.replies)
	if want := modelRecount(base); !sameRecounts(got, want) || !sameRecounts(again, want) {
		t.Fatalf("%s: of %s:\n%v,\n%v when it comes again, not\n%v", what, worldShown(base), got, again, want)
	}
	return got
}

// wantHolds is for what is written out by hand, of worlds that are right.
func wantHolds(t *testing.T, what string, w impl.World, mirrors, nodes bool) {
	t.Helper()
	if got := wantHistory(t, what, w); got.mirrors != mirrors || got.nodes != nodes || got.codes != [3]int{} {
		t.Errorf("%s: mirrors %v, nodes %v, %v, not %v, %v of %s", what, got.mirrors, got.nodes, got.codes, mirrors, nodes, worldShown(w))
	}
}

// wantNoHistory is for worlds that are not right.
func wantNoHistory(t *testing.T, what string, w impl.World) {
	t.Helper()
	if got, none := wantHistory(t, what, w), (recount{codes: [3]int{1, 1, 1}}); !sameRecounts(got, none) {
		t.Errorf("%s: of %s: %v", what, worldShown(w), got)
	}
}

func TestHistoriesOfWorldsThatAreNotRight(t *testing.T) {
	t.Parallel()
	for _, w := range wrongWorlds() {
		wantNoHistory(t, "a world that is not right", w)
	}
	for _, base := range []impl.World{newWorld(3, 12, 6), sagaWorld()} {
		wantHolds(t, "base", base, true, true)
		for _, n := range append([]int{-24, -10, -2, -1, 0, 1, 25, 26}, strayNumbers...) {
			wantNoHistory(t, "another W", changedWorld(base, func(w *impl.World) { w.W = n }))
			wantNoHistory(t, "another H", changedWorld(base, func(w *impl.World) { w.H = n }))
			wantNoHistory(t, "another W and H", changedWorld(base, func(w *impl.World) { w.W, w.H = n, n }))
		}
		wantNoHistory(t, "an H of 11", changedWorld(base, func(w *impl.World) { w.H = 11 }))
		for _, c := range wrongClusters() {
			wantNoHistory(t, "a cluster that is not right", changedWorld(base, func(w *impl.World) { w.Cluster = c }))
		}
		zero, one := base.Clients[0], base.Clients[1]
		for _, list := range [][]impl.Client{nil, {}, {zero}, {one}, {zero, one, newClient(worldKey, 2, "main")}, {zero, one, one}, {one, zero}, {zero, zero}, {one, one}, {zero, {}}, {{}, one}} {
			wantNoHistory(t, "other clients", changedWorld(base, func(w *impl.World) { w.Clients = list }))
		}
		for _, c := range append(wrongClients(worldKey), newClient("other", 0, "main"), newClient("", 1, "main")) {
			for id := range 2 {
				wantNoHistory(t, "a client that is not right", changedWorld(base, func(w *impl.World) { w.Clients[id] = c }))
			}
		}
	}
}

func TestHistoriesOfNewWorlds(t *testing.T) {
	for nodes := 1; nodes <= 5; nodes++ {
		for _, size := range [][2]int{{2, 2}, {12, 6}, {24, 10}, {2, 10}, {24, 2}} {
			w, code := impl.NewWorld(nodes, size[0], size[1])
			if code != impl.OK {
				t.Fatal("NewWorld", code)
			}
			wantHolds(t, "a new world", w, true, true)
			fresh, _ := impl.NewMux(size[0], size[1])
			if m, replies, code := impl.HistoryMux(w); code != impl.OK || len(replies) != 0 || !sameMuxes(m, fresh) {
				t.Errorf("HistoryMux of a new world: %s, %v, %d", muxShown(m), replies, code)
			}
		}
	}
	for _, w := range someWorlds(t) {
		wantHistory(t, "some world", w)
	}
}

// shownBehind is a mirror of what a window shows behind so many of the saga, under any Number.
func shownBehind(t *testing.T, window string, behind, number int) impl.Mirror {
	t.Helper()
	mux, rows := modelPicture(20, 8, counted(saga())[:behind], window)
	if rows == nil {
		t.Fatalf("%s is not there behind %d", window, behind)
	}
	return mirrorOf(number, mux.W, mux.H, rows)
}

// wantMirrorHolds asks of a mirror as the first client's and as the second one's, beside another that has no Number, that holds and that does not.
func wantMirrorHolds(t *testing.T, what, window string, m impl.Mirror, want bool) {
	t.Helper()
	for id := range 2 {
		for i, other := range []impl.Mirror{{Number: -1}, shownBehind(t, "logs", 5, 5), shownBehind(t, "main", 5, 5)} {
			w := sagaWorld()
			w.Clients[id], w.Clients[1-id] = clientWith(worldKey, id, window, m), clientWith(worldKey, 1-id, "logs", other)
			if got, code := impl.MirrorsHold(w); got != (want && i < 2) || code != impl.OK {
				t.Errorf("%s: client %d of %s, %s, beside %s: %v, %d", what, id, window, mirrorShown(m), mirrorShown(other), got, code)
			}
			if id == 0 && i == 0 {
				wantHolds(t, what, w, want, true)
			}
		}
	}
}

func TestMirrorsThatHoldWrittenOut(t *testing.T) {
	t.Parallel()
	for _, x := range []struct {
		window      string
		first, last int
	}{{"main", 1, 10}, {"main", 12, 13}, {"main", 15, 18}, {"logs", 4, 14}, {"old", 11, 18}} {
		for number := x.first; number <= x.last; number++ {
			wantMirrorHolds(t, "just what the window shows", x.window, shownBehind(t, x.window, number, number), true)
		}
	}
	for _, window := range []string{"main", "logs", "never"} {
		wantMirrorHolds(t, "nothing yet", window, impl.Mirror{Number: -1}, true)
	}
}

// What a window shows behind one number of commands, as if it were what it shows behind another one.
func TestMirrorsOfOtherNumbers(t *testing.T) {
	t.Parallel()
	for _, x := range []struct {
		window         string
		behind, number int
		want           bool
	}{
		{"main", 3, 2, true}, {"main", 3, 4, true}, {"main", 2, 5, true}, {"main", 5, 2, true}, {"main", 2, 1, false}, {"main", 5, 6, false}, {"main", 6, 5, false}, {"main", 6, 7, true}, {"main", 7, 6, true}, {"main", 7, 8, false}, {"main", 8, 7, false},
		{"main", 8, 9, false}, {"main", 9, 8, false}, {"main", 9, 10, false}, {"main", 10, 9, false}, {"main", 10, 11, false}, {"main", 12, 11, false}, {"main", 12, 13, false}, {"main", 13, 12, false}, {"main", 13, 14, false}, {"main", 12, 1, true}, {"main", 1, 12, true}, {"main", 1, 0, false}, {"main", 1, 2, false},
		{"main", 15, 14, false}, {"main", 15, 16, true}, {"main", 16, 15, true}, {"main", 16, 17, false}, {"main", 17, 16, false}, {"main", 17, 18, false}, {"main", 18, 17, false}, {"main", 15, 18, true}, {"main", 18, 16, true},
		{"logs", 4, 3, false}, {"logs", 4, 5, false}, {"logs", 5, 4, false}, {"logs", 5, 6, true}, {"logs", 6, 5, true}, {"logs", 7, 8, false}, {"logs", 9, 8, true}, {"logs", 8, 9, true}, {"logs", 9, 10, false}, {"logs", 14, 10, true}, {"logs", 14, 15, false},
		{"old", 11, 10, false}, {"old", 11, 12, true}, {"old", 12, 11, true}, {"old", 18, 11, true},
	} {
		what := fmt.Sprintf("what it shows behind %d, as behind %d", x.behind, x.number)
		wantMirrorHolds(t, what, x.window, shownBehind(t, x.window, x.behind, x.number), x.want)
	}
}

// More than was done there is not, however alike the window would be; neither empty data nor what else stands in the cluster makes it more.
func TestMirrorsOfMoreThanWasDone(t *testing.T) {
	t.Parallel()
	for _, x := range []struct {
		window string
		count  int
	}{{"main", 1}, {"main", 2}, {"main", 4}, {"main", 10}, {"logs", 5}, {"main", 18}, {"old", 18}} {
		for _, empty := range []int{0, 1, 60 - len(saga())} {
			for number := 0; number <= 60; number++ {
				w := sagaWorld()
				list := saga()[:nodeKnowing(saga(), x.count).Commit]
				w.Cluster.Done = append(list, make([]string, empty)...)
				w.Clients[0], w.Clients[1] = newClient(worldKey, 0, "main"), clientWith(worldKey, 1, x.window, shownBehind(t, x.window, x.count, number))
				_, rows := modelPicture(20, 8, counted(list)[:min(number, x.count)], x.window)
				want := number <= x.count && slices.Equal(rows, w.Clients[1].Mirror.Rows)
				if got, code := impl.MirrorsHold(w); got != want || code != impl.OK || number == x.count && !got {
					t.Errorf("%s of %d with %d done: %v, %d", x.window, number, x.count, got, code)
				}
			}
		}
	}
	w := worldOf(20, 8, newCluster(3), newClient(worldKey, 0, "main"), clientBehind(1, "main", 2))
	wantHolds(t, "nothing was done", w, false, true)
	w.Cluster.Done = make([]string, 60)
	wantHolds(t, "empty data alone", w, false, true)
	w.Cluster.Done = counted(saga())[:2]
	wantHolds(t, "without any empty data", w, true, true)
}

func TestMirrorsOfWindowsThatAreNotThere(t *testing.T) {
	t.Parallel()
	for window, numbers := range map[string][]int{"main": {0, 11, 14}, "logs": {0, 1, 2, 3, 15, 16, 17, 18}, "old": {0, 1, 5, 9, 10}, "never": {0, 1, 9, 18}} {
		for _, number := range numbers {
			wantMirrorHolds(t, "no such window", window, mirrorOf(number, 20, 8, slices.Repeat([]string{strings.Repeat(cellBytes(' ', 0), 20)}, 8)), false)
			wantMirrorHolds(t, "no such window", window, shownBehind(t, "main", 2, number), false)
			wantMirrorHolds(t, "no such window, of rows that are any", window, mirrorOf(number, 20, 8, motleyRows(20, 8, number)), false)
		}
	}
	// A mirror's client follows its own window, whatever other ones show.
	wantMirrorHolds(t, "another window's rows", "main", shownBehind(t, "logs", 5, 5), false)
	wantMirrorHolds(t, "another window's rows", "logs", shownBehind(t, "main", 5, 5), false)
	wantMirrorHolds(t, "another window's rows", "old", shownBehind(t, "main", 13, 13), false)
	wantMirrorHolds(t, "another window's rows", "main", shownBehind(t, "old", 13, 13), false)
	wantMirrorHolds(t, "another window's name", "log", shownBehind(t, "logs", 5, 5), false)
	wantMirrorHolds(t, "another window's name", "logss", shownBehind(t, "logs", 5, 5), false)
	wantMirrorHolds(t, "what it is named later", "old", shownBehind(t, "main", 10, 10), false)
	wantMirrorHolds(t, "what it was named", "main", shownBehind(t, "old", 11, 11), false)
	wantMirrorHolds(t, "another window that shows just this", "main", shownBehind(t, "logs", 4, 12), true)
}

func reversedRow(row string) string {
	out := ""
	for ; row != ""; row = row[4:] {
		out = row[:4] + out
	}
	return out
}

// Every cell counts, its look too, and where it stands.
func TestMirrorsOfOtherRows(t *testing.T) {
	t.Parallel()
	for _, x := range []struct {
		window string
		number int
	}{{"main", 2}, {"main", 8}, {"main", 17}, {"old", 18}} {
		right := shownBehind(t, x.window, x.number, x.number)
		changed := func(change func(rows []string)) impl.Mirror {
			m := cloneMirror(right)
			change(m.Rows)
			return m
		}
		for y := range right.H {
			m := changed(func(rows []string) { rows[y] = reversedRow(rows[y]) })
			wantMirrorHolds(t, fmt.Sprint("row turned: ", y), x.window, m, strings.TrimRight(modelRowTexts(right.Rows)[y], " ") == "")
			for other := range y {
				m := changed(func(rows []string) { rows[y], rows[other] = rows[other], rows[y] })
				wantMirrorHolds(t, fmt.Sprint("rows changed about: ", y, " and ", other), x.window, m, right.Rows[y] == right.Rows[other])
			}
		}
		for place := range right.W * right.H {
			y, at := place/right.W, place%right.W*4
			for _, b := range []int{2, 3} {
				w := sagaWorld()
				w.Clients[place%2] = clientWith(worldKey, place%2, x.window, changed(func(rows []string) {
					row := []byte(rows[y])
					row[at+b] ^= 1
					rows[y] = string(row)
				}))
				w.Clients[1-place%2] = newClient(worldKey, 1-place%2, "main")
				if got, code := impl.MirrorsHold(w); got || code != impl.OK {
					t.Fatalf("%s with another cell %d: %v, %d", x.window, place, got, code)
				}
			}
		}
	}
}

func TestMirrorsOfOtherSizes(t *testing.T) {
	t.Parallel()
	right := shownBehind(t, "main", 5, 5)
	var narrow []string
	for _, row := range right.Rows {
		narrow = append(narrow, row[:16*4])
	}
	wantMirrorHolds(t, "fewer columns", "main", mirrorOf(5, 16, 8, narrow), false)
	wantMirrorHolds(t, "fewer rows", "main", mirrorOf(5, 20, 5, right.Rows[:5]), false)
	wantMirrorHolds(t, "fewer of both", "main", mirrorOf(5, 16, 5, narrow[:5]), false)
	wantMirrorHolds(t, "more rows", "main", mirrorOf(5, 20, 9, append(slices.Clone(right.Rows), right.Rows[7])), false)
	// The world's own size counts, till commands change it.
	for _, size := range [][2]int{{24, 10}, {16, 5}, {2, 2}} {
		for number := 1; number <= 18; number++ {
			for _, window := range []string{"main", "logs", "old"} {
				for id := range 2 {
					w := sagaWorld()
					w.W, w.H = size[0], size[1]
					w.Clients[0], w.Clients[1] = newClient(worldKey, 0, "main"), newClient(worldKey, 1, "main")
					w.Clients[id] = clientBehind(id, window, number)
					got := wantHistory(t, "another size", w)
					if number < 8 && got.mirrors || !got.nodes {
						t.Errorf("%v: %v", size, got)
					}
				}
			}
		}
	}
}

// Each of all windows' pictures under each Number, against the model.
func TestMirrorsOfEveryNumber(t *testing.T) {
	t.Parallel()
	done := counted(saga())
	holds := 0
	for behind := range 19 {
		for _, source := range []string{"main", "logs", "old"} {
			mux, rows := modelPicture(20, 8, done[:behind], source)
			if rows == nil {
				continue
			}
			for number := range 21 {
				for i, window := range []string{"main", "logs", "old"} {
					w := sagaWorld()
					id := (number + i) % 2
					w.Clients[id] = clientWith(worldKey, id, window, mirrorOf(number, mux.W, mux.H, rows))
					w.Clients[1-id] = newClient(worldKey, 1-id, "main")
					got, code := impl.MirrorsHold(w)
					if want := modelMirrorHolds(w, w.Clients[id]); got != want || code != impl.OK {
						t.Fatalf("%s behind %d as %s behind %d: %v, %d", source, behind, window, number, got, code)
					}
					holds += oneIf(got)
				}
			}
		}
	}
	if holds < 50 {
		t.Error("only", holds, "mirrors hold")
	}
}

// A mirror is held against what is done, whatever the nodes know.
func TestMirrorsAndWhatIsDone(t *testing.T) {
	t.Parallel()
	base := sagaWorld()
	base.Clients[0] = clientBehind(0, "main", 10)
	commit := nodeKnowing(saga(), 10).Commit
	for place := range saga() {
		other := changedWorld(base, func(w *impl.World) { w.Cluster.Done[min(place, len(w.Cluster.Done)-1)] = "other" })
		wantHistory(t, "other data", other)
		less := changedWorld(base, func(w *impl.World) { w.Cluster.Done = w.Cluster.Done[:place] })
		if got := wantHistory(t, "less", less); got.mirrors != (place >= commit) {
			t.Errorf("with %d of Done: %v", place, got.mirrors)
		}
	}
	blind := changedWorld(base, func(w *impl.World) {
		done := w.Cluster.Done
		w.Cluster = withDone(newCluster(3), done...)
	})
	wantHolds(t, "nodes that know of none", blind, true, true)
	blind.Cluster.Done = nil
	wantHolds(t, "nothing is done", blind, false, true)
}

// worldKnowing has a node for each list, which knows all of it to be committed, and what was done.
func worldKnowing(done []string, lists ...[]string) impl.World {
	var nodes []impl.Node
	for id, list := range lists {
		n := committedNode(list, len(list))
		n.Id, n.Nodes, n.Wait = id, len(lists), 5+id
		n.Next, n.Match = slices.Repeat([]int{1}, len(lists)), make([]int, len(lists))
		nodes = append(nodes, n)
	}
	return worldOf(20, 8, withDone(clusterOf(nodes...), done...), newClient(worldKey, 0, "main"), newClient(worldKey, 1, "logs"))
}

// wantNodesHold asks of a node by itself, and of it beside such as hold, at every place, and down, too.
func wantNodesHold(t *testing.T, what string, done, list []string, want bool) {
	t.Helper()
	wantHolds(t, what+", alone", worldKnowing(done, list), true, want)
	for place := range 3 {
		lists := [][]string{done, nil, done[:len(done)/2]}
		lists[place] = list
		w := worldKnowing(done, lists...)
		for _, up := range []bool{true, false} {
			w.Cluster.Nodes[place].Up = up
			if got, code := impl.NodesHold(w); got != want || code != impl.OK {
				t.Errorf("%s, at %d, up %v: %v, %d of %s", what, place, up, got, code, worldShown(w))
			}
		}
	}
}

func TestNodesThatHoldWrittenOut(t *testing.T) {
	t.Parallel()
	all := saga()
	for size := range len(all) + 1 {
		wantNodesHold(t, fmt.Sprint("the first of what is done: ", size), all, all[:size], true)
		wantNodesHold(t, fmt.Sprint("the first of them, without empty data: ", size), all, counted(all[:size]), true)
		wantNodesHold(t, fmt.Sprint("the first of what is done without empty data: ", size), counted(all), all[:size], true)
	}
	for count := range 19 {
		w := worldOf(20, 8, sagaCluster(count), newClient(worldKey, 0, "main"), newClient(worldKey, 1, "logs"))
		wantHolds(t, "one node that knows of all", w, true, true)
		for _, counts := range [][]int{{count, 0}, {0, count, 18}, {18, 18 - count, count, 18}, {count, 9, 18 - count, 1, 18}} {
			w.Cluster = sagaCluster(counts...)
			wantHolds(t, fmt.Sprint("nodes that know of ", counts), w, true, true)
		}
	}
}

// A node that knows of more than is done does not hold, even if it makes just as much; empty data make it no more.
func TestNodesThatKnowOfMoreThanIsDone(t *testing.T) {
	t.Parallel()
	all := counted(saga())
	for size := range all {
		for _, more := range [][]string{all[size:], all[size : size+1], {"junk"}, {"junk", ""}, {"", "junk"}} {
			wantNodesHold(t, fmt.Sprint("more than ", size), all[:size], append(slices.Clone(all[:size]), more...), false)
		}
		wantNodesHold(t, "more that are empty", all[:size], append(slices.Clone(all[:size]), "", "", ""), true)
		wantNodesHold(t, "as many, with empty data", append(slices.Clone(all[:size]), "", ""), append([]string{"", ""}, all[:size]...), true)
		wantNodesHold(t, "more, with empty data done", append(slices.Clone(all[:size]), "", ""), append([]string{"junk"}, all[:size]...), false)
	}
	wantNodesHold(t, "empty data alone", nil, make([]string, 60), true)
	wantNodesHold(t, "empty data done", make([]string, 60), nil, true)
	wantNodesHold(t, "of empty data done", make([]string, 60), []string{"junk"}, false)
	wantNodesHold(t, "the most", longData(60), longData(60), true)
	wantNodesHold(t, "one more than the most but one", longData(59), longData(60), false)
}

// What is held against one another is what they make: of other data that make the same a node holds.
func TestNodesOfOtherEntries(t *testing.T) {
	t.Parallel()
	all := counted(saga())
	for place, data := range all {
		other := slices.Clone(all)
		if other[place] = "junk too"; data != "junk" {
			other[place] = dataIn(from(9, at(1, ownCommand(99, 1))))[0]
		}
		for size := range len(all) + 1 {
			// Behind what the node knows of anything may be done.
			want := size <= place || data == "junk"
			wantHolds(t, fmt.Sprint("other data done at ", place), worldKnowing(other, all[:size]), true, want)
			wantHolds(t, fmt.Sprint("other data known at ", place), worldKnowing(all, other[:size]), true, want)
		}
	}
	w := worldKnowing(all, all[:10])
	w.Cluster.Nodes[0].Commit = 7
	for place := 7; place < 10; place++ {
		w.Cluster.Nodes[0].Log[place].Data = "other"
	}
	w.Cluster = withDone(clusterOf(w.Cluster.Nodes...), all...)
	wantHolds(t, "other entries that are not known to be committed", w, true, true)
	w.Cluster.Nodes[0].Commit = 8
	wantHolds(t, "other entries that are known to be committed", w, true, false)

	own := dataIn(at(1, windowCommand("main")), from(7, at(1, windowCommand("logs"))), at(2, outputCommand(1, 1, "a")), from(7, at(2, outputCommand(2, 1, "b"))))
	wantNodesHold(t, "two that may be changed about", own, []string{own[0], own[1], own[3], own[2]}, true)
	wantNodesHold(t, "two that may not", own, []string{own[1], own[0], own[2], own[3]}, false)
	wantNodesHold(t, "other output", own, append(own[:3:3], dataIn(from(7, at(2, outputCommand(2, 1, "c"))))...), false)
	wantNodesHold(t, "output of another look", own, append(own[:3:3], dataIn(from(7, at(2, outputCommand(2, 1, "\x1b[1mb"))))...), false)
	wantNodesHold(t, "what is told of a client alone", own, append(own[:3:3], dataIn(from(7, at(3, outputCommand(2, 1, "b"))))...), false)
	wantNodesHold(t, "the first one again at the end", own, []string{own[0], own[1], own[2], own[0]}, false)
}

// Each piece ends amid a rune or a sequence, so that wherever the first half ends the parser has something that the bytes hand on.
func TestFirstHalvesThatEndAmidASequence(t *testing.T) {
	t.Parallel()
	for text, want := range map[string]string{
		"one\x1b|[|2|;|1|2|H|x|\x1b[|1|mtwo":        "one 1:" + strings.Repeat(" ", 11) + "xtwo",
		"a\xe2|\x82|\xacb\xf0|\x9f|\x98|\x80c":      "a\u20acb\U0001f600c",
		"\x1b]|ti|tle|\x1b|\\x|\x1b]o|ther|\ay":     "xy",
		"a\x1b[?|1|;|2h|b\x1b[ |5|Ac\x1b|Dd\x1b[|E": "abc 1:   d",
	} {
		pieces := strings.Split(text, "|")
		list := dataIn(at(1, windowCommand("main")))
		for i, piece := range pieces {
			list = append(list, dataIn(at(2+i, outputCommand(1, 1, piece)))...)
		}
		for ahead := range 3 {
			done := slices.Concat(slices.Repeat([]string{"", "junk"}, ahead), list)
			for size := range len(done) + 1 {
				wantNodesHold(t, fmt.Sprintf("%d of %q", size, text), done, done[:size], true)
			}
			m, replies, code := impl.HistoryMux(worldKnowing(done, nil))
			if code != impl.OK || len(replies) != len(counted(done)) {
				t.Fatal("HistoryMux", replies, code)
			}
			screen := m.Panes[0].Screen
			shown := modelTexts(screen)[0]
			for y, row := range modelTexts(screen)[1:] {
				if row != "" {
					shown += fmt.Sprintf(" %d:%s", y+1, row)
				}
			}
			if shown != want {
				t.Errorf("%q shows %q, not %q", text, shown, want)
			}
			other := slices.Clone(done)
			other[len(done)-2] = dataIn(at(len(pieces), outputCommand(1, 1, "\x18")))[0]
			wantNodesHold(t, fmt.Sprintf("%q without the last piece but one", text), done, other, false)
		}
	}
}

func TestHistoriesOfManyData(t *testing.T) {
	t.Parallel()
	lists := append(drawnLists(t, 15, 8), make([]string, 60), saga(), append(longData(59), ""), append([]string{""}, longData(59)...), []string{"junk"}, nil)
	for n := range 61 {
		lists = append(lists, longData(n))
	}
	for _, none := range noneData(t) {
		if len(none) <= 400 {
			lists = append(lists, []string{none}, slices.Insert(story(), 3, none), []string{none, "", none})
		}
	}
	for _, list := range lists {
		for _, nodes := range []int{1, 3} {
			w := newWorld(nodes, 20, 8)
			w.Cluster = withDone(w.Cluster, list...)
			got := wantHistory(t, "many data", w)
			m, replies, code := impl.FoldData(20, 8, counted(list))
			if got.codes != [3]int{} || code != impl.OK || !got.mirrors || !got.nodes || len(got.replies) != len(counted(list)) || !slices.Equal(got.replies, replies) || !sameMuxes(got.mux, m) {
				t.Fatalf("of %s: %v", listShown(list), got)
			}
		}
		known := worldKnowing(list, list, nil, list[:len(list)/2], list[:len(list)/3])
		wantHolds(t, "nodes that know of some", known, true, true)
	}
}

func TestAHistoryOfDataWrittenOut(t *testing.T) {
	done := append(dataIn(at(1, windowCommand("main")), at(2, outputCommand(1, 1, "hello\x1b[2"))), "junk", "")
	done = append(done, dataIn(at(3, outputCommand(1, 1, "DX")), at(3, killCommand(1)), at(2, killCommand(1)), at(4, killCommand(2)), from(5, at(1, outputCommand(1, 1, "y"))), at(5, splitCommand(1, true)))...)
	want := []impl.Reply{{Number: 1}, {}, {Code: impl.ErrForm}, {}, {}, {Code: impl.ErrLate}, {Code: impl.ErrNone}, {Code: impl.ErrStale}, {Number: 2}}
	w := newWorld(2, 12, 6)
	w.Cluster.Done = append(done, "", "")
	m, replies, code := impl.HistoryMux(w)
	if code != impl.OK || !slices.Equal(replies, want) || layoutTexts(m) != "main(1-3-2)" {
		t.Error("HistoryMux:", replies, code, layoutTexts(m))
	}
	if text, _ := impl.RowText(m.Panes[0].Screen, 0); text != "helXo" || m.W != 12 || m.H != 6 {
		t.Errorf("%dx%d, the screen begins %q", m.W, m.H, text)
	}
	for size := range len(done) + 1 {
		w.Cluster.Done = done[:size]
		if _, replies, code := impl.HistoryMux(w); code != impl.OK || !slices.Equal(replies, want[:len(counted(done[:size]))]) {
			t.Errorf("HistoryMux of %d: %v, %d", size, replies, code)
		}
	}
}

// wantHistoryHolds is what is promised of a world that began new, behind each of its acts.
func (h *hall) wantHistoryHolds() {
	h.t.Helper()
	mirrors, code := impl.MirrorsHold(h.w)
	nodes, codeOfNodes := impl.NodesHold(h.w)
	if !mirrors || !nodes || code != impl.OK || codeOfNodes != impl.OK {
		h.t.Fatalf("behind %d acts: mirrors %v, %d, nodes %v, %d of %s", len(h.acts), mirrors, code, nodes, codeOfNodes, worldShown(h.w))
	}
}

// tally counts what is committed, by kinds and by what it was told.
func (h *hall) tally(kinds map[string]int) {
	h.t.Helper()
	got := wantHistory(h.t, "behind a run", h.w)
	m := muxModelOf(emptyMux(h.w.W, h.w.H))
	for i, data := range counted(h.w.Cluster.Done) {
		c, ok := modelReadCommand([]byte(data))
		if !ok {
			kinds["none "+impl.CodeWord(got.replies[i].Code)]++
			continue
		}
		again := slices.ContainsFunc(m.mux().Seens, func(s impl.Seen) bool { return s.Client == c.Client && s.Seq == c.Seq })
		kinds["again"] += oneIf(again)
		if reply := m.come(c); !again {
			kinds[fmt.Sprint(c.Kind, " ", impl.CodeWord(reply.Code))]++
			kinds[impl.CodeWord(reply.Code)]++
		}
	}
	kinds["empty"] += len(h.w.Cluster.Done) - len(got.replies)
}

// drawnRound heals, lets the leader be told of commands, some of them twice, and of data that are none, and then lets anything come.
func (h *hall) drawnRound(draw *rand.Rand) {
	h.t.Helper()
	leader := h.heal()
	for range 1 + draw.Intn(4) {
		submit := h.drawnSubmit(draw, leader)
		h.act(submit)
		switch draw.Intn(8) {
		case 0:
			h.act(submit)
		case 1:
			h.act(clusterAct(proposeAct(leader, []string{"junk", submit.Command.Data + "\x03", strings.Repeat("x", 400)}[draw.Intn(3)])))
		case 2, 3, 4:
			h.settle()
		}
	}
	apart := draw.Intn(len(h.w.Cluster.Nodes))
	for step := range 8 {
		h.act(h.drawnWorldAct(draw, step, apart, leader))
	}
	down := draw.Intn(len(h.w.Cluster.Nodes))
	if draw.Intn(2) == 0 {
		h.act(clusterAct(crashAct(down)))
	}
	for client := range 2 {
		h.act(pollAct(client, draw.Intn(len(h.w.Cluster.Nodes))))
		h.act(pollAct(client, down))
	}
}

// tallies of a run are what is committed, what acts were told, and whether worlds with something changed hold.
type tallies struct{ kinds, acts, changes map[string]int }

func newTallies() tallies {
	return tallies{map[string]int{}, map[string]int{}, map[string]int{}}
}

func (all tallies) join(other tallies) {
	for i, from := range []map[string]int{other.kinds, other.acts, other.changes} {
		to := []map[string]int{all.kinds, all.acts, all.changes}[i]
		for kind, count := range from {
			to[kind] += count
		}
	}
}

func drawnHistory(t *testing.T, seed int64) tallies {
	t.Helper()
	draw, own := rand.New(rand.NewSource(1500+seed)), newTallies()
	h := newHall(t, 1+int(seed)%5, own.acts)
	for len(h.w.Cluster.Done) < 50 && len(h.acts) < 900 {
		h.drawnRound(draw)
	}
	h.tally(own.kinds)
	wantChangesTold(t, draw, h.w, own.changes)
	return own
}

// Worlds that crash, are cut and heal, again and again, with commands of every kind.
func TestHistoriesOfDrawnWorlds(t *testing.T) {
	t.Parallel()
	all := newTallies()
	var lock sync.Mutex
	t.Run("runs", func(t *testing.T) {
		for seed := range int64(10) {
			t.Run(fmt.Sprint(seed), func(t *testing.T) {
				t.Parallel()
				own := drawnHistory(t, seed)
				lock.Lock()
				defer lock.Unlock()
				all.join(own)
			})
		}
	})
	wantKinds(t, all.kinds, 4, "1 ok", "2 ok", "3 ok", "4 ok", "5 ok", "6 ok", "7 ok", "8 ok", "none form", "again", "empty")
	wantKinds(t, all.kinds, 2, "1 twice", "1 full", "2 full", "2 small", "4 last", "5 stale", "8 none", "late", "none")
	wantKinds(t, all.acts, 20, "1 ok", "2 ok", "3 ok", "3 again", "3 late", "3 down")
	wantKinds(t, all.changes, 30, "mirrors true", "mirrors false", "nodes true", "nodes false")
}

// changedHistory is a world in which one thing of what was done, what a node knows or what a mirror shows is another.
func changedHistory(draw *rand.Rand, w *impl.World) {
	c, n := &w.Clients[draw.Intn(2)], &w.Cluster.Nodes[draw.Intn(len(w.Cluster.Nodes))]
	place := draw.Intn(max(len(w.Cluster.Done), 1))
	switch kind := draw.Intn(8); {
	case kind == 0 && place < len(w.Cluster.Done):
		w.Cluster.Done = slices.Delete(w.Cluster.Done, place, place+1)
	case kind == 1 && place < len(w.Cluster.Done):
		w.Cluster.Done[place] = []string{"junk", "", dataIn(at(60000, windowCommand("x")))[0]}[draw.Intn(3)]
	case kind == 2 && len(w.Cluster.Done) < 60:
		w.Cluster.Done = slices.Insert(w.Cluster.Done, place, []string{"", "junk"}[draw.Intn(2)])
	case kind == 3 && n.Commit > 0:
		n.Log[draw.Intn(n.Commit)].Data = []string{"junk", "", dataIn(at(60000, windowCommand("x")))[0]}[draw.Intn(3)]
	case kind == 4:
		n.Commit = draw.Intn(len(n.Log) + 1)
	case kind == 5 && c.Mirror.Number >= 0:
		c.Mirror.Number = min(max(c.Mirror.Number+draw.Intn(5)-2, 0), 60)
	case kind == 6 && c.Mirror.Number >= 0:
		y := draw.Intn(c.Mirror.H)
		c.Mirror.Rows[y], c.Mirror.Rows[0] = c.Mirror.Rows[0], reversedRow(c.Mirror.Rows[y])
	case kind == 7:
		c.Window = w.Clients[draw.Intn(2)].Window
	}
	w.Cluster = withWire(withDone(clusterOf(w.Cluster.Nodes...), w.Cluster.Done...))
	*c = clientWith(worldKey, c.Id, c.Window, c.Mirror)
}

// wantChangesTold asks of a world with something changed, again and again, just what the model tells: some of them hold, and some do not.
func wantChangesTold(t *testing.T, draw *rand.Rand, w impl.World, counts map[string]int) {
	t.Helper()
	for range 40 {
		got := wantHistory(t, "something is changed", changedWorld(w, func(w *impl.World) { changedHistory(draw, w) }))
		counts[fmt.Sprint("mirrors ", got.mirrors)]++
		counts[fmt.Sprint("nodes ", got.nodes)]++
	}
}

// A history of three nodes, of which one crashes while it leads, one is cut off, and one breaks while it writes.
func TestAHistoryOfAWorldWrittenOut(t *testing.T) {
	t.Parallel()
	h := newHall(t, 3, map[string]int{})
	seq := 0
	submit := func(leader int, c impl.Command) {
		t.Helper()
		seq++
		if code := h.act(submitAct(leader, at(seq, c))); code != impl.OK {
			t.Fatal("WoSubmit", code)
		}
	}
	leader := h.heal()
	submit(leader, windowCommand("main"))
	submit(leader, outputCommand(1, 1, "one\x1b["))
	h.settle()
	h.act(pollAct(0, leader))
	h.act(clusterAct(crashAct(leader)))
	h.act(clusterAct(startAct(leader)))
	// It knows of none then, and still holds.
	if n := h.w.Cluster.Nodes[leader]; n.Commit != 0 || len(n.Log) != 3 {
		t.Fatal(nodeShown(n))
	}
	leader = h.heal()
	submit(leader, splitCommand(1, false))
	cut := h.w.Cluster.Wire[0].To
	for len(h.w.Cluster.Wire) > 0 {
		act := giveAct(0)
		if h.w.Cluster.Wire[0].To == cut {
			act = loseAct(0)
		}
		h.act(clusterAct(act))
	}
	h.act(clusterAct(proposeAct(leader, "junk")))
	h.act(clusterAct(breakAct(0, 20)))
	h.settle()
	leader = h.heal()
	submit(leader, outputCommand(1, 1, "2;3HX"))
	submit(leader, killCommand(9))
	h.act(submitAct(leader, at(seq, killCommand(1))))
	submit(leader, renameCommand("main", "logs"))
	for range 2 {
		h.settle()
		h.act(clusterAct(tickAct(leader, 0)))
		h.act(clusterAct(tickAct(leader, 0)))
	}
	h.settle()
	h.act(pollAct(0, leader))
	h.act(pollAct(1, (leader+1)%3))
	want := []impl.Reply{{Number: 1}, {}, {Number: 2}, {Code: impl.ErrForm}, {}, {Code: impl.ErrNone}, {Code: impl.ErrNone}, {}}
	m, replies, code := impl.HistoryMux(h.w)
	if code != impl.OK || !slices.Equal(replies, want) || layoutTexts(m) != "logs(1|10|2)" {
		t.Fatal("HistoryMux:", replies, code, layoutTexts(m))
	}
	if texts := modelTexts(m.Panes[0].Screen); texts[0] != "one" || texts[1] != "  X" {
		t.Errorf("%q", texts)
	}
	wantMirrorShows(t, "the first client", h.w, 0, 2, "20x8 0:one")
	wantMirrorShows(t, "the second client", h.w, 1, 8, "20x8 0:one 1:  X")
	for _, n := range h.w.Cluster.Nodes {
		if made, count, code := impl.FoldNode(20, 8, n); code != impl.OK || count != 8 || !sameMuxes(made, m) {
			t.Error(nodeShown(n), count, code)
		}
	}
	if empty := len(h.w.Cluster.Done) - 8; empty < 2 {
		t.Error("only", empty, "empty data are done")
	}
	wantHolds(t, "at the end", h.w, true, true)
}

// spoiltHistory writes into all lists of what HistoryMux answers.
func spoiltHistory(m impl.Mux, replies []impl.Reply) {
	for _, window := range m.Windows {
		clear(window.Layout.Parts)
	}
	for _, p := range m.Panes {
		spoiltScreen(p.Screen)
		clear(p.Parser.Args)
	}
	clear(m.Windows)
	clear(m.Panes)
	clear(m.Seens)
	clear(replies)
}

// What is written into an answer changes no argument; what is written into an argument later changes no answer.
func TestAnswersOfHistoriesAreTheirOwn(t *testing.T) {
	for _, base := range append(someWorlds(t), worldKnowing(story(), story())) {
		w := cloneWorld(base)
		m, replies, _ := impl.HistoryMux(w)
		if spoiltHistory(m, replies); !sameWorlds(w, base) {
			t.Fatalf("HistoryMux shares memory with %s", worldShown(base))
		}
		m, replies, _ = impl.HistoryMux(w)
		kept, keptReplies := cloneMux(m), slices.Clone(replies)
		if spoiltWorld(w); !sameMuxes(m, kept) || !slices.Equal(replies, keptReplies) {
			t.Fatalf("HistoryMux keeps memory of %s", worldShown(base))
		}
	}
}

// One world asked by many at once, and many worlds.
func TestHistoriesBesideOneAnother(t *testing.T) {
	t.Parallel()
	worlds := slices.Concat(someWorlds(t), wrongWorlds(), []impl.World{worldKnowing(story(), story(), story()[:7]), worldKnowing(saga()[:9], saga())})
	var want []recount
	for _, w := range worlds {
		want = append(want, modelRecount(w))
	}
	var group sync.WaitGroup
	for i := range 48 {
		group.Go(func() {
			for j := range worlds {
				at := (i + j) % len(worlds)
				if got := recountOf(worlds[at]); !sameRecounts(got, want[at]) {
					t.Errorf("of %s beside others: %v", worldShown(worlds[at]), got)
				}
			}
		})
	}
	group.Wait()
}
