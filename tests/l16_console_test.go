package tests

import (
	"fmt"
	"math/rand"
	"regexp"
	"slices"
	"strconv"
	"strings"
	"sync"
	"testing"

	"loop.example/g00308/impl"
)

func modelSettle(c impl.Cluster, rounds int) (impl.Cluster, int) {
	if !modelClusterOK(c) {
		return impl.Cluster{}, impl.ErrBad
	}
	if !inBounds(rounds, 0, 1000) {
		return impl.Cluster{}, impl.ErrRange
	}
	m := &clusterModel{cloneCluster(c)}
	m.settle(rounds)
	return m.Cluster, impl.OK
}

func (c *clusterModel) settle(rounds int) {
	for ; rounds > 0 && len(c.Wire) > 0; rounds-- {
		c.withMessage(giveAct(0))
	}
}

// wantSettled holds what settles against the model, and asks that nothing of the cluster was changed, and that answers are right and new memory.
func wantSettled(t *testing.T, what string, base impl.Cluster, rounds int) (impl.Cluster, int) {
	t.Helper()
	c, lists := roomyCluster(base)
	was := lists()
	got, code := impl.Settle(c, rounds)
	again, codeAgain := impl.Settle(c, rounds)
	if lists() != was || !sameClusters(c, base) {
		t.Fatalf("%s: Settle of %d writes into %s, or behind its lists", what, rounds, clusterShown(base))
	}
	wantApart(t, what, c, got, again)
	want, wantCode := modelSettle(base, rounds)
	if code != wantCode || codeAgain != wantCode || !sameClusters(got, want) || !sameClusters(again, want) {
		t.Fatalf("%s: Settle of %d and %s:\n%s, %d, not\n%s, %d", what, rounds, clusterShown(base), clusterShown(got), code, clusterShown(want), wantCode)
	}
	if code == impl.OK && !impl.ClusterOK(got) {
		t.Fatalf("%s: Settle of %d and %s: not right is %s", what, rounds, clusterShown(base), clusterShown(got))
	}
	return got, code
}

func TestClustersThatSettleNot(t *testing.T) {
	rounds := append([]int{-1000, -2, -1, 0, 1, 2, 999, 1000, 1001, 1002}, strayNumbers...)
	for _, c := range wrongClusters() {
		for _, n := range rounds {
			if got, code := wantSettled(t, "a cluster that is not right", c, n); code != impl.ErrBad || !sameClusters(got, impl.Cluster{}) {
				t.Errorf("Settle of %d and %s: %s, %d", n, clusterShown(c), clusterShown(got), code)
			}
		}
	}
	for _, c := range someClusters(t) {
		for _, n := range rounds {
			want := impl.OK
			if !inBounds(n, 0, 1000) {
				want = impl.ErrRange
			}
			if _, code := wantSettled(t, "rounds", c, n); code != want {
				t.Errorf("Settle of %d: %d, not %d", n, code, want)
			}
		}
	}
}

// standing is a cluster in which node 0 has just asked all others for their votes.
func standing(nodes int) impl.Cluster {
	m := clusterModel{newCluster(nodes)}
	for range 5 {
		m.withNode(tickAct(0, 0))
	}
	return m.Cluster
}

func TestSettleWrittenOut(t *testing.T) {
	base := standing(3)
	kinds := func(c impl.Cluster) string {
		text := ""
		for _, m := range c.Wire {
			text += fmt.Sprintf("%d%d%d ", m.Kind, m.From, m.To)
		}
		return strings.TrimSpace(text)
	}
	for rounds, want := range []string{"101 102", "102 210", "210 220", "220 301 302", "301 302", "302 410", "410 420", "420", "", "", ""} {
		got, code := wantSettled(t, "an election", base, rounds)
		if code != impl.OK || kinds(got) != want {
			t.Errorf("behind %d rounds: %q, not %q, %d", rounds, kinds(got), want, code)
		}
		if leads := got.Nodes[0].Role == impl.RoLeader; leads != (rounds >= 3) || len(got.Done) != oneIf(rounds >= 7) {
			t.Errorf("behind %d rounds: %s", rounds, clusterShown(got))
		}
	}
	all, _ := impl.Settle(base, 8)
	for _, rounds := range []int{9, 60, 999, 1000} {
		if got, _ := wantSettled(t, "more rounds than there is to give", base, rounds); !sameClusters(got, all) {
			t.Errorf("behind %d rounds: %s", rounds, clusterShown(got))
		}
	}
	// The first message is given each time, not the last one.
	if got, _ := impl.Settle(base, 1); got.Nodes[1].Vote != 0 || got.Nodes[2].Vote != -1 {
		t.Error(clusterShown(got))
	}
}

func TestSettleOfClustersWithoutAMessage(t *testing.T) {
	clusters := []impl.Cluster{newCluster(1), newCluster(2), newCluster(5), withWire(baseCluster()), withWire(withDone(baseCluster(), make([]string, 60)...))}
	for _, c := range clusters {
		for _, rounds := range []int{0, 1, 2, 1000} {
			if got, code := wantSettled(t, "no message", c, rounds); code != impl.OK || !sameClusters(got, c) {
				t.Errorf("Settle of %d and %s: %s, %d", rounds, clusterShown(c), clusterShown(got), code)
			}
		}
	}
}

// Messages to a node that is down are lost, each in a round of its own.
func TestSettleWithNodesThatAreDown(t *testing.T) {
	base := standing(3)
	crashed := func(ids ...int) impl.Cluster {
		m := clusterModel{cloneCluster(base)}
		for _, id := range ids {
			m.withNode(crashAct(id))
		}
		return m.Cluster
	}
	for _, x := range []struct {
		down []int
		left []int
		role int
		done int
	}{
		{[]int{1}, []int{2, 1, 1, 2, 1, 1, 0}, impl.RoLeader, 1}, {[]int{2}, []int{2, 2, 1, 2, 2, 1, 0}, impl.RoLeader, 1}, {[]int{1, 2}, []int{2, 1, 0, 0}, impl.RoCandidate, 0}, {[]int{0}, []int{2, 2, 2, 1, 0}, impl.RoFollower, 0}, {[]int{0, 1, 2}, []int{2, 1, 0}, impl.RoFollower, 0},
	} {
		for rounds, want := range x.left {
			if got, code := wantSettled(t, "down", crashed(x.down...), rounds); code != impl.OK || len(got.Wire) != want {
				t.Errorf("down %v, behind %d rounds %d messages, not %d: %s", x.down, rounds, len(got.Wire), want, clusterShown(got))
			}
		}
		if got, _ := wantSettled(t, "down", crashed(x.down...), 1000); got.Nodes[0].Role != x.role || len(got.Done) != x.done || len(got.Wire) > 0 {
			t.Errorf("down %v: %s", x.down, clusterShown(got))
		}
	}
}

// endless is a cluster, right but such as no run leads to, whose leader asks again and again for what the other one lacks.
func endless() impl.Cluster {
	c := clusterOf(leaderOf(0, 7, "7:a 7:b 7:c 7:d", 3, []int{5, 4}, []int{4, 3}), nodeOf(1, 2, 7, 0, impl.RoFollower, "", 0))
	return withWire(c, appendOf(0, 1, 7, 3, 7, 3, "7:d"))
}

func TestMessagesThatDoNotEnd(t *testing.T) {
	c := endless()
	for rounds := range 1001 {
		if rounds > 20 && rounds < 990 {
			continue
		}
		got, code := wantSettled(t, "without end", c, rounds)
		if want := []int{impl.RmAppend, impl.RmAppended}[rounds%2]; code != impl.OK || len(got.Wire) != 1 || got.Wire[0].Kind != want {
			t.Errorf("behind %d rounds: %s, %d", rounds, clusterShown(got), code)
		}
	}
	for rounds := range 8 {
		got, _ := wantSettled(t, "an end that is not reached", standing(5), rounds)
		if len(got.Wire) == 0 {
			t.Errorf("behind %d rounds: %s", rounds, clusterShown(got))
		}
	}
}

// A message that is told a code is off the wire, and does nothing; those behind it are given.
func TestSettleOfMessagesThatAreToldCodes(t *testing.T) {
	other := appendOf(1, 0, 9, 0, 0, 0, "2:x")
	knowing := changedCluster(func(c *impl.Cluster) { c.Nodes[0].Commit = 3 })
	for name, c := range map[string]impl.Cluster{
		"ErrForm": withWire(knowing, other, voteOf(1, 0, 8, 4, 7), other),
		"ErrFull": withWire(roomFor(t, baseCluster(), 0, 5), appendOf(1, 0, 9, 3, 7, 3, "9:x"), votedOf(1, 0, 7, false), appendOf(1, 0, 9, 3, 7, 3, "9:x")),
		"ErrDown": withWire(baseCluster(), voteOf(0, 2, 9, 0, 0), voteOf(1, 0, 8, 4, 7), voteOf(0, 2, 9, 0, 0)),
	} {
		first, _ := wantSettled(t, name, c, 1)
		if len(first.Wire) != 2 || !sameNodes(first.Nodes[0], c.Nodes[0]) || !slices.Equal(first.Stores, c.Stores) {
			t.Errorf("%s: %s", name, clusterShown(first))
		}
		for rounds := 2; rounds <= 30; rounds++ {
			wantSettled(t, name, c, rounds)
		}
		if all, _ := impl.Settle(c, 1000); len(all.Wire) > 0 {
			t.Errorf("%s: %s", name, clusterShown(all))
		}
	}
}

// So many rounds are as many acts, and as some of them and then the others.
func TestSettleInPieces(t *testing.T) {
	for _, base := range append(someClusters(t), standing(2), standing(4), endless(), withWire(standing(3), slices.Repeat(standing(3).Wire, 30)...)) {
		step := cloneCluster(base)
		for rounds := range 45 {
			got, code := wantSettled(t, "at once", base, rounds)
			if code != impl.OK || !sameClusters(got, step) {
				t.Fatalf("behind %d rounds: %s, %d, not %s", rounds, clusterShown(got), code, clusterShown(step))
			}
			if rounds%9 == 0 {
				rest, _ := wantSettled(t, "in two pieces", got, 11)
				if whole, _ := impl.Settle(base, rounds+11); !sameClusters(rest, whole) {
					t.Fatalf("%d rounds and 11 more: %s, not %s", rounds, clusterShown(rest), clusterShown(whole))
				}
			}
			if len(step.Wire) > 0 {
				step, _ = impl.ClusterStep(step, giveAct(0))
			}
		}
	}
}

// What is written into an answer changes no argument; what is written into an argument later changes no answer.
func TestAnswersOfSettleAreTheirOwn(t *testing.T) {
	for _, base := range append(someClusters(t), standing(3), endless()) {
		for _, rounds := range []int{0, 1, 3, 1000} {
			c := cloneCluster(base)
			got, _ := impl.Settle(c, rounds)
			kept := cloneCluster(got)
			if spoiltWorld(impl.World{Cluster: got}); !sameClusters(c, base) {
				t.Fatalf("Settle of %d shares memory with %s", rounds, clusterShown(base))
			}
			got, _ = impl.Settle(c, rounds)
			if spoiltWorld(impl.World{Cluster: c}); !sameClusters(got, kept) {
				t.Fatalf("Settle of %d keeps memory of %s", rounds, clusterShown(base))
			}
		}
	}
}

// lineShapes tell of each sort of a command's line what its words are.
var lineShapes = map[string]struct {
	kind  int
	words []string
}{
	"window": {1, []string{"name"}},
	"split":  {2, []string{"pane", "way"}},
	"kill":   {3, []string{"pane"}},
	"move":   {4, []string{"pane", "n"}},
	"write":  {5, []string{"pane", "epoch", "data"}},
	"own":    {6, []string{"pane", "n"}},
	"resize": {7, []string{"n", "epoch"}},
	"rename": {8, []string{"name", "data"}},
}

var numberTexts = regexp.MustCompile(`^(0|-?[1-9][0-9]{0,17})$`)

// modelNumber tells whether a word is a number's text, by a pattern.
func modelNumber(word string) (int, bool) {
	n, _ := strconv.Atoi(word)
	return n, numberTexts.MatchString(word)
}

// modelWords cuts at every blank.
func modelWords(line string) []string {
	var words []string
	for _, word := range strings.Split(line, " ") {
		if word != "" {
			words = append(words, word)
		}
	}
	return words
}

func modelReadLine(line string, seq int) (impl.Command, int) {
	if len(line) > 65536 {
		return impl.Command{}, impl.ErrLong
	}
	if !inBounds(seq, 1, 60000) {
		return impl.Command{}, impl.ErrRange
	}
	words := modelWords(line)
	if len(words) == 0 || len(words) != len(lineShapes[words[0]].words)+1 {
		return impl.Command{}, impl.ErrForm
	}
	shape := lineShapes[words[0]]
	c := impl.Command{Kind: shape.kind, Seq: seq}
	numbers := map[string]*int{"pane": &c.Pane, "n": &c.N, "epoch": &c.Epoch}
	for i, part := range shape.words {
		word, ok := words[i+1], true
		switch part {
		case "name":
			c.Name = word
		case "data":
			c.Data = word
		case "way":
			c.Rows, ok = word == "rows", word == "rows" || word == "columns"
		default:
			*numbers[part], ok = modelNumber(word)
		}
		if !ok {
			return impl.Command{}, impl.ErrForm
		}
	}
	if !modelCommandOK(c) {
		return impl.Command{}, impl.ErrForm
	}
	return c, impl.OK
}

// wantLine holds what is read of a line against the model, and answers whether it is a command's.
func wantLine(t *testing.T, line string, seq int) bool {
	t.Helper()
	want, wantCode := modelReadLine(line, seq)
	for range 2 {
		if got, code := impl.ReadLine(line, seq); got != want || code != wantCode {
			t.Fatalf("ReadLine(%.300q of %d bytes, %d) = %.300s, %d, not %.300s, %d", line, len(line), seq, fmt.Sprintf("%+v", got), code, fmt.Sprintf("%+v", want), wantCode)
		}
	}
	return wantCode == impl.OK
}

// wantCommand is for lines that are written out by hand; without a Kind the line is none.
func wantLineRead(t *testing.T, line string, want impl.Command) {
	t.Helper()
	wantCode := impl.ErrForm
	if want.Kind != 0 {
		want.Seq, wantCode = 7, impl.OK
	}
	if got, code := impl.ReadLine(line, 7); got != want || code != wantCode {
		t.Errorf("ReadLine(%.300q) = %+v, %d, not %+v, %d", line, got, code, want, wantCode)
	}
	wantLine(t, line, 7)
}

func TestLinesOfCommandsWrittenOut(t *testing.T) {
	for line, want := range map[string]impl.Command{
		"window main": windowCommand("main"), "window _": windowCommand("_"), "window rows": windowCommand("rows"), "window window": windowCommand("window"), "window twelve_bytes": windowCommand("twelve_bytes"),
		"split 1 rows": splitCommand(1, true), "split 1 columns": splitCommand(1, false), "split 1000 columns": splitCommand(1000, false), "kill 1": killCommand(1), "kill 1000": killCommand(1000),
		"move 1 0": moveCommand(1, 0), "move 7 100": moveCommand(7, 100), "move 7 -100": moveCommand(7, -100), "move 1000 -1": moveCommand(1000, -1),
		"write 1 1 x": outputCommand(1, 1, "x"), "write 1000 60000 #": outputCommand(1000, 60000, "#"), "write 2 3 -4": outputCommand(2, 3, "-4"), "write 1 1 " + strings.Repeat("\xff", 200): outputCommand(1, 1, strings.Repeat("\xff", 200)), "write 1 1 a\tb\r\x00\x1b[1m\u00a0": outputCommand(1, 1, "a\tb\r\x00\x1b[1m\u00a0"),
		"own 1 0": ownCommand(1, 0), "own 1000 200": ownCommand(1000, 200), "resize 2 2": resizeCommand(2, 2), "resize 24 10": resizeCommand(24, 10), "rename a b": renameCommand("a", "b"), "rename a a": renameCommand("a", "a"), "rename rename rename": renameCommand("rename", "rename"),
		"  window   main ": windowCommand("main"), "                   kill                1                ": killCommand(1),
	} {
		wantLineRead(t, line, want)
	}
	for _, line := range []string{
		"window 9", "window a-b", "window thirteenbytes", "window \u00e4", "window #", "window a b", "window", "split 0 rows", "split 1001 rows", "split -1 rows", "split 1 up", "split 1 row", "split 1 Rows", "split 1 ROWS", "split 1 Columns", "split 1 COLUMNS", "split 1 columnS", "split 1 column", "split 1 0", "split rows 1", "split 1", "split rows", "split 1 rows columns",
		"kill 0", "kill 1001", "kill a", "kill", "kill 1 1", "move 1 101", "move 1 -101", "move 0 1", "move 1001 1", "move 1", "move 1 1 1", "move 1 a", "move a 1", "write 1 1", "write 1 1 a b", "write 0 1 a", "write 1001 1 a", "write 1 0 a", "write 1 60001 a", "write 1 -1 a", "write 1 a 1", "write a 1 1", "write 1 1 " + strings.Repeat("a", 201),
		"own 1 201", "own 1 -1", "own 0 1", "own 1001 1", "own 1", "own 1 1 1", "own 1 a", "resize 1 2", "resize 2 1", "resize 25 10", "resize 24 11", "resize 10 24", "resize 0 0", "resize 12", "resize 12 6 1", "resize a 6", "rename a", "rename a b c", "rename 9 b", "rename a 9", "rename thirteenbytes b", "rename a thirteenbytes",
		"lead 1", "crash 1", "start 1", "show main", "", " ", "     ", "#", "# window main", " #", "#window main", "go", "windows main", "windo main", "Window main", "WINDOW main", "1 split rows", "main window", "\twindow main", "window\tmain", "window main\t", "window main\r", "window main\n", "window\nmain", "window\u00a0main", "window main\x00", "\x00window main", "\ufeffwindow main", "kill 1\u00a0", "kill\v1", "kill 1\u0085",
	} {
		wantLineRead(t, line, impl.Command{})
	}
}

// wordsOfNumbers are number's texts, and such as are none.
func wordsOfNumbers() []string {
	list := []string{"0", "1", "2", "3", "5", "6", "9", "10", "11", "12", "24", "25", "100", "101", "200", "201", "1000", "1001", "59999", "60000", "60001", "-1", "-99", "-100", "-101", "999999999999999999", "-999999999999999999"}
	list = append(list, "00", "01", "007", "-0", "-01", "-00", "+0", "+1", "--1", "-", "+", "1-", "1.", "1.0", ".1", "1e1", "0x1", "0b1", "1_0", "_1", "1,", "x", "1x", "x1", "rows", "one", "\u0661", "\uff11", "\u22121", "1\x00", "\x001", "1\t", "\t1", "1\r", "1\n", "\n1", "1\xff")
	for _, n := range []int{17, 18, 19, 20, 40, 300} {
		list = append(list, strings.Repeat("1", n), strings.Repeat("9", n), strings.Repeat("0", n), "0"+strings.Repeat("9", n-1), "1"+strings.Repeat("0", n-1), "-1"+strings.Repeat("0", n-1), strings.Repeat("0", n-1)+"1")
	}
	return append(list, "9223372036854775807", "9223372036854775808", "-9223372036854775808", "18446744073709551617", "4294967297", "65537")
}

// Every number of every sort, each with every word.
func TestNumbersOfLines(t *testing.T) {
	whole := map[string]string{"window": "window a", "split": "split 1 rows", "kill": "kill 1", "move": "move 1 1", "write": "write 1 1 1", "own": "own 1 1", "resize": "resize 12 6", "rename": "rename a b"}
	read := map[string]int{}
	for name, line := range whole {
		for place := range strings.Fields(line) {
			for _, word := range wordsOfNumbers() {
				words := strings.Fields(line)
				words[place] = word
				read[name] += oneIf(wantLine(t, strings.Join(words, " "), 9))
			}
		}
	}
	for name, want := range map[string]int{"window": 4, "split": 15, "kill": 15, "move": 32, "write": 100, "own": 31, "resize": 15, "rename": 8} {
		if read[name] < want {
			t.Errorf("read of %s: %d", name, read[name])
		}
	}
}

// Each sort with every count of words, and words of every other sort.
func TestWordsOfLines(t *testing.T) {
	firsts := []string{"window", "split", "kill", "move", "write", "own", "resize", "rename", "lead", "crash", "start", "show", "#", "go", "wind", "windows", "killkill", "Kill", "KILL", "kilL", "move1", "1", "main", "rows"}
	tails := []string{"", "1", "main", "rows", "2 2", "1 rows", "rows 1", "1 columns", "main logs", "1 1 x", "main logs x", "1 rows x", "2 2 2", "1 1 x y", "1 1 1 1", "# x", "1 #", "1 1 #", "main # x"}
	for _, first := range firsts {
		for _, tail := range tails {
			for _, gap := range []string{" ", "  ", "       "} {
				line := strings.ReplaceAll(first+" "+tail, " ", gap)
				for _, text := range []string{line, gap + line, line + gap, gap + line + gap, strings.TrimRight(line, " ")} {
					wantLine(t, text, 60000)
				}
			}
			for _, space := range []string{"\t", "\r", "\n", "\v", "\f", "\x00", "\u00a0", "\u0085", "\u2003", "\u3000", "\ufeff", "\xff", "\xc2"} {
				line := first + " " + tail
				wantLine(t, strings.Replace(line, " ", space, 1), 1)
				wantLine(t, strings.ReplaceAll(line, " ", space), 1)
				wantLine(t, space+line, 1)
				wantLine(t, line+space, 1)
				wantLine(t, line+" "+space, 1)
			}
		}
	}
}

// lineOf is a command's line, whether the command is right or not.
func lineOf(c impl.Command) string {
	for name, shape := range lineShapes {
		if shape.kind != c.Kind {
			continue
		}
		line := name
		for _, part := range shape.words {
			line += " " + map[string]string{"pane": fmt.Sprint(c.Pane), "n": fmt.Sprint(c.N), "epoch": fmt.Sprint(c.Epoch), "way": map[bool]string{true: "rows", false: "columns"}[c.Rows], "name": c.Name, "data": c.Data}[part]
		}
		return line
	}
	return "none"
}

// The line of each right command leads to it; a line of any other one to just what the model reads.
func TestLinesAndCommandsAreAlike(t *testing.T) {
	for _, c := range rightCommands() {
		if got, code := impl.ReadLine(lineOf(c), c.Seq); got != from(0, c) || code != impl.OK {
			t.Errorf("ReadLine(%.99q) = %+v, %d", lineOf(c), got, code)
		}
		for _, other := range otherCommands(c) {
			wantLine(t, lineOf(other), 1+len(other.Data)%60000)
		}
	}
}

func TestSeqsOfLines(t *testing.T) {
	lines := []string{"", "go", "# x", "lead 0", "window", "kill 1001", strings.Repeat(" ", impl.MaxText)}
	for _, c := range rightCommands() {
		lines = append(lines, lineOf(c))
	}
	for i, line := range lines {
		for _, seq := range append([]int{-60000, -1, 0, 1, 2, 60, 61, 59999, 60000, 60001, 60002}, strayNumbers...) {
			want := impl.OK
			if i < 7 {
				want = impl.ErrForm
			}
			if !inBounds(seq, 1, 60000) {
				want = impl.ErrRange
			}
			c, code := impl.ReadLine(line, seq)
			if code != want || code == impl.OK && (c.Seq != seq || c.Client != 0) || code != impl.OK && c != (impl.Command{}) {
				t.Errorf("ReadLine(%.99q, %d) = %+v, %d, not %d", line, seq, c, code, want)
			}
			wantLine(t, line, seq)
		}
	}
}

func TestLongLines(t *testing.T) {
	for _, line := range []string{"kill 1", "window main", "go", "#", ""} {
		for _, more := range []int{-1, 0, 1, 2, 70000} {
			gap := strings.Repeat(" ", max(impl.MaxText+more-len(line), 0))
			for _, text := range []string{line + gap, gap + line, strings.Replace(line, " ", gap+" ", 1)} {
				for _, seq := range []int{0, 7, 60001} {
					wantLine(t, text, seq)
				}
			}
			if _, code := impl.ReadLine(line+gap, 0); code == impl.ErrLong != (more > 0) {
				t.Errorf("ReadLine of %d bytes: %d", len(line+gap), code)
			}
		}
	}
	if c, code := impl.ReadLine("kill 1"+strings.Repeat(" ", impl.MaxText-6), 7); code != impl.OK || c != at(7, killCommand(1)) {
		t.Error("ReadLine of MaxText bytes:", c, code)
	}
}

// consoleModel does the document's sentences of lines on the model of a cluster.
type consoleModel struct{ clusterModel }

// modelLines goes over the bytes.
func modelLines(text string) []string {
	var lines []string
	begin := 0
	for i := range len(text) {
		if text[i] == 10 {
			lines = append(lines, text[begin:i])
			begin = i + 1
		}
	}
	if begin < len(text) {
		lines = append(lines, text[begin:])
	}
	return lines
}

func modelConsole(text string) (string, int) {
	if len(text) > 65536 {
		return "", impl.ErrLong
	}
	if strings.Count(text, "\n") > 60 {
		return "", impl.ErrMany
	}
	lines := modelLines(text)
	if len(lines) > 60 {
		return "", impl.ErrMany
	}
	said := ""
	for _, answer := range modelAnswers(lines) {
		if answer != "" {
			said += answer + "\n"
		}
	}
	return said, impl.OK
}

// modelAnswers tells of each line what is said to it, an empty text of one to which nothing is.
func modelAnswers(lines []string) []string {
	m := &consoleModel{clusterModel{newCluster(3)}}
	var answers []string
	for i, line := range lines {
		answer := ""
		if words := modelWords(line); len(words) > 0 && words[0][0] != '#' {
			answer = m.answer(line, i+1)
		}
		answers = append(answers, answer)
	}
	return answers
}

func modelError(code int) string { return "error " + impl.CodeWord(code) }

func (m *consoleModel) answer(line string, seq int) string {
	words := append(modelWords(line), "", "")
	n, isNumber := modelNumber(words[1])
	two := words[1] != "" && words[2] == ""
	switch first := words[0]; {
	case first == "lead" && two && isNumber && n >= 0 && n <= 2:
		return m.lead(n)
	case first == "crash" && two && isNumber:
		return m.told(m.withNode(crashAct(n)))
	case first == "start" && two && isNumber:
		return m.told(m.withNode(startAct(n)))
	case first == "show" && two:
		return m.show(words[1])
	}
	c, code := modelReadLine(line, seq)
	if code != impl.OK {
		return modelError(code)
	}
	return m.propose(c)
}

func (m *consoleModel) told(code int) string {
	if code != impl.OK {
		return modelError(code)
	}
	return "ok"
}

func (m *consoleModel) leader() int {
	leader := -1
	for id, n := range m.Nodes {
		if n.Role == impl.RoLeader && (leader < 0 || n.Term > m.Nodes[leader].Term) {
			leader = id
		}
	}
	return leader
}

func (m *consoleModel) lead(n int) string {
	for tick := 1; tick <= 13; tick++ {
		if code := m.withNode(tickAct(n, 0)); code != impl.OK {
			return modelError(code)
		}
		if m.Nodes[n].Role != impl.RoFollower {
			break
		}
	}
	m.settle(1000)
	return fmt.Sprint("leader ", m.leader())
}

func (m *consoleModel) propose(c impl.Command) string {
	leader, before := m.leader(), len(m.Done)
	if leader < 0 {
		return "error leader"
	}
	if code := m.withNode(proposeAct(leader, string(modelCommandBytes(c)))); code != impl.OK {
		return modelError(code)
	}
	m.settle(1000)
	m.withNode(tickAct(leader, 0))
	m.withNode(tickAct(leader, 0))
	m.settle(1000)
	if len(m.Done) == before {
		return "no answer"
	}
	_, replies := modelFold(emptyMux(12, 6), counted(m.Done))
	last := replies[len(replies)-1]
	if last.Code != impl.OK {
		return modelError(last.Code)
	}
	return fmt.Sprint("ok ", last.Number)
}

func (m *consoleModel) show(name string) string {
	mux, rows := modelPicture(12, 6, counted(m.Done), name)
	if rows == nil {
		return "error none"
	}
	at := slices.IndexFunc(mux.Windows, func(window impl.Window) bool { return window.Name == name })
	text := modelLayoutText(mux.Windows[at].Layout)
	for _, row := range modelRowTexts(rows) {
		text += "\n|" + row
	}
	return text
}

// wantConsole holds what a console says against the model, once and again.
func wantConsole(t *testing.T, text string) (string, int) {
	t.Helper()
	want, wantCode := modelConsole(text)
	for range 2 {
		if got, code := impl.Console(text); got != want || code != wantCode {
			t.Fatalf("Console(%.3000q of %d bytes) says\n%s\n%d, not\n%s\n%d", text, len(text), got, code, want, wantCode)
		}
	}
	return want, wantCode
}

// wantBeginnings asks that what is said to the first of the lines, with and without a byte 10 at the end, is the beginning of what is said to all, whatever stands behind them.
func wantBeginnings(t *testing.T, text string) {
	t.Helper()
	whole, _ := wantConsole(t, text)
	lines := modelLines(text)
	others := []string{"", " ", "#\n", "go\n\n", "crash 0\ncrash 1\ncrash 2\n", "lead 2\nwindow other\nkill 1\nshow main"}
	before := ""
	for count := range len(lines) + 1 {
		first := strings.Join(lines[:count], "\n")
		said, code := impl.Console(first)
		if code != impl.OK || !strings.HasPrefix(whole, said) || !strings.HasPrefix(said, before) {
			t.Fatalf("to the first %d lines of %q: %q, %d, not the beginning of\n%s", count, text, said, code, whole)
		}
		if ended, code := impl.Console(first + "\n"); code != impl.OK || ended != said {
			t.Fatalf("to the first %d lines of %q, with a byte 10 behind: %q, %d, not %q", count, text, ended, code, said)
		}
		before = said
		other := others[count%len(others)]
		if more, code := impl.Console(first + "\n" + other); code != impl.ErrMany && (code != impl.OK || !strings.HasPrefix(more, said)) || code == impl.ErrMany && (more != "" || count+strings.Count(other, "\n") < 56) {
			t.Fatalf("to the first %d lines of %q, with %q behind: %q, %d, not %q first", count, text, other, more, code, said)
		}
	}
	if before != whole {
		t.Fatalf("to all lines of %q: %q, not %q", text, before, whole)
	}
}

// wantSaid is for lines that are written out, each with what is said to it; nothing is said to one with an empty text.
func wantSaid(t *testing.T, what string, pairs ...string) {
	t.Helper()
	text, want := "", ""
	for i := 0; i < len(pairs); i += 2 {
		text += pairs[i] + "\n"
		if pairs[i+1] != "" {
			want += pairs[i+1] + "\n"
		}
	}
	if got, code := impl.Console(text); code != impl.OK || got != want {
		t.Errorf("%s: Console(%q) = %d,\n%s\nnot\n%s", what, text, code, got, want)
	}
	wantBeginnings(t, text)
}

func TestTextsOfLines(t *testing.T) {
	for text, want := range map[string]string{
		"": "", "\n": "", "\n\n": "", "\n\n\n": "", " ": "", " \n": "", "   \n \n\n  ": "", "#": "", "#\n": "", "# lead 0": "", "#lead 0\n": "", "##": "", "  # lead 0\n": "", "   #lead 0": "", "#\n#\n": "", "# # #": "", "#\x00\xff\n": "",
		"go": "error form\n", "go\n": "error form\n", "go\n\n": "error form\n", "\ngo": "error form\n", "\n\ngo\n\n": "error form\n", "go\ngo": "error form\nerror form\n", "go\n\ngo": "error form\nerror form\n", "go\n#\ngo\n": "error form\nerror form\n", "go\n ": "error form\n", "go\n#": "error form\n",
		"lead 0": "leader 0\n", "lead 0\n": "leader 0\n", "  lead   0  ": "leader 0\n", "lead 0 \n": "leader 0\n", " lead 0": "leader 0\n", "lead 0\n\nlead 1": "leader 0\nleader 1\n", "lead 0 # x": "error form\n", "lead # 0": "error form\n", "lead #": "error form\n", "x#": "error form\n", "x # y": "error form\n",
		"\t": "error form\n", "\r": "error form\n", "\x00": "error form\n", "\xff": "error form\n", "\u00a0": "error form\n", "\u3000": "error form\n", "\v\f": "error form\n", "\t#": "error form\n", "\r\n": "error form\n", "#\r\n\r\n": "error form\n", "\t# x\n": "error form\n", "\ufeff# x": "error form\n",
		"lead 0\r\n": "error form\n", "lead\t0": "error form\n", "\tlead 0": "error form\n", "lead 0\t": "error form\n", "lead \t0": "error form\n", "lead\u00a00": "error form\n", "lead 0\x00": "error form\n", "lead 0\u0085": "error form\n", "\\n": "error form\n", "\\#": "error form\n", "'#'": "error form\n",
	} {
		if got, code := impl.Console(text); got != want || code != impl.OK {
			t.Errorf("Console(%q) = %q, %d, not %q", text, got, code, want)
		}
		wantBeginnings(t, text)
	}
}

// Every byte by itself, ahead of a line, behind it and within it.
func TestEveryByteOfLines(t *testing.T) {
	for b := range 256 {
		text := string([]byte{byte(b)})
		want := "error form\n"
		if b == 10 || b == 32 || b == '#' {
			want = ""
		}
		if got, code := impl.Console(text); got != want || code != impl.OK {
			t.Errorf("Console(%q) = %q, %d, not %q", text, got, code, want)
		}
		wantConsole(t, "lead"+text+"0\n"+text+"lead 1\nlead 2"+text+"\n"+text+"#\nlead 1")
		want = "error form"
		switch b {
		case 10:
			want = "error form\nerror form"
		case 32:
			want = "leader 0"
		}
		if got, code := impl.Console("lead" + text + "0"); got != want+"\n" || code != impl.OK {
			t.Errorf("Console(%q) = %q, %d, not %q", "lead"+text+"0", got, code, want)
		}
		wantConsole(t, "lead 0\nwindow a\nwrite 1 1 x"+text+"y\nshow a\nwindow b"+text+"\nshow b\nshow b"+text)
	}
}

func TestHowManyLinesThereAre(t *testing.T) {
	many := func(line string, count int) string { return strings.Repeat(line+"\n", count) }
	for _, x := range []struct {
		text string
		code int
	}{
		{many("", 60), 0}, {many("", 61), impl.ErrMany}, {many("", 60) + " ", impl.ErrMany}, {many("", 60) + "#", impl.ErrMany}, {many("", 59) + "go", 0}, {many("#", 60), 0}, {many("#", 61), impl.ErrMany}, {many(" ", 60), 0}, {many(" ", 61), impl.ErrMany}, {many("#", 60) + "go", impl.ErrMany}, {many("#", 60) + "\n", impl.ErrMany},
		{many("go", 60), 0}, {many("go", 59) + "go", 0}, {many("go", 60) + "go", impl.ErrMany}, {many("go", 61), impl.ErrMany}, {many("lead 0", 60), 0}, {many("lead 0", 61), impl.ErrMany}, {many("", 1000), impl.ErrMany}, {many("", 4097), impl.ErrMany}, {many("", impl.MaxText), impl.ErrMany}, {many("", impl.MaxText+1), impl.ErrLong},
		{many("#", 30) + many("", 15) + many("go", 15), 0}, {many("#", 30) + many("", 15) + many("go", 16), impl.ErrMany}, {many("go", 1) + many("", 60), impl.ErrMany}, {many("go", 1) + many("", 59), 0},
		{strings.Repeat(" ", impl.MaxText), 0}, {strings.Repeat(" ", impl.MaxText+1), impl.ErrLong}, {strings.Repeat("x", impl.MaxText), 0}, {strings.Repeat("#", impl.MaxText+1), impl.ErrLong}, {many("", 61) + strings.Repeat(" ", impl.MaxText), impl.ErrLong}, {many("", 61) + strings.Repeat(" ", impl.MaxText-61), impl.ErrMany}, {many("", 60) + strings.Repeat(" ", impl.MaxText-60), impl.ErrMany}, {many("", 59) + strings.Repeat(" ", impl.MaxText-59), 0},
	} {
		said, code := wantConsole(t, x.text)
		if code != x.code || code != impl.OK && said != "" {
			t.Errorf("Console of %d lines and %d bytes, %.40q: %.40q, %d, not %d", strings.Count(x.text, "\n"), len(x.text), x.text, said, code, x.code)
		}
	}
	if said, code := impl.Console("lead 0\nwindow main\nwrite 1 1 x" + strings.Repeat(" ", 60000) + "\n" + many("#", 56) + "show main"); code != impl.OK || said != "leader 0\nok 1\nok 0\n1\n|x\n|\n|\n|\n|\n|\n" {
		t.Errorf("%q, %d", said, code)
	}
}

func TestLeadWrittenOut(t *testing.T) {
	for id := range 3 {
		other := (id + 1) % 3
		wantSaid(t, "each of the nodes", fmt.Sprint("lead ", id), fmt.Sprint("leader ", id), fmt.Sprint("lead ", id), fmt.Sprint("leader ", id), fmt.Sprint("lead ", other), fmt.Sprint("leader ", other), fmt.Sprint("lead ", id), fmt.Sprint("leader ", id), "window main", "ok 1")
	}
	var pairs []string
	for _, line := range []string{"lead 3", "lead -1", "lead 00", "lead +0", "lead -0", "lead 01", "lead 0x0", "lead 4096", "lead 999999999999999999", "lead 9999999999999999999", "lead 18446744073709551616", "lead", "lead ", "lead 0 0", "lead 0 1", "lead x", "lead leader", "Lead 0", "LEAD 0", "leads 0", "lea 0", "leader 0", "0 lead", "lead0", "show", "Show main"} {
		pairs = append(pairs, line, "error form")
	}
	wantSaid(t, "none of them", append(pairs, "window main", "error leader", "lead 0", "leader 0")...)
	wantSaid(t, "nodes that are down", "lead 1", "leader 1", "crash 1", "ok", "lead 1", "error down", "window main", "error leader", "lead 2", "leader 2", "start 1", "ok", "lead 1", "leader 2", "crash 0", "ok", "crash 2", "ok", "lead 0", "error down", "lead 2", "error down", "lead 1", "leader -1", "crash 1", "ok", "lead 1", "error down", "window main", "error leader")
	wantSaid(t, "one that stands alone", "crash 0", "ok", "crash 2", "ok", "lead 1", "leader -1", "window main", "error leader", "start 2", "ok",
		"lead 1", "leader -1", "lead 1", "leader -1", "lead 1", "leader -1", "lead 1", "leader -1", "lead 1", "leader 1", "window main", "ok 1")
	wantSaid(t, "one that lacks what is committed", "lead 0", "leader 0", "crash 2", "ok", "window main", "ok 1", "start 2", "ok", "lead 2", "leader -1", "window logs", "error leader", "lead 1", "leader 1", "window logs", "ok 2", "lead 2", "leader 2", "show main", "1\n|\n|\n|\n|\n|\n|", "split 2 rows", "ok 3")
	wantSaid(t, "one that knows of a later Term", "crash 0", "ok", "crash 1", "ok", "lead 2", "leader -1", "lead 2", "leader -1", "lead 2", "leader -1", "lead 2", "leader -1", "lead 2", "leader -1", "lead 2", "leader -1", "crash 2", "ok", "start 0", "ok", "start 1", "ok", "lead 0", "leader 0", "start 2", "ok", "lead 0", "leader 0", "window main", "ok 1", "window logs", "error leader", "lead 2", "leader -1", "lead 1", "leader 1", "window logs", "ok 2")
}

func TestCrashAndStartWrittenOut(t *testing.T) {
	wantSaid(t, "up and down", "crash 0", "ok", "crash 0", "error down", "start 0", "ok", "start 0", "error twice", "start 1", "error twice", "crash 2", "ok", "crash 1", "ok", "start 2", "ok", "crash 2", "ok", "start 1", "ok", "start 2", "ok", "start 2", "error twice")
	var pairs []string
	for _, word := range []string{"crash", "start"} {
		for _, number := range []string{"3", "-1", "4", "5", "100", "-3", "4096", "999999999999999999", "-999999999999999999"} {
			pairs = append(pairs, word+" "+number, "error range")
		}
		for _, tail := range []string{"", " 00", " -0", " +1", " 01", " x", " 0x1", " 1000000000000000000", " 1 1", " 1 x", " node"} {
			pairs = append(pairs, word+tail, "error form")
		}
		pairs = append(pairs, strings.ToUpper(word)+" 0", "error form", word+"0", "error form", word+"ed 0", "error form")
	}
	wantSaid(t, "none of them", append(pairs, "lead 0", "leader 0")...)
	wantSaid(t, "what is committed lasts", "lead 0", "leader 0", "window main", "ok 1", "write 1 1 one", "ok 0", "crash 0", "ok", "crash 1", "ok", "crash 2", "ok", "show main", "1\n|one\n|\n|\n|\n|\n|", "start 1", "ok", "start 2", "ok", "lead 1", "leader 1", "write 1 1 two", "ok 0", "start 0", "ok", "lead 0", "leader 1", "lead 2", "leader 2", "write 1 1 three", "ok 0", "lead 0", "leader 0", "show main", "1\n|onetwothree\n|\n|\n|\n|\n|", "window main", "error twice")
}

// Each line of a command with each of the codes that a reply may have there.
func TestCommandsOnTheConsoleWrittenOut(t *testing.T) {
	wantSaid(t, "windows and splits", "lead 0", "leader 0", "window a", "ok 1", "window a", "error twice", "window b", "ok 2", "window c", "ok 3", "window d", "error full", "window a", "error twice", "split 9 rows", "error none", "split 4 rows", "error none", "split 1 columns", "ok 4", "split 1 columns", "ok 5", "split 1 columns", "error small", "split 4 columns", "ok 6", "split 1 rows", "ok 7", "split 1 rows", "error small", "split 4 rows", "ok 8", "split 5 rows", "error full", "split 2 rows", "ok 9",
		"show a", "(((1-3-7)|3|5)|6|((4-3-8)|3|6))\n|\n|\n|\n|\n|\n|", "show b", "(2-3-9)\n|\n|\n|\n|\n|\n|", "show c", "3\n|\n|\n|\n|\n|\n|")
	wantSaid(t, "kills and moves", "lead 1", "leader 1", "window a", "ok 1", "split 1 columns", "ok 2", "split 2 rows", "ok 3", "move 1 -2", "ok 0", "move 3 1", "ok 0", "move 3 100", "ok 0", "show a", "(1|4|(2-4-3))\n|\n|\n|\n|\n|\n|", "move 9 1", "error none", "kill 9", "error none", "kill 2", "ok 0", "kill 2", "error none", "move 2 1", "error none", "show a", "(1|4|3)\n|\n|\n|\n|\n|\n|", "kill 1", "ok 0", "move 3 1", "error last", "move 3 -100", "error last", "kill 3", "ok 0", "show a", "error none", "kill 3", "error none", "move 3 1", "error none", "window a", "ok 4", "show a", "4\n|\n|\n|\n|\n|\n|")
	wantSaid(t, "owners and epochs", "lead 2", "leader 2", "window a", "ok 1", "write 1 1 one", "ok 0", "write 1 2 x", "error stale", "write 2 1 x", "error none", "own 2 0", "error none", "own 1 7", "ok 2", "write 1 1 x", "error stale", "write 1 2 x", "error stale", "own 1 0", "ok 3", "write 1 2 x", "error stale", "write 1 4 x", "error stale", "write 1 3 two", "ok 0", "own 1 0", "ok 4", "own 1 200", "ok 5", "show a", "1\n|onetwo\n|\n|\n|\n|\n|")
	wantSaid(t, "sizes and names", "lead 0", "leader 0", "resize 4 4", "ok 0", "window a", "ok 1", "split 1 rows", "ok 2", "resize 4 3", "error small", "resize 2 4", "ok 0", "write 1 1 xyz", "ok 0", "show a", "(1-2-2)\n|xy\n|z\n|\n|", "resize 24 10", "ok 0", "show a", "(1-2-2)\n|xy\n|z\n|\n|\n|\n|\n|\n|\n|\n|", "rename a b", "ok 0", "show a", "error none", "rename a b", "error none", "rename b b", "error twice", "rename x x", "error none", "window a", "ok 3", "rename a b", "error twice", "rename b twelve_bytes", "ok 0", "show twelve_bytes", "(1-2-2)\n|xy\n|z\n|\n|\n|\n|\n|\n|\n|\n|")
	var pairs []string
	for _, line := range []string{"window 9", "window a b", "split 1 up", "split 0 rows", "kill 1001", "kill", "move 1 101", "move 1 1 1", "write 1 0 x", "write 1 1", "write 1 1 a b", "own 1 201", "own 1 -1", "resize 1 6", "resize 12 11", "rename a 9", "rename a", "Window a", "WRITE 1 1 x", "writes 1 1 x", "write 01 1 x", "write 1 +1 x", "kill 1000000000000000000"} {
		pairs = append(pairs, line, "error form")
	}
	wantSaid(t, "none, without a leader", pairs...)
	wantSaid(t, "none, with one", append([]string{"lead 0", "leader 0", "window a", "ok 1"}, pairs...)...)
	pairs = nil
	for _, line := range []string{"window a", "split 1 rows", "split 1000 columns", "kill 1", "move 1 100", "write 1 1 x", "own 1 0", "resize 12 6", "rename a b"} {
		pairs = append(pairs, line, "error leader")
	}
	wantSaid(t, "without a leader", pairs...)
	wantSaid(t, "whose leader is down", append([]string{"lead 0", "leader 0", "window a", "ok 1", "crash 0", "ok"}, pairs...)...)
	wantSaid(t, "whose leader was down", slices.Concat([]string{"lead 0", "leader 0", "crash 0", "ok", "start 0", "ok"}, pairs, []string{"lead 0", "leader 0", "window a", "ok 1"})...)
}

// What too few nodes hear of has no answer; it is committed with the next line that has one, or gives way to what another leader is told.
func TestLinesWithoutAnAnswer(t *testing.T) {
	alone := []string{"lead 0", "leader 0", "crash 1", "ok", "crash 2", "ok", "window main", "no answer", "write 1 1 x", "no answer", "kill 9", "no answer", "show main", "error none"}
	wantSaid(t, "committed later", append(slices.Clone(alone), "start 2", "ok", "show main", "error none", "window main", "error twice", "show main", "1\n|x\n|\n|\n|\n|\n|", "crash 2", "ok", "write 1 1 y", "no answer", "show main", "1\n|x\n|\n|\n|\n|\n|", "start 1", "ok", "split 1 columns", "ok 2", "show main", "(1|6|2)\n|xy\n|\n|\n|\n|\n|")...)
	wantSaid(t, "committed by a beat of the heart", append(slices.Clone(alone), "start 1", "ok", "lead 0", "leader 0", "lead 0", "leader 0", "show main", "1\n|x\n|\n|\n|\n|\n|")...)
	wantSaid(t, "that gives way", append(slices.Clone(alone), "crash 0", "ok", "start 1", "ok", "start 2", "ok", "lead 1", "leader 1", "window kept", "ok 1", "start 0", "ok", "split 1 rows", "ok 2", "lead 0", "leader 0", "show main", "error none", "show kept", "(1-3-2)\n|\n|\n|\n|\n|\n|")...)
	wantSaid(t, "that the next leader has", append(slices.Clone(alone), "crash 0", "ok", "start 0", "ok", "start 1", "ok", "lead 0", "leader 0", "show main", "1\n|x\n|\n|\n|\n|\n|", "lead 1", "leader 1", "write 1 1 z", "ok 0", "show main", "1\n|xz\n|\n|\n|\n|\n|")...)
}

func TestShowWrittenOut(t *testing.T) {
	wantSaid(t, "each of what windows show", "show main", "error none", "lead 0", "leader 0", "show main", "error none", "window main", "ok 1", "show main", "1\n|\n|\n|\n|\n|\n|", "show Main", "error none", "show mai", "error none", "show main main", "error form", "show", "error form",
		"split 1 columns", "ok 2", "split 2 rows", "ok 3", "write 1 1 a\x1b[2;5Hb\x1b[6;6Hc", "ok 0", "write 2 1 \u00e4\u20ac\U0001f600\xff", "ok 0", "write 3 1 \x1b[7m\x1b[3;1H.", "ok 0", "show main", "(1|6|(2-3-3))\n|a     \u00e4\u20ac\U0001f600\ufffd\n|    b\n|\n|\n|\n|     c.",
		"window logs", "ok 4", "write 4 1 0123456789abcdef\x1bE\x1b[1C|", "ok 0", "show logs", "4\n|0123456789ab\n|cdef\n| |\n|\n|\n|", "rename main logs", "error twice", "rename main other", "ok 0", "show main", "error none", "show other", "(1|6|(2-3-3))\n|a     \u00e4\u20ac\U0001f600\ufffd\n|    b\n|\n|\n|\n|     c.", "show logs", "4\n|0123456789ab\n|cdef\n| |\n|\n|\n|",
		"kill 1", "ok 0", "show other", "(2-3-3)\n|\u00e4\u20ac\U0001f600\ufffd\n|\n|\n|\n|\n|.", "resize 3 5", "ok 0", "show other", "(2-3-3)\n|\u00e4\u20ac\U0001f600\n|\n|\n|\n|", "show logs", "4\n|012\n|cde\n| |\n|\n|", "kill 2", "ok 0", "kill 3", "ok 0", "show other", "error none", "show 9", "error none", "show #", "error none", "show \x00", "error none", "show "+strings.Repeat("a", 41), "error none", "show a-b", "error none")
	wantSaid(t, "a bold blank, and looks", "lead 1", "leader 1", "window a", "ok 1", "write 1 1 \x1b[1mbold\x1b[0m\x1b[3;2Hx\x1b[1K", "ok 0", "show a", "1\n|bold\n|\n|\n|\n|\n|", "write 1 1 \x1b]title\a\x1b[H\x1b[2J", "ok 0", "show a", "1\n|\n|\n|\n|\n|\n|")
}

// Lines that say nothing count as places, but what is said to the others does not change.
func TestLinesThatSayNothingAmongOthers(t *testing.T) {
	lines := []string{"lead 0", "window main", "write 1 1 a", "write 1 1 b", "split 1 rows", "show main", "kill 2", "lead 1", "write 1 1 c", "show main"}
	want, _ := impl.Console(strings.Join(lines, "\n"))
	for _, none := range []string{"", " ", "#", "   # window x", "#lead 2\n"} {
		for count := 1; count <= 2; count++ {
			gap := strings.Repeat(none+"\n", count)
			text := gap + strings.Join(lines, "\n"+gap) + "\n" + gap
			if got, code := impl.Console(text); got != want || code != impl.OK {
				t.Errorf("Console(%q) = %q, %d, not %q", text, got, code, want)
			}
			wantBeginnings(t, text)
		}
	}
	if !strings.HasSuffix(want, "\n1\n|abc\n|\n|\n|\n|\n|\n") {
		t.Errorf("%q", want)
	}
}

// As many commands as there may be lines: all of them find room.
func TestConsolesOfSixtyCommands(t *testing.T) {
	text := "lead 0\nwindow main\n" + strings.Repeat("write 1 1 "+strings.Repeat("x", 200)+"\n", 57)
	said, _ := wantConsole(t, text+"kill 9")
	if said != "leader 0\nok 1\n"+strings.Repeat("ok 0\n", 57)+"error none\n" {
		t.Errorf("%q", said)
	}
	said, _ = wantConsole(t, text+"show main")
	if row := strings.Repeat("x", 12); said != "leader 0\nok 1\n"+strings.Repeat("ok 0\n", 57)+"1\n"+strings.Repeat("|"+row+"\n", 6) {
		t.Errorf("%q", said)
	}
	wantConsole(t, strings.Repeat("lead 0\nlead 1\nlead 2\n", 20))
	wantConsole(t, strings.Repeat("lead 0\nwindow a\nkill 1\ncrash 0\nlead 1\nstart 0\n", 10))
	wantConsole(t, strings.Repeat("lead 0\ncrash 1\ncrash 2\nwindow a\ncrash 0\nstart 1\nstart 2\nlead 1\nstart 0\nwindow b\n", 6))
}

// drawnLine is mostly one that is done; now and then it is none, or one that says nothing.
func drawnLine(draw *rand.Rand) string {
	name := func() string { return []string{"a", "b", "c", "main"}[draw.Intn(4)] }
	n, pane := draw.Intn(3), fmt.Sprint(1+draw.Intn(3+draw.Intn(5)))
	var words []string
	switch what := draw.Intn(100); {
	case what < 14:
		words = []string{"lead", fmt.Sprint(n)}
	case what < 20:
		words = []string{"crash", fmt.Sprint(n)}
	case what < 31:
		words = []string{"start", fmt.Sprint(n)}
	case what < 38:
		words = []string{"show", name()}
	case what < 49:
		words = []string{"window", name()}
	case what < 60:
		words = []string{"split", pane, []string{"rows", "columns"}[draw.Intn(2)]}
	case what < 64:
		words = []string{"kill", pane}
	case what < 69:
		words = []string{"move", pane, fmt.Sprint(draw.Intn(21) - 10)}
	case what < 81:
		words = []string{"write", pane, fmt.Sprint(1 + draw.Intn(8)/7), "x" + strings.ReplaceAll(strings.ReplaceAll(drawnOutput(draw, 1+draw.Intn(9)), " ", "."), "\n", "\x1bE")}
	case what < 84:
		words = []string{"own", pane, fmt.Sprint(draw.Intn(4) / 3)}
	case what < 87:
		words = []string{"resize", fmt.Sprint(24 - draw.Intn(14)*draw.Intn(2)), fmt.Sprint(10 - draw.Intn(6)*draw.Intn(2))}
	case what < 92:
		words = []string{"rename", name(), name()}
	case what < 96:
		return []string{"", " ", "#", "  # lead 0", "#lead 0"}[draw.Intn(5)]
	default:
		return []string{"lead 3", "crash 3", "start -1", "go", "show", "window a b", "kill 0", "split 1 up", "write 1 1", "lead 00", "\tlead 0"}[draw.Intn(11)]
	}
	gap := strings.Repeat(" ", 1+draw.Intn(8)/7)
	return strings.Repeat(" ", draw.Intn(8)/7) + strings.Join(words, gap) + strings.Repeat(" ", draw.Intn(8)/7)
}

// drawnLines begin with a leader and two windows, mostly.
func drawnLines(draw *rand.Rand) []string {
	var lines []string
	if draw.Intn(4) > 0 {
		lines = []string{fmt.Sprint("lead ", draw.Intn(3)), "window main", "window a"}
	}
	for len(lines) < 60-draw.Intn(10)*draw.Intn(2) {
		lines = append(lines, drawnLine(draw))
	}
	return lines
}

// kindOfAnswer are the words of an answer that tell its kind.
func kindOfAnswer(answer string) string {
	words := strings.Fields(answer)
	switch {
	case answer == "" || strings.Contains(answer, "\n"):
		return "rows"
	case words[0] == "ok":
		return "ok"
	}
	return answer
}

func TestDrawnConsoles(t *testing.T) {
	t.Parallel()
	kinds := map[string]int{}
	for seed := range int64(200) {
		draw := rand.New(rand.NewSource(1600 + seed))
		lines := drawnLines(draw)
		for i, answer := range modelAnswers(lines) {
			if words := strings.Fields(lines[i]); len(words) > 0 {
				kinds[words[0]+" "+kindOfAnswer(answer)]++
			}
		}
		text := strings.Join(lines, "\n") + []string{"", "\n"}[draw.Intn(2)]
		if seed%20 == 0 {
			wantBeginnings(t, text)
		} else {
			wantConsole(t, text)
		}
	}
	wantKinds(t, kinds, 50, "lead leader 0", "lead leader 1", "lead leader 2", "lead leader -1", "lead error down", "crash ok", "crash error down", "start ok", "start error twice", "show rows", "show error none")
	wantKinds(t, kinds, 50, "window ok", "window error leader", "window error twice", "window error full", "split ok", "split error none", "split error small", "split error leader", "write ok", "write error none", "write error stale", "write error leader", "move ok", "kill ok", "kill error leader", "rename error none", "rename error twice")
	wantKinds(t, kinds, 5, "window no answer", "split no answer", "kill no answer", "move no answer", "write no answer", "own no answer", "resize no answer", "rename no answer", "move error none", "move error last", "kill error none", "own ok", "own error none", "resize ok", "rename ok", "crash error range", "start error range", "lead error form", "show error form", "split error form", "write error form", "kill error form", "go error form")
}

// Many texts at once, and one text asked by many at once.
func TestConsolesBesideOneAnother(t *testing.T) {
	t.Parallel()
	var texts, want []string
	for seed := range int64(12) {
		texts = append(texts, strings.Join(drawnLines(rand.New(rand.NewSource(1700+seed))), "\n"))
	}
	texts = append(texts, "", "\n\n", strings.Repeat("\n", 61), strings.Repeat("x", impl.MaxText+1), "lead 0\nwindow main\nshow main")
	for _, text := range texts {
		said, _ := modelConsole(text)
		want = append(want, said)
	}
	c := standing(5)
	settled, _ := modelSettle(c, 1000)
	var group sync.WaitGroup
	for i := range 48 {
		group.Go(func() {
			for j := range texts {
				at := (i + j) % len(texts)
				if got, _ := impl.Console(texts[at]); got != want[at] {
					t.Errorf("Console(%q) beside others says %q", texts[at], got)
				}
				if got, code := impl.Settle(c, 1000); code != impl.OK || !sameClusters(got, settled) {
					t.Errorf("Settle beside others: %s, %d", clusterShown(got), code)
				}
				if got, code := impl.ReadLine("write 1 2 x", 1+at); code != impl.OK || got != outputAt(1+at) {
					t.Errorf("ReadLine beside others: %+v, %d", got, code)
				}
			}
		})
	}
	group.Wait()
}

func outputAt(seq int) impl.Command { return at(seq, outputCommand(1, 2, "x")) }

// wantTheorem is the theorem of the whole: nodes agree, what was committed lasts, and nodes and mirrors show just what it makes.
func (h *hall) wantTheorem(was impl.World) {
	h.t.Helper()
	before, done := was.Cluster.Done, h.w.Cluster.Done
	if len(done) < len(before) || !slices.Equal(done[:len(before)], before) {
		h.t.Fatalf("what was committed does not last: %.300q, behind %.300q", done, before)
	}
	r := rack{t: h.t, c: h.w.Cluster, leaders: h.leaders}
	r.wantAgreement()
	for id, c := range h.w.Clients {
		if old := was.Clients[id]; c.Mirror.Number < old.Mirror.Number {
			h.t.Fatalf("a mirror goes back from %s to %s", clientShown(old), clientShown(c))
		} else if !sameClients(c, old) {
			h.tokens = append(h.tokens, c.Token)
		}
	}
	h.wantHistoryHolds()
	if len(h.acts)%24 == 0 {
		if all := modelRecount(h.w); !all.mirrors || !all.nodes {
			h.t.Fatalf("behind %d acts mirrors hold %v, nodes %v: %s", len(h.acts), all.mirrors, all.nodes, worldShown(h.w))
		}
	}
}

// wantAllShown heals, lets the leader be told of one command more, and polls: all nodes and both mirrors show just what all that is committed makes.
func (h *hall) wantAllShown(seq int) {
	h.t.Helper()
	leader := h.heal()
	before := h.w.Cluster.Done
	if code := h.act(submitAct(leader, from(4, at(seq, windowCommand("main"))))); code != impl.OK {
		h.t.Fatal("WoSubmit", code, worldShown(h.w))
	}
	h.settle()
	for range 2 {
		h.act(clusterAct(tickAct(leader, 0)))
	}
	h.settle()
	done := h.w.Cluster.Done
	if len(done) <= len(before) {
		h.t.Fatalf("nothing more is committed than %d: %s", len(before), worldShown(h.w))
	}
	m, _, _ := impl.HistoryMux(h.w)
	for id, n := range h.w.Cluster.Nodes {
		known, _ := impl.Committed(n)
		if made, _, code := impl.FoldNode(20, 8, n); code != impl.OK || !slices.Equal(known, done) || !sameMuxes(made, m) {
			h.t.Fatalf("node %d does not show what is committed: %s", id, worldShown(h.w))
		}
		client := id % 2
		h.act(pollAct(client, id))
		mux, rows := modelPicture(20, 8, counted(done), h.w.Clients[client].Window)
		if rows != nil && !sameMirrors(h.w.Clients[client].Mirror, mirrorOf(len(counted(done)), mux.W, mux.H, rows)) {
			h.t.Fatalf("client %d shows %s of node %d, with %d done", client, mirrorShown(h.w.Clients[client].Mirror), id, len(counted(done)))
		}
	}
}

// drawnPower lets the power go: of some nodes, of more than half of them, or of those that messages come to, at any byte of what they write.
func (h *hall) drawnPower(draw *rand.Rand) {
	h.t.Helper()
	nodes := len(h.w.Cluster.Nodes)
	switch draw.Intn(3) {
	case 0:
		for range 1 + nodes/2 {
			h.act(clusterAct(crashAct(draw.Intn(nodes))))
		}
	case 1:
		for i := 0; len(h.w.Cluster.Wire) > 0 && i < 6; i++ {
			h.act(clusterAct(breakAct(draw.Intn(len(h.w.Cluster.Wire)), draw.Intn(150))))
		}
	default:
		h.act(clusterAct(crashAct(draw.Intn(nodes))))
	}
}

// drawnWhole is a world of so many nodes that runs, again and again, through cuts and crashes, and heals.
func drawnWhole(t *testing.T, nodes int, seed int64) map[string]int {
	t.Helper()
	draw := rand.New(rand.NewSource(1800 + 10*seed + int64(nodes)))
	h := newHall(t, nodes, map[string]int{})
	h.whole = true
	longest := func() int {
		most := 0
		for _, n := range h.w.Cluster.Nodes {
			most = max(most, len(n.Log))
		}
		return most
	}
	for round := 1; longest() < 44 && round < 20; round++ {
		leader := h.heal()
		for range 1 + draw.Intn(3) {
			h.act(h.drawnSubmit(draw, leader))
		}
		if draw.Intn(2) == 0 {
			h.settle()
		}
		apart, ahead := draw.Intn(nodes), draw.Intn(nodes)
		if draw.Intn(2) == 0 {
			apart = leader
		}
		for step := range 24 {
			h.act(h.drawnWorldAct(draw, step, apart, ahead))
		}
		h.drawnPower(draw)
		for client := range 2 {
			h.act(pollAct(client, draw.Intn(nodes)))
		}
		if round%3 == 0 {
			h.wantAllShown(round)
		}
	}
	h.wantAllShown(100)
	acts := h.acts[:min(len(h.acts), impl.MaxActs)]
	got, _, code := impl.WorldRun(nodes, 20, 8, acts)
	again := newWorld(nodes, 20, 8)
	for _, a := range acts {
		again, _ = impl.WorldStep(again, a)
	}
	if code != impl.OK || !sameWorlds(got, again) {
		t.Error("the same acts lead elsewhere at once:", code)
	}
	return h.kinds
}

func TestTheTheoremOfTheWhole(t *testing.T) {
	t.Parallel()
	kinds := map[string]int{}
	var lock sync.Mutex
	t.Run("runs", func(t *testing.T) {
		for nodes := 1; nodes <= 5; nodes++ {
			for seed := range int64(2) {
				t.Run(fmt.Sprintf("%d nodes, %d", nodes, seed), func(t *testing.T) {
					t.Parallel()
					own := drawnWhole(t, nodes, seed)
					lock.Lock()
					defer lock.Unlock()
					for kind, count := range own {
						kinds[kind] += count
					}
				})
			}
		}
	})
	wantKinds(t, kinds, 50, "1 ok", "1 down", "2 ok", "3 ok", "3 again", "3 down")
	wantKinds(t, kinds, 5, "2 leader", "3 late", "3 none", "4 ok", "4 late", "4 again")
}
