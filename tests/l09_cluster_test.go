package tests

import (
	"fmt"
	"math"
	"math/rand"
	"slices"
	"strings"
	"testing"

	"loop.example/g00308/impl"
)

func cloneCluster(c impl.Cluster) impl.Cluster {
	c.Nodes, c.Stores, c.Wire, c.Done = slices.Clone(c.Nodes), slices.Clone(c.Stores), slices.Clone(c.Wire), slices.Clone(c.Done)
	for i, n := range c.Nodes {
		c.Nodes[i] = cloneNode(n)
	}
	for i, m := range c.Wire {
		c.Wire[i] = cloneMessage(m)
	}
	return c
}

func sameClusters(a, b impl.Cluster) bool {
	return slices.EqualFunc(a.Nodes, b.Nodes, sameNodes) && slices.Equal(a.Stores, b.Stores) && sameMessages(a.Wire, b.Wire) && slices.Equal(a.Done, b.Done)
}

func clusterShown(c impl.Cluster) string {
	text := fmt.Sprintf("{%d nodes", len(c.Nodes))
	for i, n := range c.Nodes {
		text += "\n  " + nodeShown(n)
		if i < len(c.Stores) {
			text += fmt.Sprintf(" (%d bytes, %d sure)", len(c.Stores[i].Data), c.Stores[i].Sure)
		}
	}
	text += fmt.Sprintf("\n  %d stores, done %.300s, %d messages", len(c.Stores), fmt.Sprintf("%d %q", len(c.Done), c.Done), len(c.Wire))
	for _, m := range c.Wire[:min(len(c.Wire), 8)] {
		text += "\n  " + messageShown(m)
	}
	return text + "}"
}

func actShown(a impl.ClusterAct) string {
	kind := map[int]string{1: "tick", 2: "give", 3: "lose", 4: "twice", 5: "crash", 6: "start", 7: "propose", 8: "break"}[a.Kind]
	return fmt.Sprintf("{%d %s, node %d, n %d, keep %d, %d bytes}", a.Kind, kind, a.Node, a.N, a.Keep, len(a.Data))
}

func tickAct(node, draw int) impl.ClusterAct {
	return impl.ClusterAct{Kind: impl.ClTick, Node: node, N: draw}
}

func giveAct(n int) impl.ClusterAct { return impl.ClusterAct{Kind: impl.ClGive, N: n} }

func loseAct(n int) impl.ClusterAct { return impl.ClusterAct{Kind: impl.ClLose, N: n} }

func twiceAct(n int) impl.ClusterAct { return impl.ClusterAct{Kind: impl.ClTwice, N: n} }

func breakAct(n, keep int) impl.ClusterAct {
	return impl.ClusterAct{Kind: impl.ClBreak, N: n, Keep: keep}
}

func crashAct(node int) impl.ClusterAct { return impl.ClusterAct{Kind: impl.ClCrash, Node: node} }

func startAct(node int) impl.ClusterAct { return impl.ClusterAct{Kind: impl.ClStart, Node: node} }

func proposeAct(node int, data string) impl.ClusterAct {
	return impl.ClusterAct{Kind: impl.ClPropose, Node: node, Data: data}
}

func stateIn(n impl.Node) impl.State { return impl.State{Term: n.Term, Vote: n.Vote, Log: n.Log} }

func sureOf(data string) impl.Store { return impl.Store{Data: data, Sure: len(data)} }

// clusterOf has stores that lead to its nodes, with as few records as will do.
func clusterOf(nodes ...impl.Node) impl.Cluster {
	var c impl.Cluster
	for _, n := range nodes {
		c.Nodes = append(c.Nodes, cloneNode(n))
		c.Stores = append(c.Stores, sureOf(framesText(modelRecords(firstState(), stateIn(n))...)))
	}
	return c
}

func newCluster(nodes int) impl.Cluster {
	var list []impl.Node
	for id := range nodes {
		list = append(list, newNode(id, nodes))
	}
	return clusterOf(list...)
}

// filledStore leads to a state by just so many bytes: entries that are cut off again stand ahead of those that stay.
func filledStore(t *testing.T, s impl.State, size int) impl.Store {
	t.Helper()
	term, log := termText(s.Term, s.Vote), modelRecords(impl.State{Term: s.Term, Vote: s.Vote}, s)
	data := framesText(term)
	const least = 34 // of an entry without Data and a cut
	for rest := size - len(data) - len(framesText(log...)); rest > 0; rest = size - len(data) - len(framesText(log...)) {
		part := min(rest, least+400)
		if rest > part && rest < part+least {
			part = rest - least
		}
		if part < least {
			t.Fatal("no filling of so few bytes:", part)
		}
		data += framesText(entryText(1, strings.Repeat("f", part-least)), cutText(0))
	}
	data += framesText(log...)
	if state, _, code := modelRecover(impl.Store{Data: data}); len(data) != size || code != impl.OK || !sameStates(state, s) {
		t.Fatalf("filled by %d of %d bytes to %s, not %s", len(data), size, stateShown(state), stateShown(s))
	}
	return sureOf(data)
}

func modelClusterOK(c impl.Cluster) bool {
	nodes := len(c.Nodes)
	if nodes == 0 || nodes > 5 || len(c.Stores) != nodes || len(c.Wire) > 60 || len(c.Done) > 60 {
		return false
	}
	for i, n := range c.Nodes {
		state, left, code := modelRecover(c.Stores[i])
		if !modelNodeOK(n) || n.Id != i || n.Nodes != nodes || code != impl.OK || c.Stores[i].Sure != len(c.Stores[i].Data) || left.Data != c.Stores[i].Data || !sameStates(state, stateIn(n)) {
			return false
		}
	}
	for _, m := range c.Wire {
		if !modelMessageOK(m) || m.From >= nodes || m.To >= nodes {
			return false
		}
	}
	for _, data := range c.Done {
		if len(data) > 400 {
			return false
		}
	}
	return true
}

// clusterModel does the document's sentences on a cluster of its own.
type clusterModel struct{ impl.Cluster }

func (c *clusterModel) takeOff(n int) impl.Message {
	m := c.Wire[n]
	var rest []impl.Message
	for i, other := range c.Wire {
		if i != n {
			rest = append(rest, other)
		}
	}
	c.Wire = rest
	return m
}

// write answers the bytes of a node's store with what it becomes behind them, and false if there is no room.
func (c *clusterModel) write(n impl.Node) (string, bool) {
	data := c.Stores[n.Id].Data + framesText(modelRecords(stateIn(c.Nodes[n.Id]), stateIn(n))...)
	return data, len(data) <= 60000
}

func (c *clusterModel) becomes(n impl.Node, sent []impl.Message, code int) int {
	if code != impl.OK {
		return code
	}
	data, room := c.write(n)
	if !room {
		return impl.ErrFull
	}
	c.Nodes[n.Id], c.Stores[n.Id] = n, sureOf(data)
	for _, m := range sent {
		if len(c.Wire) < 60 {
			c.Wire = append(c.Wire, m)
		}
	}
	for place := len(c.Done) + 1; place <= n.Commit; place++ {
		c.Done = append(c.Done, n.Log[place-1].Data)
	}
	return impl.OK
}

// crash goes on with so many of the bytes that a store might have had.
func (c *clusterModel) crash(id int, data string) int {
	state, left, _ := modelRecover(impl.Store{Data: data})
	n := newNode(id, len(c.Nodes))
	n.Term, n.Vote, n.Log, n.Up = state.Term, state.Vote, state.Log, false
	c.Nodes[id], c.Stores[id] = n, left
	return impl.OK
}

func (c *clusterModel) withMessage(a impl.ClusterAct) int {
	if a.N < 0 || a.N >= len(c.Wire) {
		return impl.ErrRange
	}
	if a.Kind == 4 {
		if len(c.Wire) >= 60 {
			return impl.ErrFull
		}
		c.Wire = append(c.Wire, cloneMessage(c.Wire[a.N]))
		return impl.OK
	}
	m := c.takeOff(a.N)
	if a.Kind == 3 {
		return impl.OK
	}
	if !c.Nodes[m.To].Up {
		return impl.ErrDown
	}
	n, sent, code := modelNodeTake(c.Nodes[m.To], m)
	if code != impl.OK || a.Kind == 2 {
		return c.becomes(n, sent, code)
	}
	data, room := c.write(n)
	if !room {
		return impl.ErrFull
	}
	sure := len(c.Stores[m.To].Data)
	keep := max(0, min(a.Keep, len(data)-sure))
	return c.crash(m.To, data[:sure+keep])
}

func (c *clusterModel) withNode(a impl.ClusterAct) int {
	if a.Node < 0 || a.Node >= len(c.Nodes) {
		return impl.ErrRange
	}
	n := c.Nodes[a.Node]
	switch {
	case a.Kind == 6 && n.Up:
		return impl.ErrTwice
	case a.Kind == 6:
		c.Nodes[a.Node].Up = true
		return impl.OK
	case !n.Up:
		return impl.ErrDown
	case a.Kind == 5:
		return c.crash(a.Node, c.Stores[a.Node].Data)
	case a.Kind == 1 && !inBounds(a.N, 0, 1000000), a.Kind == 7 && !inBounds(len(a.Data), 1, 400):
		return impl.ErrRange
	case a.Kind == 1:
		return c.becomes(modelTick(n, a.N))
	}
	return c.becomes(modelPropose(n, a.Data))
}

func modelClusterStep(c impl.Cluster, a impl.ClusterAct) (impl.Cluster, int) {
	if !modelClusterOK(c) {
		return impl.Cluster{}, impl.ErrBad
	}
	m := &clusterModel{cloneCluster(c)}
	switch a.Kind {
	case 2, 3, 4, 8:
		code := m.withMessage(a)
		return m.Cluster, code
	case 1, 5, 6, 7:
		code := m.withNode(a)
		return m.Cluster, code
	}
	return m.Cluster, impl.ErrForm
}

// wantAct holds an act against the model, and asks that nothing of the cluster was changed, and that the answer is right and new memory.
func wantAct(t *testing.T, c impl.Cluster, a impl.ClusterAct) (impl.Cluster, int) {
	t.Helper()
	kept := cloneCluster(c)
	got, code := impl.ClusterStep(c, a)
	want, wantCode := modelClusterStep(kept, a)
	if code != wantCode || !sameClusters(got, want) {
		t.Fatalf("%s with %s:\n%s, %d, not\n%s, %d", actShown(a), clusterShown(kept), clusterShown(got), code, clusterShown(want), wantCode)
	}
	if !sameClusters(c, kept) {
		t.Fatalf("%s changes %s to %s", actShown(a), clusterShown(kept), clusterShown(c))
	}
	if code != impl.ErrBad && !impl.ClusterOK(got) {
		t.Fatalf("%s with %s: not right is %s", actShown(a), clusterShown(kept), clusterShown(got))
	}
	wantApart(t, actShown(a), c, got)
	return got, code
}

// wantActed is for what is written out by hand.
func wantActed(t *testing.T, c impl.Cluster, a impl.ClusterAct, want impl.Cluster, wantCode int) {
	t.Helper()
	if got, code := wantAct(t, c, a); code != wantCode || !sameClusters(got, want) {
		t.Errorf("%s with %s:\n%s, %d, not\n%s, %d", actShown(a), clusterShown(c), clusterShown(got), code, clusterShown(want), wantCode)
	}
}

// withoutMessage is the cluster as it was, but that a message was taken off.
func withoutMessage(c impl.Cluster, n int) impl.Cluster {
	c = cloneCluster(c)
	c.Wire = append(c.Wire[:n:n], c.Wire[n+1:]...)
	return c
}

// withNode has another node, a store that leads to it behind what it was, and more messages on its Wire.
func withNode(c impl.Cluster, n impl.Node, sent ...impl.Message) impl.Cluster {
	c = cloneCluster(c)
	more := framesText(modelRecords(stateIn(c.Nodes[n.Id]), stateIn(n))...)
	c.Nodes[n.Id], c.Stores[n.Id] = n, sureOf(c.Stores[n.Id].Data+more)
	c.Wire = append(c.Wire, sent...)
	return c
}

func withDone(c impl.Cluster, done ...string) impl.Cluster {
	c = cloneCluster(c)
	c.Done = done
	return c
}

func withWire(c impl.Cluster, wire ...impl.Message) impl.Cluster {
	c = cloneCluster(c)
	c.Wire = wire
	return c
}

// baseCluster is right: node 1 leads, node 2 is down; there are messages to each of them.
func baseCluster() impl.Cluster {
	leader := leaderOf(1, 7, "1:a 2:b 7:c 7:d", 2, []int{4, 5, 3}, []int{3, 0, 2})
	leader.Votes = []int{0, 1}
	c := clusterOf(nodeOf(0, 3, 7, 1, impl.RoFollower, "1:a 2:b 7:c", 1), leader, downNode(nodeOf(2, 3, 6, -1, impl.RoFollower, "1:a 2:b", 0)))
	c.Wire = []impl.Message{appendOf(1, 0, 7, 3, 7, 2, "7:d"), appendOf(1, 2, 7, 2, 2, 2, "7:c 7:d"), appendedOf(0, 1, 7, true, 4), voteOf(2, 0, 8, 2, 2), votedOf(0, 2, 6, true)}
	c.Done = []string{"a", "b"}
	return c
}

func changedCluster(change func(c *impl.Cluster)) impl.Cluster {
	c := baseCluster()
	change(&c)
	return c
}

func TestClusterConstants(t *testing.T) {
	got := []int{impl.MaxActs, impl.MaxWire, impl.ClTick, impl.ClGive, impl.ClLose, impl.ClTwice, impl.ClCrash, impl.ClStart, impl.ClPropose, impl.ClBreak}
	if !slices.Equal(got, []int{240, 60, 1, 2, 3, 4, 5, 6, 7, 8}) {
		t.Error(got)
	}
}

func TestNewClusters(t *testing.T) {
	for _, nodes := range append([]int{-2, -1, 0, 1, 2, 3, 4, 5, 6, 7, impl.MaxList + 1}, strayNumbers...) {
		c, code := impl.NewCluster(nodes)
		if !inBounds(nodes, 1, 5) {
			if code != impl.ErrRange || !sameClusters(c, impl.Cluster{}) {
				t.Error("NewCluster of", nodes, clusterShown(c), code)
			}
			continue
		}
		if code != impl.OK || len(c.Nodes) != nodes || len(c.Stores) != nodes || len(c.Wire) != 0 || len(c.Done) != 0 || !impl.ClusterOK(c) {
			t.Error("NewCluster of", nodes, clusterShown(c), code)
		}
		for id, n := range c.Nodes {
			if fresh, _ := impl.NewNode(id, nodes); !sameNodes(n, fresh) || c.Stores[id] != (impl.Store{}) {
				t.Error("NewCluster of", nodes, "has", nodeShown(n), storeShown(c.Stores[id]))
			}
		}
		other, _ := impl.NewCluster(nodes)
		wantApart(t, "NewCluster", c, other)
	}
}

// wantClusterOK asks of all calls that clusters which are not right are told ErrBad, with all else empty.
func wantClusterOK(t *testing.T, what string, c impl.Cluster, want bool) {
	t.Helper()
	kept := cloneCluster(c)
	if impl.ClusterOK(c) != want || modelClusterOK(c) != want {
		t.Errorf("%s: ClusterOK of %s is %v, not %v", what, clusterShown(c), impl.ClusterOK(c), want)
	}
	code := impl.ErrBad * oneIf(!want)
	for _, a := range []impl.ClusterAct{{}, tickAct(0, 0), giveAct(0), loseAct(0), twiceAct(0), crashAct(0), startAct(0), proposeAct(0, "x"), breakAct(0, 5), tickAct(-1, -1), {Kind: 9}} {
		if want {
			wantAct(t, c, a)
		} else if got, code := impl.ClusterStep(c, a); code != impl.ErrBad || !sameClusters(got, impl.Cluster{}) {
			t.Errorf("%s: %s with %s: %s, %d", what, actShown(a), clusterShown(c), clusterShown(got), code)
		}
	}
	if ok, got := impl.CommitsAgree(c); got != code || ok && !want {
		t.Error(what, "CommitsAgree", ok, got)
	}
	if ok, got := impl.StoresHold(c); got != code || ok && !want {
		t.Error(what, "StoresHold", ok, got)
	}
	if list, got := impl.LongestDone(c); got != code || len(list) > 0 && !want {
		t.Error(what, "LongestDone", list, got)
	}
	if !sameClusters(c, kept) {
		t.Errorf("%s: changed is %s", what, clusterShown(kept))
	}
}

func TestClustersThatAreRight(t *testing.T) {
	wantClusterOK(t, "none", impl.Cluster{}, false)
	wantClusterOK(t, "base", baseCluster(), true)
	for nodes := 1; nodes <= 7; nodes++ {
		wantClusterOK(t, fmt.Sprint("new ones: ", nodes), newCluster(nodes), nodes <= 5)
	}
	c := newCluster(3)
	c.Wire, c.Done = []impl.Message{}, []string{}
	wantClusterOK(t, "with empty lists", c, true)
	for _, n := range sampleNodes() {
		if n.Id == 0 && n.Nodes == 1 {
			wantClusterOK(t, "of one node", clusterOf(n), true)
		}
		if n.Id == 1 && n.Nodes == 3 {
			wantClusterOK(t, "of another node 1", clusterOf(newNode(0, 3), n, newNode(2, 3)), true)
			wantClusterOK(t, "of two of another", clusterOf(newNode(0, 3), n, n), false)
			wantClusterOK(t, "of one that is not at its place", clusterOf(n, newNode(1, 3), newNode(2, 3)), false)
		}
	}
}

func TestTheNodesOfClusters(t *testing.T) {
	for i, n := range wrongNodes() {
		c := baseCluster()
		c.Nodes[1] = n
		if modelStateOK(stateIn(n)) {
			c.Stores[1] = clusterOf(n).Stores[0]
		}
		wantClusterOK(t, fmt.Sprint("wrong node ", i), c, false)
	}
	for what, change := range map[string]func(c *impl.Cluster){
		"no nodes":              func(c *impl.Cluster) { c.Nodes = nil },
		"neither":               func(c *impl.Cluster) { c.Nodes, c.Stores = nil, nil },
		"one node less":         func(c *impl.Cluster) { c.Nodes = c.Nodes[:2] },
		"one less of both":      func(c *impl.Cluster) { c.Nodes, c.Stores, c.Wire = c.Nodes[:2], c.Stores[:2], nil },
		"one node more":         func(c *impl.Cluster) { c.Nodes = append(c.Nodes, c.Nodes[2]) },
		"one more of both":      func(c *impl.Cluster) { c.Nodes, c.Stores = append(c.Nodes, c.Nodes[2]), append(c.Stores, c.Stores[2]) },
		"two changed":           func(c *impl.Cluster) { c.Nodes[0], c.Nodes[2] = c.Nodes[2], c.Nodes[0] },
		"two changed of both":   func(c *impl.Cluster) { slices.Reverse(c.Nodes); slices.Reverse(c.Stores) },
		"another number":        func(c *impl.Cluster) { c.Nodes[0].Id = 1 },
		"the number behind":     func(c *impl.Cluster) { c.Nodes[0].Id = 2 },
		"a number that is none": func(c *impl.Cluster) { c.Nodes[2].Id = 3 },
		"of two nodes":          func(c *impl.Cluster) { n := &c.Nodes[0]; n.Nodes, n.Next, n.Match = 2, n.Next[:2], n.Match[:2] },
		"of four nodes": func(c *impl.Cluster) {
			n := &c.Nodes[0]
			n.Nodes, n.Next, n.Match = 4, append(n.Next, 1), append(n.Match, 0)
		},
	} {
		wantClusterOK(t, what, changedCluster(change), false)
	}
	six := newCluster(5)
	six.Nodes, six.Stores = append(six.Nodes, newNode(4, 5)), append(six.Stores, impl.Store{})
	wantClusterOK(t, "six of five", six, false)
	many := impl.Cluster{Nodes: make([]impl.Node, impl.MaxList+1), Stores: make([]impl.Store, impl.MaxList+1)}
	wantClusterOK(t, "beyond MaxList", many, false)
}

func TestTheStoresOfClusters(t *testing.T) {
	wrong := wrongStores()
	term, vote, log := framesText(termText(8, 1)), framesText(termText(7, -1)), framesText(entryText(7, "c"))
	for i, more := range []string{term, vote, log, framesText(cutText(2)), framesText(cutText(2), entryText(7, "C")), framesText(cutText(1), entryText(2, "c"), entryText(7, "c"))[:1], "x", "\x00\x00", term[:7], term[:len(term)-1], log[:len(log)-1], framesText("junk"), framesText(cutText(3)), framesText(termText(6, 1)), framesText(entryText(8, "x"))} {
		wrong = append(wrong, sureOf(baseCluster().Stores[0].Data+more))
		c := baseCluster()
		c.Stores[0].Data += more
		wantClusterOK(t, fmt.Sprint("not sure: ", i), c, false)
	}
	data := baseCluster().Stores[0].Data
	flipped := []byte(data)
	flipped[12] ^= 1
	wrong = append(wrong, impl.Store{}, sureOf(string(flipped)), sureOf(data[:len(data)-1]), sureOf(data[1:]), sureOf(data+data), baseCluster().Stores[1], impl.Store{Data: data}, impl.Store{Data: data, Sure: len(data) - 1}, impl.Store{Data: data, Sure: 19})
	for i, s := range wrong {
		for place := range 3 {
			c := baseCluster()
			if c.Stores[place] = s; place != 1 || s != baseCluster().Stores[1] {
				wantClusterOK(t, fmt.Sprint("wrong store ", i, " at ", place), c, false)
			}
		}
	}
	for what, change := range map[string]func(c *impl.Cluster){
		"no stores":       func(c *impl.Cluster) { c.Stores = nil },
		"one store less":  func(c *impl.Cluster) { c.Stores = c.Stores[:2] },
		"one store more":  func(c *impl.Cluster) { c.Stores = append(c.Stores, c.Stores[2]) },
		"an empty more":   func(c *impl.Cluster) { c.Stores = append(c.Stores, impl.Store{}) },
		"two changed":     func(c *impl.Cluster) { c.Stores[0], c.Stores[1] = c.Stores[1], c.Stores[0] },
		"another Term":    func(c *impl.Cluster) { c.Nodes[0].Term = 8 },
		"another Vote":    func(c *impl.Cluster) { c.Nodes[0].Vote = -1 },
		"other Data":      func(c *impl.Cluster) { c.Nodes[0].Log[2].Data = "C" },
		"an entry more":   func(c *impl.Cluster) { c.Nodes[0].Log = append(c.Nodes[0].Log, impl.Entry{Term: 7}) },
		"an entry less":   func(c *impl.Cluster) { c.Nodes[0].Log = c.Nodes[0].Log[:2] },
		"an entry's Term": func(c *impl.Cluster) { c.Nodes[0].Log[2].Term = 6 },
	} {
		wantClusterOK(t, what, changedCluster(change), false)
	}
	// More records than it takes, and what is cut again, lead there all the same.
	for _, more := range []string{framesText(termText(7, 1)), framesText(termText(7, 0), termText(7, 1)), framesText(entryText(7, "x"), cutText(3)), framesText(cutText(0), entryText(1, "a"), entryText(2, "b"), entryText(7, "c"))} {
		c := baseCluster()
		c.Stores[0] = sureOf(c.Stores[0].Data + more)
		wantClusterOK(t, "more records", c, true)
	}
	for _, size := range []int{59999, 60000} {
		c := baseCluster()
		c.Stores[2] = filledStore(t, stateIn(c.Nodes[2]), size)
		wantClusterOK(t, fmt.Sprint("bytes: ", size), c, true)
	}
}

func TestTheWireOfClusters(t *testing.T) {
	m := appendOf(1, 0, 7, 3, 7, 2, "7:d")
	for size, right := range map[int]bool{0: true, 1: true, 59: true, 60: true, 61: false, 62: false, impl.MaxList + 1: false} {
		c := baseCluster()
		c.Wire = slices.Repeat([]impl.Message{m}, size)
		wantClusterOK(t, fmt.Sprint("messages: ", size), cloneCluster(c), right)
	}
	for i, m := range append(wrongMessages(), voteOf(0, 3, 7, 0, 0), voteOf(3, 0, 7, 0, 0), votedOf(4, 1, 7, true), appendOf(1, 4, 7, 0, 0, 0, ""), appendedOf(3, 4, 1, true, 0)) {
		for place := range 5 {
			c := baseCluster()
			c.Wire[place] = m
			wantClusterOK(t, fmt.Sprint("wrong message ", i, " at ", place), c, false)
		}
		c := baseCluster()
		c.Wire = slices.Repeat([]impl.Message{appendOf(0, 1, 7, 0, 0, 0, "")}, 60)
		c.Wire[59] = m
		wantClusterOK(t, fmt.Sprint("wrong message ", i, " at the end"), c, false)
	}
	for nodes := 1; nodes <= 5; nodes++ {
		for place := range 25 {
			if from, to := place/5, place%5; from != to {
				c := newCluster(nodes)
				c.Wire = []impl.Message{voteOf(from, to, 1000, 60, 1000)}
				wantClusterOK(t, fmt.Sprint("of ", nodes, " from ", from, " to ", to), c, from < nodes && to < nodes)
			}
		}
	}
}

func TestDoneOfClusters(t *testing.T) {
	for size, right := range map[int]bool{0: true, 1: true, 59: true, 60: true, 61: false, 62: false, impl.MaxList + 1: false} {
		for _, data := range []string{"", "x", strings.Repeat("d", 400)} {
			wantClusterOK(t, fmt.Sprint("data: ", size), withDone(baseCluster(), slices.Repeat([]string{data}, size)...), right)
		}
	}
	for size, right := range map[int]bool{0: true, 399: true, 400: true, 401: false, impl.MaxText: false, impl.MaxText + 1: false} {
		for _, place := range []int{0, 30, 59} {
			done := make([]string, 60)
			done[place] = strings.Repeat("d", size)
			wantClusterOK(t, fmt.Sprint("bytes: ", size), withDone(baseCluster(), done...), right)
		}
	}
}

func TestKindsOfActs(t *testing.T) {
	c := baseCluster()
	for _, kind := range append([]int{-8, -1, 0, 9, 10, 16, 257}, strayNumbers...) {
		for _, n := range []int{-1, 0, 5, math.MaxInt} {
			for _, size := range []int{0, 1, 401, impl.MaxText + 1} {
				wantActed(t, c, impl.ClusterAct{Kind: kind, Node: n, N: n, Keep: n, Data: strings.Repeat("d", size)}, c, impl.ErrForm)
			}
		}
	}
	want := []int{impl.OK, impl.OK, impl.OK, impl.OK, impl.OK, impl.ErrTwice, impl.OK, impl.OK}
	for i, code := range want {
		if _, got := wantAct(t, c, impl.ClusterAct{Kind: 1 + i, Node: 1, Data: "x"}); got != code {
			t.Error("kind", 1+i, "is told", got, "not", code)
		}
	}
}

// Of acts with a message N alone counts.
func TestWhichMessagesThereAre(t *testing.T) {
	full := withWire(baseCluster(), slices.Repeat([]impl.Message{appendedOf(0, 1, 7, true, 0)}, 60)...)
	for _, c := range []impl.Cluster{baseCluster(), withWire(baseCluster()), withWire(baseCluster(), voteOf(2, 0, 8, 2, 2)), cloneCluster(full)} {
		last := len(c.Wire) - 1
		for _, kind := range []int{impl.ClGive, impl.ClLose, impl.ClTwice, impl.ClBreak} {
			for _, n := range append([]int{-2, -1, last + 1, last + 2, 60, 61}, strayNumbers...) {
				wantActed(t, c, impl.ClusterAct{Kind: kind, N: n}, c, impl.ErrRange)
			}
			for n := range c.Wire {
				one, code := wantAct(t, c, impl.ClusterAct{Kind: kind, N: n})
				other, otherCode := wantAct(t, c, impl.ClusterAct{Kind: kind, N: n, Node: math.MinInt, Data: strings.Repeat("d", 401)})
				if code == impl.ErrRange || otherCode != code || !sameClusters(one, other) {
					t.Error(actShown(impl.ClusterAct{Kind: kind, N: n}), code, otherCode)
				}
			}
		}
	}
}

// Of acts with a node the Node counts, and of ticks N, of proposals Data.
func TestWhichNodesThereAre(t *testing.T) {
	for nodes := 1; nodes <= 5; nodes++ {
		c := newCluster(nodes)
		for _, kind := range []int{impl.ClTick, impl.ClCrash, impl.ClStart, impl.ClPropose} {
			for _, id := range append([]int{-2, -1, nodes, nodes + 1, 5, 6}, strayNumbers...) {
				for _, size := range []int{0, 1, 401} {
					wantActed(t, c, impl.ClusterAct{Kind: kind, Node: id, N: -1, Data: strings.Repeat("d", size)}, c, impl.ErrRange)
				}
			}
			for id := range nodes {
				a := impl.ClusterAct{Kind: kind, Node: id, Data: "x"}
				_, code := wantAct(t, c, a)
				if want := map[int]int{impl.ClStart: impl.ErrTwice, impl.ClPropose: impl.ErrLeader}[kind]; code != want {
					t.Error(actShown(a), code, want)
				}
			}
		}
	}
	c := baseCluster()
	for _, n := range append([]int{-1, 0, 60, 1000001}, strayNumbers...) {
		for _, a := range []impl.ClusterAct{crashAct(0), startAct(2), proposeAct(1, "x")} {
			one, code := wantAct(t, c, a)
			a.N, a.Keep = n, n
			other, otherCode := wantAct(t, c, a)
			if code != impl.OK || otherCode != code || !sameClusters(one, other) {
				t.Error(actShown(a), code, otherCode)
			}
		}
	}
}

func TestDrawsOfTicks(t *testing.T) {
	c := baseCluster()
	c.Nodes[0].Elapsed = 4
	for draw, wait := range map[int]int{0: 5, 1: 6, 7: 12, 8: 5, 999999: 12, 1000000: 5} {
		n := candidateOf(0, 3, 8, "1:a 2:b 7:c", 0)
		n.Commit, n.Wait = 1, wait
		wantActed(t, c, tickAct(0, draw), withNode(c, n, voteOf(0, 1, 8, 3, 7), voteOf(0, 2, 8, 3, 7)), impl.OK)
		wantActed(t, c, tickAct(2, draw), c, impl.ErrDown)
	}
	for _, draw := range []int{math.MinInt, -1 << 32, -2, -1, 1000001, 1000002, 1 << 32, math.MaxInt} {
		wantActed(t, c, tickAct(0, draw), c, impl.ErrRange)
		wantActed(t, c, tickAct(1, draw), c, impl.ErrRange)
		wantActed(t, c, tickAct(2, draw), c, impl.ErrDown)
		wantActed(t, c, tickAct(3, draw), c, impl.ErrRange)
	}
}

func TestTicksInAClusterWrittenOut(t *testing.T) {
	c := baseCluster()
	leader := cloneNode(c.Nodes[1])
	leader.Elapsed = 1
	c2, _ := wantAct(t, c, tickAct(1, 0))
	if !sameClusters(c2, withNode(c, leader)) {
		t.Error("a leader's first tick:", clusterShown(c2))
	}
	leader.Elapsed = 0
	wantActed(t, c2, tickAct(1, 0), withNode(c, leader, appendOf(1, 0, 7, 3, 7, 2, "7:d"), appendOf(1, 2, 7, 2, 2, 2, "7:c 7:d")), impl.OK)
	one := newCluster(1)
	for i := range 4 {
		one, _ = wantAct(t, one, tickAct(0, 3))
		if one.Nodes[0].Elapsed != i+1 || one.Stores[0] != (impl.Store{}) {
			t.Error("alone:", clusterShown(one))
		}
	}
	n := leaderOf(0, 1, "1:", 1, []int{1}, []int{0})
	n.Votes, n.Wait = []int{0}, 8
	wantActed(t, one, tickAct(0, 3), withDone(withNode(one, n), ""), impl.OK)
}

// proposer is a cluster of three, and what its node 1 is told of a proposal.
type proposer struct {
	c    impl.Cluster
	code int
}

func proposers() map[string]proposer {
	three := func(n impl.Node) impl.Cluster { return clusterOf(newNode(0, 3), n, newNode(2, 3)) }
	list := map[string]proposer{}
	for role, code := range []int{impl.ErrLeader, impl.ErrLeader, impl.OK} {
		n := nodeOf(1, 3, 7, 1, role, "1:a 7:b", 1)
		list[fmt.Sprint("role ", role)] = proposer{three(n), code}
		list[fmt.Sprint("role ", role, " with a full log")] = proposer{three(withLog(n, longLog(60, 7, "x"))), max(code, impl.ErrFull)}
		list[fmt.Sprint("down, role ", role)] = proposer{three(downNode(n)), impl.ErrDown}
	}
	return list
}

func TestProposalsToNodesOfEachRole(t *testing.T) {
	for what, p := range proposers() {
		for size, right := range map[int]bool{0: false, 1: true, 2: true, 399: true, 400: true, 401: false, impl.MaxText: false, impl.MaxText + 1: false} {
			data := strings.Repeat("d", size)
			code := p.code
			if !right && code != impl.ErrDown {
				code = impl.ErrRange
			}
			want := p.c
			if code == impl.OK {
				n := cloneNode(p.c.Nodes[1])
				n.Log = append(n.Log, impl.Entry{Term: 7, Data: data})
				tell := appendOf(1, 0, 7, 0, 0, 1, "")
				tell.Entries = n.Log
				other := tell
				other.To = 2
				want = withNode(p.c, n, tell, other)
				want.Done = []string{"a"}
			}
			if got, code2 := wantAct(t, p.c, proposeAct(1, data)); code2 != code || !sameClusters(got, want) {
				t.Errorf("%s, %d bytes: %s, %d, not %d", what, size, clusterShown(got), code2, code)
			}
		}
	}
}

// fiveMessages are of different Terms, so that each of them is known by it.
func fiveMessages() impl.Cluster {
	return withWire(newCluster(3), voteOf(0, 1, 11, 0, 0), voteOf(1, 2, 12, 0, 0), voteOf(0, 2, 13, 0, 0), voteOf(2, 1, 14, 0, 0), voteOf(2, 0, 15, 0, 0))
}

func termsOf(wire []impl.Message) string {
	var list []string
	for _, m := range wire {
		list = append(list, fmt.Sprintf("%d:%d", m.Kind, m.Term))
	}
	return strings.Join(list, " ")
}

// What stays on the Wire keeps its order; what joins it stands at its end.
func TestTheOrderOfTheWire(t *testing.T) {
	for _, c := range []struct {
		a    impl.ClusterAct
		want string
	}{
		{loseAct(0), "1:12 1:13 1:14 1:15"}, {loseAct(2), "1:11 1:12 1:14 1:15"}, {loseAct(4), "1:11 1:12 1:13 1:14"},
		{twiceAct(0), "1:11 1:12 1:13 1:14 1:15 1:11"}, {twiceAct(2), "1:11 1:12 1:13 1:14 1:15 1:13"}, {twiceAct(4), "1:11 1:12 1:13 1:14 1:15 1:15"},
		{giveAct(0), "1:12 1:13 1:14 1:15 2:11"}, {giveAct(2), "1:11 1:12 1:14 1:15 2:13"}, {giveAct(4), "1:11 1:12 1:13 1:14 2:15"},
		{breakAct(0, 0), "1:12 1:13 1:14 1:15"}, {breakAct(2, 5), "1:11 1:12 1:14 1:15"}, {breakAct(4, 100), "1:11 1:12 1:13 1:14"},
	} {
		if got, code := wantAct(t, fiveMessages(), c.a); code != impl.OK || termsOf(got.Wire) != c.want {
			t.Errorf("%s leaves %s, %d, not %s", actShown(c.a), termsOf(got.Wire), code, c.want)
		}
		down := fiveMessages()
		for id := range 3 {
			down.Nodes[id].Up = false
		}
		code := impl.OK
		if c.a.Kind == impl.ClGive || c.a.Kind == impl.ClBreak {
			code, c.want = impl.ErrDown, strings.Join(strings.Fields(c.want)[:4], " ")
		}
		got, gotCode := wantAct(t, down, c.a)
		if gotCode != code || termsOf(got.Wire) != c.want {
			t.Errorf("%s leaves %s, %d, not %s, %d", actShown(c.a), termsOf(got.Wire), gotCode, c.want, code)
		}
		got.Wire = down.Wire
		if !sameClusters(got, down) {
			t.Errorf("%s makes %s of %s", actShown(c.a), clusterShown(got), clusterShown(down))
		}
	}
}

func TestMessagesWrittenOut(t *testing.T) {
	c := baseCluster()
	follower := cloneNode(c.Nodes[0])
	follower.Log, follower.Commit = logOf("1:a 2:b 7:c 7:d"), 2
	wantActed(t, c, giveAct(0), withNode(withoutMessage(c, 0), follower, appendedOf(0, 1, 7, true, 4)), impl.OK)
	wantActed(t, c, giveAct(1), withoutMessage(c, 1), impl.ErrDown)
	leader := cloneNode(c.Nodes[1])
	leader.Next[0], leader.Match[0], leader.Commit = 5, 4, 4
	wantActed(t, c, giveAct(2), withDone(withNode(withoutMessage(c, 2), leader), "a", "b", "c", "d"), impl.OK)
	asked := nodeOf(0, 3, 8, -1, impl.RoFollower, "1:a 2:b 7:c", 1)
	wantActed(t, c, giveAct(3), withNode(withoutMessage(c, 3), asked, votedOf(0, 2, 8, false)), impl.OK)
	wantActed(t, c, giveAct(4), withoutMessage(c, 4), impl.ErrDown)
	for n := range c.Wire {
		wantActed(t, c, loseAct(n), withoutMessage(c, n), impl.OK)
		twice := cloneCluster(c)
		twice.Wire = append(twice.Wire, cloneMessage(c.Wire[n]))
		wantActed(t, c, twiceAct(n), twice, impl.OK)
	}
}

// A message that leads to no right node is taken off, and nothing else.
func TestMessagesThatLeadToNoRightNode(t *testing.T) {
	c := clusterOf(newNode(0, 2), nodeOf(1, 2, 7, -1, impl.RoFollower, "1:a 2:b 7:c", 3))
	c.Wire = []impl.Message{voteOf(0, 1, 9, 0, 0), appendOf(0, 1, 9, 1, 1, 0, "3:x"), voteOf(0, 1, 10, 0, 0)}
	for _, keep := range []int{-1, 0, 10, 1000} {
		wantActed(t, c, breakAct(1, keep), withoutMessage(c, 1), impl.ErrForm)
	}
	wantActed(t, c, giveAct(1), withoutMessage(c, 1), impl.ErrForm)
	wantActed(t, c, loseAct(1), withoutMessage(c, 1), impl.OK)
	// Ahead of a store without room.
	c.Stores[1] = filledStore(t, stateIn(c.Nodes[1]), 60000)
	wantActed(t, c, giveAct(1), withoutMessage(c, 1), impl.ErrForm)
	wantActed(t, c, breakAct(1, 5), withoutMessage(c, 1), impl.ErrForm)
	// That the node is down is told first.
	c.Nodes[1].Up = false
	wantActed(t, c, giveAct(1), withoutMessage(c, 1), impl.ErrDown)
	wantActed(t, c, breakAct(1, 5), withoutMessage(c, 1), impl.ErrDown)
}

func TestAMessageTwice(t *testing.T) {
	base := fiveMessages()
	for size := 55; size <= 60; size++ {
		c := withWire(base, append(slices.Repeat([]impl.Message{votedOf(0, 1, 9, true)}, size-5), base.Wire...)...)
		for _, n := range []int{0, size / 2, size - 3, size - 1} {
			if size == 60 {
				wantActed(t, c, twiceAct(n), c, impl.ErrFull)
				continue
			}
			want := cloneCluster(c)
			want.Wire = append(want.Wire, cloneMessage(c.Wire[n]))
			wantActed(t, c, twiceAct(n), want, impl.OK)
		}
		wantActed(t, c, twiceAct(size), c, impl.ErrRange)
	}
}

// What is sent beyond a full Wire is lost; the first of it is kept, and the node becomes what it becomes.
func TestAFullWire(t *testing.T) {
	stays := votedOf(0, 1, 1, false)
	leader := withElapsed(leaderOf(1, 7, "1:a 7:b", 1, []int{3, 3, 1, 2, 3}, []int{2, 0, 0, 1, 0}), 1, 6)
	candidate := candidateOf(1, 5, 7, "1:a", 1, 2)
	for size := 52; size <= 60; size++ {
		wire := slices.Repeat([]impl.Message{stays}, size)
		c := withWire(clusterOf(newNode(0, 5), leader, newNode(2, 5), newNode(3, 5), newNode(4, 5)), wire...)
		tells := []impl.Message{appendOf(1, 0, 7, 2, 7, 1, ""), appendOf(1, 2, 7, 0, 0, 1, "1:a 7:b"), appendOf(1, 3, 7, 1, 1, 1, "7:b"), appendOf(1, 4, 7, 2, 7, 1, "")}
		wantActed(t, c, tickAct(1, 0), withDone(withNode(c, withElapsed(leader, 0, 6), tells[:min(4, 60-size)]...), "a"), impl.OK)
		more := cloneNode(leader)
		more.Log = append(more.Log, impl.Entry{Term: 7, Data: "c"})
		for i := range tells {
			tells[i].Entries = slices.Clone(more.Log[tells[i].Index:])
		}
		wantActed(t, c, proposeAct(1, "c"), withDone(withNode(c, more, tells[:min(4, 60-size)]...), "a"), impl.OK)
		// A message that is given makes room for one.
		c = withWire(clusterOf(newNode(0, 5), candidate, newNode(2, 5), newNode(3, 5), newNode(4, 5)), wire...)
		c.Wire[size/2] = votedOf(4, 1, 7, true)
		leads := leaderOf(1, 7, "1:a 7:", 0, []int{2, 2, 2, 2, 2}, make([]int, 5))
		leads.Votes = []int{1, 2, 4}
		entry := "7:"
		sent := []impl.Message{appendOf(1, 0, 7, 1, 1, 0, entry), appendOf(1, 2, 7, 1, 1, 0, entry), appendOf(1, 3, 7, 1, 1, 0, entry), appendOf(1, 4, 7, 1, 1, 0, entry)}
		wantActed(t, c, giveAct(size/2), withNode(withoutMessage(c, size/2), leads, sent[:min(4, 61-size)]...), impl.OK)
		c.Wire[size-1] = voteOf(3, 2, 9, 0, 0)
		wantActed(t, c, giveAct(size-1), withNode(withoutMessage(c, size-1), nodeOf(2, 5, 9, 3, impl.RoFollower, "", 0), votedOf(2, 3, 9, true)), impl.OK)
	}
}

// roomFor has a store of node id that lacks so many bytes of its room.
func roomFor(t *testing.T, c impl.Cluster, id, room int) impl.Cluster {
	c = cloneCluster(c)
	c.Stores[id] = filledStore(t, stateIn(c.Nodes[id]), 60000-room)
	return c
}

// A store that has just room takes what a node becomes; with one byte less nothing is, but that a message is taken off.
func TestStoresWithJustRoom(t *testing.T) {
	late := baseCluster()
	late.Nodes[0].Elapsed = 4
	cut := withWire(baseCluster(), appendOf(1, 0, 9, 1, 1, 0, "8:x 9:"+strings.Repeat("y", 400)))
	alone := clusterOf(leaderOf(0, 3, "2:a", 1, []int{1}, []int{0}))
	for what, c := range map[string]struct {
		c    impl.Cluster
		a    impl.ClusterAct
		id   int
		need int
	}{
		"an entry given":          {baseCluster(), giveAct(0), 0, 19},
		"a Term given":            {baseCluster(), giveAct(3), 0, 19},
		"entries cut and given":   {cut, giveAct(0), 0, 19 + 16 + 19 + 418},
		"a tick":                  {late, tickAct(0, 0), 0, 19},
		"a proposal":              {baseCluster(), proposeAct(1, "x"), 1, 19},
		"a long proposal":         {baseCluster(), proposeAct(1, strings.Repeat("d", 400)), 1, 418},
		"a proposal to one alone": {alone, proposeAct(0, "four"), 0, 22},
	} {
		for _, room := range []int{0, 1, c.need - 1, c.need, c.need + 1, c.need + 100} {
			filled := roomFor(t, c.c, c.id, room)
			want := filled
			if c.a.Kind == impl.ClGive {
				want = withoutMessage(filled, c.a.N)
			}
			got, code := wantAct(t, filled, c.a)
			if room < c.need && (code != impl.ErrFull || !sameClusters(got, want)) {
				t.Errorf("%s, room %d of %d: %s, %d", what, room, c.need, clusterShown(got), code)
			}
			if left := 60000 - len(got.Stores[c.id].Data); room >= c.need && (code != impl.OK || left != room-c.need) {
				t.Errorf("%s, room %d of %d: %d bytes left, %d", what, room, c.need, left, code)
			}
		}
	}
}

func TestBreaksWithJustRoom(t *testing.T) {
	c := withWire(baseCluster(), appendOf(1, 0, 9, 1, 1, 0, "8:x 9:y"))
	const need = 19 + 16 + 19 + 19
	for _, keep := range []int{math.MinInt, -1, 0, 18, 19, 35, 53, 54, need - 1, need, need + 1, math.MaxInt} {
		tight := roomFor(t, c, 0, need-1)
		wantActed(t, tight, breakAct(0, keep), withoutMessage(tight, 0), impl.ErrFull)
		just := roomFor(t, c, 0, need)
		got, code := wantAct(t, just, breakAct(0, keep))
		if code != impl.OK || got.Nodes[0].Up || !strings.HasPrefix(got.Stores[0].Data, just.Stores[0].Data) {
			t.Error("with just room:", clusterShown(got), code)
		}
	}
}

// What leads to no other state needs no room.
func TestActsThatWriteNothing(t *testing.T) {
	c := withWire(baseCluster(), appendOf(1, 0, 7, 3, 7, 3, ""), appendedOf(0, 1, 7, true, 4), voteOf(2, 0, 7, 2, 2), votedOf(0, 1, 5, true))
	for id := range 3 {
		c.Stores[id] = filledStore(t, stateIn(c.Nodes[id]), 60000)
	}
	for _, a := range []impl.ClusterAct{giveAct(0), giveAct(1), giveAct(2), giveAct(3), breakAct(0, 5), breakAct(1, 0), tickAct(0, 0), tickAct(1, 0), crashAct(0), crashAct(1), startAct(2), loseAct(0), twiceAct(3)} {
		got, code := wantAct(t, c, a)
		if code != impl.OK || !slices.Equal(got.Stores, c.Stores) {
			t.Error(actShown(a), "with full stores:", code)
		}
	}
	wantActed(t, c, proposeAct(1, "x"), c, impl.ErrFull)
}

// Wherever the power goes: whole records stay, and nothing is sent.
func TestABreakAtEveryByte(t *testing.T) {
	c := clusterOf(nodeOf(0, 3, 7, 1, impl.RoFollower, "1:a 2:b 2:x 2:y", 2), newNode(1, 3), newNode(2, 3))
	c.Nodes[0].Wait, c.Nodes[0].Elapsed, c.Done = 12, 3, []string{"a"}
	c.Wire = []impl.Message{votedOf(1, 2, 1, true), appendOf(1, 0, 8, 2, 2, 4, "7:c 8:dd"), voteOf(2, 1, 1, 0, 0)}
	records := []string{termText(8, -1), cutText(2), entryText(7, "c"), entryText(8, "dd")}
	logs := []string{"1:a 2:b 2:x 2:y", "1:a 2:b 2:x 2:y", "1:a 2:b", "1:a 2:b 7:c", "1:a 2:b 7:c 8:dd"}
	total := len(framesText(records...))
	for keep := -2; keep <= total+3; keep++ {
		whole := 0
		for whole < len(records) && len(framesText(records[:whole+1]...)) <= keep {
			whole++
		}
		want := withoutMessage(c, 1)
		n := downNode(nodeOf(0, 3, 7, 1, impl.RoFollower, logs[whole], 0))
		if whole > 0 {
			n.Term, n.Vote = 8, -1
		}
		want.Nodes[0], want.Stores[0] = n, sureOf(c.Stores[0].Data+framesText(records[:whole]...))
		wantActed(t, c, breakAct(1, keep), want, impl.OK)
		if keep == total {
			wantActed(t, c, breakAct(1, math.MaxInt), want, impl.OK)
		}
		if keep == -1 {
			wantActed(t, c, breakAct(1, math.MinInt), want, impl.OK)
		}
	}
	// With nothing to write it crashes all the same, and what it would have known is not known.
	leader := clusterOf(newNode(0, 2), leaderOf(1, 7, "7:a 7:b", 0, []int{1, 1}, []int{0, 0}))
	leader.Wire = []impl.Message{appendedOf(0, 1, 7, true, 2)}
	want := withoutMessage(leader, 0)
	want.Nodes[1] = downNode(nodeOf(1, 2, 7, 1, impl.RoFollower, "7:a 7:b", 0))
	for _, keep := range []int{-1, 0, 1, 100} {
		wantActed(t, leader, breakAct(0, keep), want, impl.OK)
	}
	known := cloneNode(leader.Nodes[1])
	known.Next[0], known.Match[0], known.Commit = 3, 2, 2
	wantActed(t, leader, giveAct(0), withDone(withNode(withoutMessage(leader, 0), known), "a", "b"), impl.OK)
}

// Of a crash stays what is sure; behind a start the node is as new, but for that.
func TestCrashesAndStarts(t *testing.T) {
	for _, n := range []impl.Node{
		baseNode(), newNode(1, 3), candidateOf(1, 3, 7, "1:a 2:b", 1), withElapsed(nodeOf(1, 3, 9, 0, impl.RoFollower, "9:", 1), 1000, 100), withElapsed(nodeOf(1, 3, 1000, -1, impl.RoFollower, "", 0), 8, 12),
		withLog(leaderOf(1, 7, "", 0, []int{1, 61, 1}, []int{0, 60, 0}), longLog(60, 7, "x")),
	} {
		c := clusterOf(newNode(0, 3), n, newNode(2, 3))
		c.Nodes[1].Next[1], c.Nodes[1].Match[1] = len(n.Log)+1, len(n.Log)
		c.Wire, c.Done = baseCluster().Wire, []string{"done"}
		crashed := cloneCluster(c)
		crashed.Nodes[1] = impl.Node{Id: 1, Nodes: 3, Term: n.Term, Vote: n.Vote, Log: n.Log, Wait: 6, Next: []int{1, 1, 1}, Match: []int{0, 0, 0}}
		wantActed(t, c, crashAct(1), cloneCluster(crashed), impl.OK)
		wantActed(t, crashed, crashAct(1), crashed, impl.ErrDown)
		wantActed(t, crashed, tickAct(1, 0), crashed, impl.ErrDown)
		wantActed(t, crashed, proposeAct(1, "x"), crashed, impl.ErrDown)
		started := cloneCluster(crashed)
		started.Nodes[1].Up = true
		wantActed(t, crashed, startAct(1), started, impl.OK)
		wantActed(t, started, startAct(1), started, impl.ErrTwice)
		wantActed(t, c, startAct(1), c, impl.ErrTwice)
	}
	// A start changes nothing but that it is Up.
	down := baseCluster()
	down.Nodes[2].Elapsed, down.Nodes[2].Wait, down.Nodes[2].Votes = 77, 88, []int{0, 2}
	up := cloneCluster(down)
	up.Nodes[2].Up = true
	wantActed(t, down, startAct(2), up, impl.OK)
}

// A vote that was given outlives a crash: it is not given to another in that Term.
func TestAVoteOutlivesACrash(t *testing.T) {
	c := withWire(newCluster(3), voteOf(1, 0, 1, 0, 0), voteOf(2, 0, 1, 0, 0))
	c, _ = wantAct(t, c, giveAct(0))
	c, _ = wantAct(t, c, crashAct(0))
	c, _ = wantAct(t, c, startAct(0))
	c, code := wantAct(t, c, giveAct(0))
	if code != impl.OK || c.Nodes[0].Vote != 1 || len(c.Wire) != 2 || !c.Wire[0].Ok || c.Wire[1].Ok {
		t.Error(clusterShown(c), code)
	}
	// One that was not sure was not told either, and may be given to another.
	c = withWire(newCluster(3), voteOf(1, 0, 1, 0, 0), voteOf(2, 0, 1, 0, 0))
	c, _ = wantAct(t, c, breakAct(0, 18))
	c, _ = wantAct(t, c, startAct(0))
	c, code = wantAct(t, c, giveAct(0))
	if code != impl.OK || c.Nodes[0].Vote != 2 || len(c.Wire) != 1 || !c.Wire[0].Ok || c.Wire[0].To != 2 {
		t.Error(clusterShown(c), code)
	}
}

// What joins Done: what the node that acted knows beyond it, when it is sure.
func TestWhatJoinsDone(t *testing.T) {
	told := appendOf(1, 0, 7, 3, 7, 4, "7:d 7:e")
	for _, c := range []struct {
		done []string
		m    impl.Message
		want []string
	}{
		{nil, told, []string{"a", "b", "c", "d"}}, {[]string{"a"}, told, []string{"a", "b", "c", "d"}}, {[]string{"a", "b", "c"}, told, []string{"a", "b", "c", "d"}},
		{[]string{"a", "b", "c", "d"}, told, []string{"a", "b", "c", "d"}}, {[]string{"a", "b", "c", "d", "e", "f"}, told, []string{"a", "b", "c", "d", "e", "f"}},
		{nil, appendOf(1, 0, 7, 3, 7, 0, "7:d"), []string{"a"}}, {nil, appendOf(1, 0, 7, 2, 2, 60, ""), []string{"a", "b"}}, {nil, voteOf(2, 0, 9, 0, 0), []string{"a"}},
	} {
		base := withDone(withWire(baseCluster(), c.m), c.done...)
		if got, code := wantAct(t, base, giveAct(0)); code != impl.OK || !slices.Equal(got.Done, c.want) {
			t.Errorf("%q grows to %q, not %q, %d", c.done, got.Done, c.want, code)
		}
		for _, a := range []impl.ClusterAct{breakAct(0, 0), breakAct(0, 20), breakAct(0, 1000), loseAct(0), twiceAct(0), crashAct(0), startAct(2)} {
			if got, code := wantAct(t, base, a); code != impl.OK || !slices.Equal(got.Done, c.done) {
				t.Errorf("%s: %q grows to %q, %d", actShown(a), c.done, got.Done, code)
			}
		}
		full := roomFor(t, base, 0, 18)
		if got, code := wantAct(t, full, giveAct(0)); code == impl.ErrFull && !slices.Equal(got.Done, c.done) {
			t.Errorf("with no room: %q grows to %q, %d", c.done, got.Done, code)
		}
	}
	alone := newCluster(1)
	for range 5 {
		alone, _ = wantAct(t, alone, tickAct(0, 0))
	}
	for i := 1; i < 60; i++ {
		var code int
		if alone, code = wantAct(t, alone, proposeAct(0, fmt.Sprint("data ", i))); code != impl.OK || len(alone.Done) != 1+i || alone.Done[0] != "" || alone.Done[i] != fmt.Sprint("data ", i) {
			t.Fatal(clusterShown(alone), code)
		}
	}
	wantActed(t, alone, proposeAct(0, "more"), alone, impl.ErrFull)
}

// Which code comes first where several hold.
func TestCodesOfActsInTheirOrder(t *testing.T) {
	bad := impl.Cluster{}
	for _, kind := range []int{0, 1, 2, 8, 9} {
		wantActed(t, bad, impl.ClusterAct{Kind: kind, Node: -1, N: -1}, bad, impl.ErrBad)
	}
	c := baseCluster()
	long := strings.Repeat("d", 401)
	for _, x := range []struct {
		a    impl.ClusterAct
		code int
	}{
		{impl.ClusterAct{Kind: 9, Node: 7, N: -1}, impl.ErrForm}, {tickAct(3, -1), impl.ErrRange}, {tickAct(2, -1), impl.ErrDown}, {tickAct(1, -1), impl.ErrRange},
		{proposeAct(3, long), impl.ErrRange}, {proposeAct(2, long), impl.ErrDown}, {proposeAct(2, ""), impl.ErrDown}, {proposeAct(0, ""), impl.ErrRange}, {proposeAct(0, long), impl.ErrRange}, {proposeAct(0, "x"), impl.ErrLeader},
		{startAct(3), impl.ErrRange}, {startAct(1), impl.ErrTwice}, {crashAct(3), impl.ErrRange}, {crashAct(2), impl.ErrDown}, {twiceAct(5), impl.ErrRange}, {giveAct(5), impl.ErrRange},
	} {
		wantActed(t, c, x.a, c, x.code)
	}
	// A full log is told of a leader alone, ahead of a store without room; both are ErrFull.
	full := longLog(60, 7, "x")
	follower := clusterOf(withLog(nodeOf(0, 1, 7, 0, impl.RoFollower, "", 0), full))
	follower.Stores[0] = filledStore(t, stateIn(follower.Nodes[0]), 60000)
	wantActed(t, follower, proposeAct(0, "x"), follower, impl.ErrLeader)
	wantActed(t, follower, proposeAct(0, long), follower, impl.ErrRange)
	leader := clusterOf(withLog(nodeOf(0, 1, 7, 0, impl.RoLeader, "", 0), full))
	wantActed(t, leader, proposeAct(0, "x"), leader, impl.ErrFull)
	wantActed(t, leader, proposeAct(0, ""), leader, impl.ErrRange)
	// A message to a node that is down is taken off though its store has no room.
	down := roomFor(t, c, 2, 0)
	wantActed(t, down, giveAct(1), withoutMessage(down, 1), impl.ErrDown)
	wantActed(t, down, breakAct(1, 9), withoutMessage(down, 1), impl.ErrDown)
}

// A leader of Term 0 is right, but an entry of its Term is not: such a cluster stays as it was.
func TestAProposalOfTermZero(t *testing.T) {
	for nodes := 1; nodes <= 3; nodes++ {
		c := newCluster(nodes)
		c.Nodes[0].Role = impl.RoLeader
		kept := cloneCluster(c)
		if got, code := impl.ClusterStep(c, proposeAct(0, "x")); code == impl.OK || !sameClusters(got, kept) || !sameClusters(c, kept) {
			t.Error(clusterShown(got), code)
		}
	}
}

func TestClusterRunsOfSoManyActs(t *testing.T) {
	for size, want := range map[int]int{0: impl.OK, 1: impl.OK, 239: impl.OK, 240: impl.OK, 241: impl.ErrMany, impl.MaxList: impl.ErrMany, impl.MaxList + 1: impl.ErrLong} {
		acts := slices.Repeat([]impl.ClusterAct{tickAct(0, 3)}, size)
		for _, nodes := range append([]int{-1, 0, 1, 3, 5, 6}, strayNumbers...) {
			want := want
			if want != impl.ErrLong && !inBounds(nodes, 1, 5) {
				want = impl.ErrRange
			}
			c, codes, code := impl.ClusterRun(nodes, acts)
			if code != want || code != impl.OK && (len(codes) != 0 || !sameClusters(c, impl.Cluster{})) {
				t.Errorf("%d acts of %d nodes: %s, %v, %d, not %d", size, nodes, clusterShown(c), codes, code, want)
			}
			if code == impl.OK && (!slices.Equal(codes, make([]int, size)) || !impl.ClusterOK(c) || len(c.Nodes) != nodes) {
				t.Errorf("%d acts of %d nodes: %s, %v", size, nodes, clusterShown(c), codes)
			}
		}
	}
	for nodes := 1; nodes <= 5; nodes++ {
		for _, acts := range [][]impl.ClusterAct{nil, {}} {
			if c, codes, code := impl.ClusterRun(nodes, acts); code != impl.OK || len(codes) != 0 || !sameClusters(c, newCluster(nodes)) {
				t.Error("no acts:", clusterShown(c), codes, code)
			}
		}
	}
}

func TestTheCodesOfAClusterRun(t *testing.T) {
	ticks := slices.Repeat([]impl.ClusterAct{tickAct(1, 0)}, 6)
	long := strings.Repeat("d", impl.MaxText+1)
	acts := append(ticks, giveAct(2), giveAct(0), giveAct(1), proposeAct(1, "x"), proposeAct(0, "x"), proposeAct(1, long), impl.ClusterAct{}, crashAct(0), tickAct(0, 0), giveAct(1), startAct(0), startAct(0), giveAct(0), giveAct(2))
	c, codes, code := impl.ClusterRun(3, acts)
	want := []int{0, 0, 0, 0, 0, 0, impl.ErrRange, 0, 0, 0, impl.ErrLeader, impl.ErrRange, impl.ErrForm, 0, impl.ErrDown, impl.ErrDown, 0, impl.ErrTwice, 0, 0}
	if code != impl.OK || !slices.Equal(codes, want) {
		t.Fatal(codes, code, clusterShown(c))
	}
	wantRun(t, 3, acts)
	alone, codes, _ := impl.ClusterRun(1, append(slices.Repeat([]impl.ClusterAct{tickAct(0, 0)}, 5), proposeAct(0, "x"), proposeAct(0, ""), twiceAct(0)))
	if !slices.Equal(codes, []int{0, 0, 0, 0, 0, 0, impl.ErrRange, impl.ErrRange}) || !slices.Equal(alone.Done, []string{"", "x"}) {
		t.Error(codes, clusterShown(alone))
	}
}

// wantRun asks that a run is its acts one by one.
func wantRun(t *testing.T, nodes int, acts []impl.ClusterAct) {
	t.Helper()
	kept := slices.Clone(acts)
	got, codes, code := impl.ClusterRun(nodes, acts)
	want := newCluster(nodes)
	for i, a := range acts {
		next, wantCode := modelClusterStep(want, a)
		if want = next; code != impl.OK || i >= len(codes) || codes[i] != wantCode {
			t.Fatalf("act %d, %s: %v, %d, not %d", i, actShown(a), codes, code, wantCode)
		}
	}
	if len(codes) != len(acts) || !sameClusters(got, want) || !slices.Equal(acts, kept) {
		t.Fatalf("%d codes of %d acts, %s, not %s", len(codes), len(acts), clusterShown(got), clusterShown(want))
	}
	again, codesAgain, _ := impl.ClusterRun(nodes, acts)
	wantApart(t, "ClusterRun", acts, got, codes, again, codesAgain)
}

func wantBool(t *testing.T, what string, c impl.Cluster, call func(impl.Cluster) (bool, int), want bool) {
	t.Helper()
	kept := cloneCluster(c)
	if got, code := call(c); got != want || code != impl.OK || !sameClusters(c, kept) {
		t.Errorf("%s of %s is %v, %d, not %v", what, clusterShown(kept), got, code, want)
	}
}

// By just half of the stores nothing is held.
func TestStoresThatHold(t *testing.T) {
	for nodes := 1; nodes <= 5; nodes++ {
		for held := range 1 << nodes {
			for variant := range 4 {
				var list []impl.Node
				count := 0
				for id := range nodes {
					log := []string{"", "1:a", "1:a 1:x", "1:x 1:b"}[variant]
					if held>>id&1 == 1 {
						log = []string{"1:a 2:b", "1:a 1:b 3:c", "3:a 3:b", "2:a 2:b 2: 3:d"}[(id+variant)%4]
						count++
					}
					n := nodeOf(id, nodes, 3, -1, impl.RoFollower, log, 0)
					if n.Up = (id+variant)%3 > 0; variant == 1 {
						n.Commit = min(1, len(n.Log))
					}
					list = append(list, n)
				}
				c := clusterOf(list...)
				wantBool(t, "StoresHold", withDone(c, "a", "b"), impl.StoresHold, 2*count > nodes)
				wantBool(t, "StoresHold of none", c, impl.StoresHold, true)
				wantBool(t, "StoresHold of other data", withDone(c, "a", "b", "e"), impl.StoresHold, false)
			}
		}
	}
	c := clusterOf(nodeOf(0, 1, 7, 0, impl.RoFollower, "1: 2:a", 0))
	wantBool(t, "StoresHold of empty data", withDone(c, ""), impl.StoresHold, true)
	wantBool(t, "StoresHold of empty data", withDone(c, "", "a"), impl.StoresHold, true)
	wantBool(t, "StoresHold of empty data", withDone(c, "", ""), impl.StoresHold, false)
	wantBool(t, "StoresHold without empty data", withDone(c, "a"), impl.StoresHold, false)
	wantBool(t, "StoresHold of one more", withDone(c, "", "a", ""), impl.StoresHold, false)
}

func TestCommitsThatAgree(t *testing.T) {
	log := "1:a 2: 2:c 3:d"
	for nodes := 1; nodes <= 5; nodes++ {
		for id := range nodes {
			for commit := range 5 {
				for other := range 5 {
					var list []impl.Node
					for i := range nodes {
						list = append(list, nodeOf(i, nodes, 5, -1, impl.RoFollower, log, other))
					}
					list[id].Commit = commit
					list[id].Up = commit%2 == 0
					most := commit
					if nodes > 1 {
						most = max(commit, other)
					}
					c := clusterOf(list...)
					for done := range 5 {
						wantBool(t, "CommitsAgree", withDone(c, []string{"a", "", "c", "d"}[:done]...), impl.CommitsAgree, most <= done)
					}
					wantBool(t, "CommitsAgree", withDone(c, "a", "", "x", "d", "e"), impl.CommitsAgree, most <= 2)
					wantBool(t, "CommitsAgree", withDone(c, "x", "", "c", "d"), impl.CommitsAgree, most == 0)
					wantBool(t, "CommitsAgree", withDone(c, "a", "c", "d", "e"), impl.CommitsAgree, most <= 1)
				}
			}
		}
	}
	// What a node has beyond its Commit, and of which Term it is, does not count.
	c := clusterOf(nodeOf(0, 2, 5, -1, impl.RoFollower, "1:a 2:b 2:x", 2), nodeOf(1, 2, 5, -1, impl.RoFollower, "5:a 5:b 5:c", 2))
	wantBool(t, "CommitsAgree", withDone(c, "a", "b", "d"), impl.CommitsAgree, true)
	wantBool(t, "CommitsAgree", withDone(c, "a"), impl.CommitsAgree, false)
}

func TestLongestDone(t *testing.T) {
	full := slices.Repeat([]string{strings.Repeat("d", 400)}, 60)
	for _, x := range []struct{ done, want []string }{
		{nil, nil}, {[]string{}, nil}, {[]string{""}, nil}, {[]string{"", "", ""}, nil}, {[]string{"a"}, []string{"a"}}, {[]string{"", "a", "", "", "b", "a", ""}, []string{"a", "b", "a"}}, {[]string{"\x00", "", " "}, []string{"\x00", " "}}, {full, full}, {make([]string, 60), nil},
	} {
		c := withDone(baseCluster(), x.done...)
		kept := cloneCluster(c)
		list, code := impl.LongestDone(c)
		if code != impl.OK || !slices.Equal(list, x.want) || !sameClusters(c, kept) {
			t.Errorf("LongestDone of %.60q is %.60q, %d", x.done, list, code)
		}
		again, _ := impl.LongestDone(c)
		wantApart(t, "LongestDone", c, list, again)
	}
}

// rack is a cluster that goes on act by act, and is asked what is promised of it at each.
type rack struct {
	t       *testing.T
	c       impl.Cluster
	leaders map[int]int
	codes   map[[2]int]int
	acts    []impl.ClusterAct
}

func newRack(t *testing.T, nodes int) *rack {
	t.Helper()
	c, code := impl.NewCluster(nodes)
	if code != impl.OK {
		t.Fatal("NewCluster", code)
	}
	return &rack{t: t, c: c, leaders: map[int]int{}, codes: map[[2]int]int{}}
}

func (r *rack) act(a impl.ClusterAct) int {
	r.t.Helper()
	was := r.c
	next, code := wantAct(r.t, was, a)
	r.c, r.acts = next, append(r.acts, a)
	r.codes[[2]int{a.Kind, code}]++
	if len(next.Done) < len(was.Done) || !slices.Equal(next.Done[:len(was.Done)], was.Done) {
		r.t.Fatalf("%s: Done was %q, and is %q", actShown(a), was.Done, next.Done)
	}
	kept := len(was.Wire)
	if a.Kind == impl.ClGive && code != impl.ErrRange {
		kept--
	}
	if a.Kind == impl.ClGive || a.Kind == impl.ClTick || a.Kind == impl.ClPropose {
		for _, m := range next.Wire[min(kept, len(next.Wire)):] {
			r.wantSure(m)
		}
	}
	r.wantAgreement()
	return code
}

// wantSure asks that the store of who sends a message leads to what it tells, and would behind a crash, too.
func (r *rack) wantSure(m impl.Message) {
	r.t.Helper()
	store, _ := impl.CrashStore(r.c.Stores[m.From], 0)
	state, _, code := modelRecover(store)
	ok := code == impl.OK && state.Term == m.Term
	switch m.Kind {
	case impl.RmVote:
		ok = ok && state.Vote == m.From && len(state.Log) == m.Index
	case impl.RmVoted:
		ok = ok && (state.Vote == m.To || !m.Ok)
	case impl.RmAppend:
		ok = ok && slices.Equal(state.Log[m.Index:], m.Entries)
	case impl.RmAppended:
		ok = ok && (len(state.Log) >= m.Index || !m.Ok)
	}
	if !ok {
		r.t.Fatalf("%s is sent, with %s on the store, %d", messageShown(m), stateShown(state), code)
	}
}

// wantAgreement is the theorem of agreement, asked of the cluster itself and of the calls that ask it; and that a term has one leader.
func (r *rack) wantAgreement() {
	r.t.Helper()
	count := 0
	for id, n := range r.c.Nodes {
		known, _ := impl.Committed(n)
		if len(known) > len(r.c.Done) || !slices.Equal(known, r.c.Done[:len(known)]) {
			r.t.Fatalf("node %d knows %q, Done is %q", id, known, r.c.Done)
		}
		state, _, _ := modelRecover(r.c.Stores[id])
		holds := len(state.Log) >= len(r.c.Done)
		for i, data := range r.c.Done {
			holds = holds && state.Log[i].Data == data
		}
		count += oneIf(holds)
		if n.Role == impl.RoLeader {
			if other, led := r.leaders[n.Term]; led && other != id {
				r.t.Fatalf("term %d has leaders %d and %d", n.Term, other, id)
			}
			r.leaders[n.Term] = id
		}
	}
	if 2*count <= len(r.c.Nodes) {
		r.t.Fatalf("Done is on %d stores: %s", count, clusterShown(r.c))
	}
	agree, code := impl.CommitsAgree(r.c)
	hold, code2 := impl.StoresHold(r.c)
	if !agree || !hold || code != impl.OK || code2 != impl.OK {
		r.t.Fatalf("CommitsAgree %v, %d, StoresHold %v, %d: %s", agree, code, hold, code2, clusterShown(r.c))
	}
}

// settle gives all, till nothing is left to give.
func (r *rack) settle() {
	r.t.Helper()
	for range 1000 {
		if len(r.c.Wire) == 0 {
			return
		}
		r.act(giveAct(0))
	}
	r.t.Fatal("messages without end:", clusterShown(r.c))
}

func (r *rack) leader() int {
	leader, term := -1, -1
	for id, n := range r.c.Nodes {
		if n.Role == impl.RoLeader && n.Term > term {
			leader, term = id, n.Term
		}
	}
	for _, n := range r.c.Nodes {
		if n.Term > term {
			return -1
		}
	}
	return leader
}

// stand lets a node stand for the next Term, or, if it leads, tell all that it does; and gives all.
func (r *rack) stand(id int) {
	r.t.Helper()
	was := r.c.Nodes[id]
	for range 13 {
		if r.act(tickAct(id, 0)); r.c.Nodes[id].Term > was.Term || was.Role == impl.RoLeader && len(r.c.Wire) > 0 {
			break
		}
	}
	r.settle()
}

// elect starts all, and lets one after the other stand, till one of them leads.
func (r *rack) elect() int {
	r.t.Helper()
	for id, n := range r.c.Nodes {
		if !n.Up {
			r.act(startAct(id))
		}
	}
	r.settle()
	for i := 0; i < 5*len(r.c.Nodes); i++ {
		if r.leader() >= 0 {
			return r.leader()
		}
		r.stand(i % len(r.c.Nodes))
	}
	r.t.Fatal("none leads:", clusterShown(r.c))
	return -1
}

// wantCommitted asks that, with all up, and all given, what a leader is told is committed by all.
func (r *rack) wantCommitted(data string) {
	r.t.Helper()
	leader := r.elect()
	if code := r.act(proposeAct(leader, data)); code != impl.OK {
		r.t.Fatal("ClPropose", code, clusterShown(r.c))
	}
	r.settle()
	for range 2 {
		r.act(tickAct(leader, 0))
	}
	r.settle()
	log := r.c.Nodes[leader].Log
	if len(r.c.Done) != len(log) || r.c.Done[len(log)-1] != data {
		r.t.Fatalf("%q is not done: %s", data, clusterShown(r.c))
	}
	for _, n := range r.c.Nodes {
		if n.Commit != len(log) || !slices.Equal(n.Log, log) {
			r.t.Fatalf("%q is not committed by %s", data, nodeShown(n))
		}
	}
}

func TestWithAllUpAndAllGiven(t *testing.T) {
	t.Parallel()
	for nodes := 1; nodes <= 5; nodes++ {
		for first := range nodes {
			r := newRack(t, nodes)
			r.stand(first)
			if r.leader() != first || !slices.Equal(r.c.Done, []string{""}) {
				t.Fatal("none leads:", clusterShown(r.c))
			}
			for i := range 20 {
				r.wantCommitted(fmt.Sprint("data ", i))
			}
			if list, code := impl.LongestDone(r.c); code != impl.OK || len(list) != 20 || list[0] != "data 0" || list[19] != "data 19" {
				t.Error("LongestDone", list, code)
			}
			// Another one goes on with it.
			r.act(crashAct(first))
			r.wantCommitted("more")
		}
	}
}

// drawnAct is mostly one that may be done; messages come late, out of order, twice or never, and the power goes at any byte.
// What is from the node apart, or to it, is mostly lost; one that is ahead of the others has most of the ticks.
func drawnAct(draw *rand.Rand, c impl.Cluster, step, apart, ahead int) impl.ClusterAct {
	a := impl.ClusterAct{Node: draw.Intn(len(c.Nodes)), Keep: draw.Intn(130) - 10}
	if len(c.Wire) > 0 {
		if a.N = draw.Intn(len(c.Wire)); draw.Intn(3) > 0 {
			a.N = min(a.N, draw.Intn(3))
		}
	}
	what := draw.Intn(100)
	if len(c.Wire) == 0 && draw.Intn(10) > 0 {
		what = draw.Intn(30)
	}
	switch {
	case what < 25:
		a.Kind, a.N = impl.ClTick, draw.Intn(1000001)
		if draw.Intn(4) > 0 {
			a.Node = ahead
		}
		if !c.Nodes[a.Node].Up && draw.Intn(2) > 0 {
			a.Kind = impl.ClStart
		}
	case what < 34:
		a.Kind, a.Data = impl.ClPropose, fmt.Sprint("data ", step)
		for id, n := range c.Nodes {
			if n.Role == impl.RoLeader && (id == apart || draw.Intn(2) > 0) {
				a.Node = id
			}
		}
	case what < 37:
		a.Kind = impl.ClLose
	case what < 41:
		a.Kind = impl.ClTwice
	case what < 42:
		a.Kind = impl.ClCrash
	case what < 52:
		a.Kind = impl.ClStart
		for id, n := range c.Nodes {
			if !n.Up {
				a.Node = id
			}
		}
	case what < 55:
		a.Kind = impl.ClBreak
	case what < 56:
		a.Kind, a.N, a.Node = draw.Intn(11)-1, draw.Intn(70)-3, draw.Intn(7)-1
	default:
		a.Kind = impl.ClGive
		if a.N < len(c.Wire) && (c.Wire[a.N].From == apart || c.Wire[a.N].To == apart) && draw.Intn(8) > 0 {
			a.Kind = impl.ClLose
		}
	}
	return a
}

func alikeFromTheFront(a, b []impl.Entry) int {
	n := 0
	for n < len(a) && n < len(b) && a[n] == b[n] {
		n++
	}
	return n
}

// Whatever comes, and wherever the power goes.
func TestDrawnRunsOfClusters(t *testing.T) {
	t.Parallel()
	draw := rand.New(rand.NewSource(91))
	codes, done, led, cut := map[[2]int]int{}, 0, 0, 0
	for run := range 80 {
		nodes := 1 + run%5
		r := newRack(t, nodes)
		apart, ahead := -1, 0
		for step := range 480 {
			if step%40 == 0 {
				apart, ahead = draw.Intn(2*nodes+1)-nodes-1, draw.Intn(nodes)
				if leader := r.leader(); nodes > 2 && leader >= 0 && draw.Intn(3) == 0 {
					apart, ahead = leader, (leader+1)%nodes
				}
			}
			was := r.c
			r.act(drawnAct(draw, r.c, step, apart, ahead))
			for id, n := range r.c.Nodes {
				cut += oneIf(alikeFromTheFront(was.Nodes[id].Log, n.Log) < len(was.Nodes[id].Log))
			}
		}
		wantRun(t, nodes, r.acts[:impl.MaxActs])
		if nodes > 1 {
			done, led = done+len(r.c.Done), led+len(r.leaders)
		}
		for key, n := range r.codes {
			codes[key] += n
		}
		// When all are up again, and all is given, it goes on.
		if len(r.c.Done) < 40 {
			r.wantCommitted("at last")
		}
	}
	if done < 400 || led < 120 || cut < 8 {
		t.Error("too little was done:", done, led, cut)
	}
	for _, key := range [][2]int{{impl.ClTick, impl.OK}, {impl.ClTick, impl.ErrDown}, {impl.ClGive, impl.OK}, {impl.ClGive, impl.ErrDown}, {impl.ClGive, impl.ErrRange}, {impl.ClLose, impl.OK}, {impl.ClTwice, impl.OK}, {impl.ClCrash, impl.OK}, {impl.ClStart, impl.OK}, {impl.ClStart, impl.ErrTwice}, {impl.ClPropose, impl.OK}, {impl.ClPropose, impl.ErrLeader}, {impl.ClBreak, impl.OK}, {impl.ClBreak, impl.ErrDown}} {
		if codes[key] < 20 {
			t.Error("drawn too seldom:", key, codes[key])
		}
	}
}

// replaced is a rack of three in which what a leader was told, and nobody else heard of, gave way to what another was told.
func replaced(t *testing.T) *rack {
	t.Helper()
	r := newRack(t, 3)
	r.stand(0)
	r.act(proposeAct(0, "one"))
	r.settle()
	for _, data := range []string{"lost", "lost too"} {
		r.act(proposeAct(0, data))
	}
	for len(r.c.Wire) > 0 {
		r.act(loseAct(0))
	}
	for r.c.Nodes[1].Role == impl.RoFollower {
		r.act(tickAct(1, 0))
	}
	r.settle()
	r.act(proposeAct(1, "two"))
	r.settle()
	return r
}

func TestWhatNobodyElseHeardOfGivesWay(t *testing.T) {
	r := replaced(t)
	if list, code := impl.LongestDone(r.c); code != impl.OK || !slices.Equal(list, []string{"one", "two"}) || r.leader() != 1 {
		t.Error(list, clusterShown(r.c))
	}
	if log := r.c.Nodes[0].Log; !slices.Equal(log, logOf("1: 1:one 2: 2:two")) || !strings.Contains(r.c.Stores[0].Data, framesText(cutText(2))) {
		t.Error("nothing was cut:", storeShown(r.c.Stores[0]))
	}
}

// behind is a rack that goes on from a cluster that came about so far.
func behind(t *testing.T, c impl.Cluster) *rack {
	return &rack{t: t, c: c, leaders: map[int]int{}, codes: map[[2]int]int{}}
}

// The power goes at every byte of everything that is written on the way; then all are started again, and go on.
func TestThePowerGoesAtEveryByteOfARun(t *testing.T) {
	acts := replaced(t).acts
	c := newCluster(3)
	broken := 0
	for _, a := range acts {
		next, _ := impl.ClusterStep(c, a)
		if a.Kind == impl.ClGive {
			to := c.Wire[a.N].To
			written := len(next.Stores[to].Data) - len(c.Stores[to].Data)
			for keep := range written + 1 {
				r := behind(t, c)
				if code := r.act(breakAct(a.N, keep)); code != impl.OK || r.c.Nodes[to].Up || len(r.c.Wire) != len(c.Wire)-1 {
					t.Fatal("ClBreak", code, clusterShown(r.c))
				}
				r.wantCommitted("at last")
				broken++
			}
		}
		c = next
	}
	if broken < 300 {
		t.Error("broken too seldom:", broken)
	}
}

// By chance of the messages an entry may be on more than half of the stores, and go all the same: it was not known to be committed.
func TestAnEntryOnMoreThanHalfOfTheStoresMayStillGo(t *testing.T) {
	c := clusterOf(nodeOf(0, 5, 4, 0, impl.RoFollower, "1: 2:x 4:", 0), nodeOf(1, 5, 4, 0, impl.RoFollower, "1: 2:x", 0), nodeOf(2, 5, 4, 0, impl.RoFollower, "1: 2:x", 0), nodeOf(3, 5, 4, -1, impl.RoFollower, "1:", 0), nodeOf(4, 5, 4, -1, impl.RoFollower, "1: 3:y", 0))
	c.Done = []string{""}
	c, _ = wantAct(t, c, crashAct(0))
	r := behind(t, c)
	for r.c.Nodes[4].Role == impl.RoFollower {
		r.act(tickAct(4, 0))
	}
	r.settle()
	if r.leader() != 4 || !slices.Equal(r.c.Done, []string{"", "y", ""}) {
		t.Fatal(clusterShown(r.c))
	}
	r.wantCommitted("z")
	if !slices.Equal(r.c.Done, []string{"", "y", "", "z"}) {
		t.Error(clusterShown(r.c))
	}
}

// roomyCluster has memory behind each of its lists, those within nodes and messages too, which no call may write to; lists tells all of it.
func roomyCluster(c impl.Cluster) (roomy impl.Cluster, lists func() string) {
	var tell []func() string
	nodes, wire := slices.Clone(c.Nodes), slices.Clone(c.Wire)
	for i, n := range c.Nodes {
		wide, list := roomyNode(n)
		nodes[i], tell = wide, append(tell, list)
	}
	for i, m := range c.Wire {
		wide, list := roomyMessage(m)
		wire[i], tell = wide, append(tell, list)
	}
	nodes, wire = append(nodes, impl.Node{Id: -7}, impl.Node{Id: -7}), append(wire, slices.Repeat([]impl.Message{{Kind: -7}}, 5)...)
	stores := append(slices.Clone(c.Stores), impl.Store{Sure: -7}, impl.Store{Sure: -7})
	done := append(slices.Clone(c.Done), "behind", "behind", "behind")
	roomy = impl.Cluster{Nodes: nodes[:len(c.Nodes)], Stores: stores[:len(c.Stores)], Wire: wire[:len(c.Wire)], Done: done[:len(c.Done)]}
	return roomy, func() string {
		text := fmt.Sprintf("%+v %q %+v %q", nodes, fmt.Sprint(stores), wire, done)
		for _, list := range tell {
			text += list()
		}
		return text
	}
}

// someActs are of each kind, such as are done and such as are not.
func someActs() []impl.ClusterAct {
	long := strings.Repeat("d", 401)
	list := []impl.ClusterAct{{}, {Kind: 9}, {Kind: math.MinInt, Node: -1}, proposeAct(1, "x"), proposeAct(1, ""), proposeAct(0, "x"), proposeAct(1, long), proposeAct(2, "x"), proposeAct(1, strings.Repeat("d", impl.MaxText+1)), tickAct(0, -1), tickAct(1, 1000001)}
	for n := -1; n <= 5; n++ {
		list = append(list, tickAct(n, 3), giveAct(n), loseAct(n), twiceAct(n), crashAct(n), startAct(n), breakAct(n, 0), breakAct(n, 25), breakAct(n, math.MaxInt))
	}
	return list
}

// someClusters are right, and at each of the edges that acts meet.
func someClusters(t *testing.T) []impl.Cluster {
	late := baseCluster()
	late.Nodes[0].Elapsed, late.Nodes[1].Elapsed = 4, 1
	full := withWire(baseCluster(), slices.Repeat(baseCluster().Wire, 12)...)
	cut := withWire(baseCluster(), appendOf(1, 0, 9, 1, 1, 3, "8:x 9:y"), appendOf(1, 0, 9, 0, 0, 0, "2:x"), votedOf(0, 1, 7, true))
	tight := roomFor(t, roomFor(t, baseCluster(), 0, 5), 1, 5)
	return []impl.Cluster{newCluster(1), newCluster(3), newCluster(5), baseCluster(), late, cloneCluster(full), cut, tight, withDone(baseCluster()), withDone(baseCluster(), make([]string, 60)...), withWire(baseCluster()), replaced(t).c}
}

func wrongClusters() []impl.Cluster {
	return []impl.Cluster{
		{}, newCluster(6), changedCluster(func(c *impl.Cluster) { c.Nodes[1].Wait = 4 }), changedCluster(func(c *impl.Cluster) { c.Nodes[1].Id = 0 }), changedCluster(func(c *impl.Cluster) { c.Stores = c.Stores[:2] }), changedCluster(func(c *impl.Cluster) { c.Stores[0].Sure-- }), changedCluster(func(c *impl.Cluster) { c.Stores[0].Data += "x" }),
		changedCluster(func(c *impl.Cluster) { c.Nodes[2].Log[1].Data = "other" }), changedCluster(func(c *impl.Cluster) { c.Wire[2].Term = 0 }), changedCluster(func(c *impl.Cluster) { c.Wire[2].From = 4 }), withDone(baseCluster(), strings.Repeat("d", 401)), withDone(baseCluster(), make([]string, 61)...),
	}
}

func TestClustersAreNotChangedAndAnswersAreNewMemory(t *testing.T) {
	for _, base := range append(someClusters(t), wrongClusters()...) {
		c, lists := roomyCluster(base)
		was := lists()
		for _, a := range someActs() {
			got, _ := impl.ClusterStep(c, a)
			again, _ := impl.ClusterStep(c, a)
			if lists() != was || !sameClusters(c, base) {
				t.Fatalf("%s writes into %s, or behind it", actShown(a), clusterShown(base))
			}
			if !sameClusters(got, again) {
				t.Errorf("%s with %s answers otherwise when it comes again", actShown(a), clusterShown(base))
			}
			wantApart(t, actShown(a), c, got, again)
		}
		impl.ClusterOK(c)
		impl.CommitsAgree(c)
		impl.StoresHold(c)
		list, _ := impl.LongestDone(c)
		if lists() != was || !sameClusters(c, base) {
			t.Errorf("a call writes into %s, or behind it", clusterShown(base))
		}
		wantApart(t, "LongestDone", c, list)
	}
}

func TestActListsAreNotChangedNorWhatStandsBehindThem(t *testing.T) {
	for _, acts := range someClusterRuns(t) {
		room := append(slices.Clone(acts), impl.ClusterAct{Kind: -7}, impl.ClusterAct{Kind: -7})
		was := slices.Clone(room)
		for nodes := range 7 {
			c, codes, _ := impl.ClusterRun(nodes, room[:len(acts)])
			again, codesAgain, _ := impl.ClusterRun(nodes, room[:len(acts)])
			if !slices.Equal(room, was) {
				t.Error("ClusterRun writes into its acts, or behind them")
			}
			wantApart(t, "ClusterRun", room, c, codes, again, codesAgain)
		}
	}
}
