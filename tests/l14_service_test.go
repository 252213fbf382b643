package tests

import (
	"fmt"
	"math"
	"math/rand"
	"slices"
	"strings"
	"sync"
	"testing"
	"testing/synctest"

	"loop.example/g00308/impl"
)

const worldKey = "world key"

func cloneWorld(w impl.World) impl.World {
	w.Cluster, w.Clients = cloneCluster(w.Cluster), slices.Clone(w.Clients)
	for i, c := range w.Clients {
		w.Clients[i] = cloneClient(c)
	}
	return w
}

func sameWorlds(a, b impl.World) bool {
	return a.W == b.W && a.H == b.H && sameClusters(a.Cluster, b.Cluster) && slices.EqualFunc(a.Clients, b.Clients, sameClients)
}

func worldShown(w impl.World) string {
	text := fmt.Sprintf("{%dx%d, %d clients", w.W, w.H, len(w.Clients))
	for _, c := range w.Clients {
		text += "\n  " + clientShown(c)
	}
	return text + "\n  " + clusterShown(w.Cluster) + "}"
}

func worldActShown(a impl.WorldAct) string {
	kind := map[int]string{1: "cluster", 2: "submit", 3: "poll", 4: "token"}[a.Kind]
	return fmt.Sprintf("{%d %s, client %d, node %d, %s, %.200s, %.90q of %d bytes}", a.Kind, kind, a.Client, a.Node, actShown(a.Cluster), fmt.Sprintf("%+v", a.Command), a.Token, len(a.Token))
}

// roomyWorld has memory behind each of its lists, those of its cluster and its clients too, which no call may write to; lists tells all of it.
func roomyWorld(w impl.World) (roomy impl.World, lists func() string) {
	cluster, list := roomyCluster(w.Cluster)
	tell := []func() string{list}
	clients := slices.Clone(w.Clients)
	for i, c := range w.Clients {
		wide, list := roomyClient(c)
		clients[i], tell = wide, append(tell, list)
	}
	clients = append(clients, impl.Client{Id: -7}, impl.Client{Id: -7})
	roomy = impl.World{W: w.W, H: w.H, Cluster: cluster, Clients: clients[:len(w.Clients)]}
	return roomy, func() string {
		text := fmt.Sprintf("%+v", clients)
		for _, list := range tell {
			text += list()
		}
		return text
	}
}

func worldActs(list ...impl.ClusterAct) []impl.WorldAct {
	var acts []impl.WorldAct
	for _, a := range list {
		acts = append(acts, clusterAct(a))
	}
	return acts
}

func clusterAct(a impl.ClusterAct) impl.WorldAct {
	return impl.WorldAct{Kind: impl.WoCluster, Cluster: a}
}

func submitAct(node int, c impl.Command) impl.WorldAct {
	return impl.WorldAct{Kind: impl.WoSubmit, Node: node, Command: c}
}

func pollAct(client, node int) impl.WorldAct {
	return impl.WorldAct{Kind: impl.WoPoll, Client: client, Node: node}
}

func tokenAct(client, node int, token string) impl.WorldAct {
	return impl.WorldAct{Kind: impl.WoToken, Client: client, Node: node, Token: token}
}

func worldOf(w, h int, c impl.Cluster, clients ...impl.Client) impl.World {
	return impl.World{W: w, H: h, Cluster: c, Clients: clients}
}

func newWorld(nodes, w, h int) impl.World {
	return worldOf(w, h, newCluster(nodes), newClient(worldKey, 0, "main"), newClient(worldKey, 1, "logs"))
}

// clientBehind has what the window showed behind so many of the saga, in 20 by 8; other rows if the window was not there then.
func clientBehind(id int, window string, number int) impl.Client {
	if number < 0 {
		return newClient(worldKey, id, window)
	}
	var list []string
	for _, data := range saga() {
		if data != "" {
			list = append(list, data)
		}
	}
	mux, rows := modelPicture(20, 8, list[:number], window)
	if rows == nil {
		mux, rows = emptyMux(20, 8), motleyRows(20, 8, number)
	}
	return clientWith(worldKey, id, window, mirrorOf(number, mux.W, mux.H, rows))
}

// sagaCluster has a node for each number, which knows the first so many of the saga to be committed; the last one is down, the first one leads.
func sagaCluster(counts ...int) impl.Cluster {
	var list []impl.Node
	most := 0
	for id, count := range counts {
		n := nodeKnowing(saga(), count)
		n.Id, n.Nodes, n.Wait = id, len(counts), 5+id
		n.Next, n.Match = slices.Repeat([]int{1}, len(counts)), make([]int, len(counts))
		n.Up = id == 0 || id < len(counts)-1
		list, most = append(list, n), max(most, n.Commit)
	}
	list[0].Role = impl.RoLeader
	return withDone(clusterOf(list...), saga()[:most]...)
}

// sagaWorld is right: nodes 0 to 3 know 18, 10, 5 and 0 of the saga, node 4 is down; client 0 has seen 10 of it, client 1 nothing yet.
func sagaWorld() impl.World {
	return worldOf(20, 8, sagaCluster(18, 10, 5, 0, 18), clientBehind(0, "main", 10), clientBehind(1, "logs", -1))
}

func modelWorldOK(w impl.World) bool {
	if !modelSizeOK(w.W, w.H) || !modelClusterOK(w.Cluster) || len(w.Clients) != 2 {
		return false
	}
	for i, c := range w.Clients {
		if c.Id != i || !modelClientOK(worldKey, c) {
			return false
		}
	}
	return true
}

func modelWorldStep(w impl.World, a impl.WorldAct) (impl.World, int) {
	if len(a.Token) > 65536 {
		return impl.World{}, impl.ErrLong
	}
	if !modelWorldOK(w) {
		return impl.World{}, impl.ErrBad
	}
	next, code := cloneWorld(w), impl.ErrForm
	switch a.Kind {
	case 1:
		next.Cluster, code = modelClusterStep(w.Cluster, a.Cluster)
	case 2, 3, 4:
		code = modelForClient(&next, a)
	}
	return next, code
}

func modelForClient(w *impl.World, a impl.WorldAct) int {
	if a.Client != 0 && a.Client != 1 || !inBounds(a.Node, 0, len(w.Cluster.Nodes)-1) {
		return impl.ErrRange
	}
	if a.Kind == 2 && !modelCommandOK(a.Command) {
		return impl.ErrBad
	}
	n := w.Cluster.Nodes[a.Node]
	if !n.Up {
		return impl.ErrDown
	}
	if a.Kind == 2 {
		next, code := modelClusterStep(w.Cluster, proposeAct(a.Node, string(modelCommandBytes(a.Command))))
		w.Cluster = next
		return code
	}
	token := a.Token
	if a.Kind == 3 {
		token = w.Clients[a.Client].Token
	}
	v, next, code := modelServe(worldKey, w.W, w.H, n, token)
	if code != impl.OK {
		return code
	}
	c, code := modelClientAccept(worldKey, w.Clients[a.Client], v, next)
	if code == impl.OK {
		w.Clients[a.Client] = c
	}
	return code
}

// wantWorldIs holds WorldOK against the model and what is written out by hand.
func wantWorldIs(t *testing.T, what string, base impl.World, want bool) {
	t.Helper()
	w, lists := roomyWorld(base)
	was := lists()
	if got, model := impl.WorldOK(w), modelWorldOK(base); got != want || model != want {
		t.Errorf("%s: WorldOK of %s is %v, of the model %v", what, worldShown(base), got, model)
	}
	if lists() != was || !sameWorlds(w, base) {
		t.Errorf("%s: WorldOK writes into %s, or behind it", what, worldShown(base))
	}
	if want {
		return
	}
	for _, a := range []impl.WorldAct{{}, clusterAct(tickAct(0, 0)), submitAct(0, at(1, windowCommand("main"))), submitAct(0, impl.Command{}), pollAct(0, 0), tokenAct(1, 0, ""), pollAct(-1, 9)} {
		if got, code := impl.WorldStep(w, a); code != impl.ErrBad || !sameWorlds(got, impl.World{}) {
			t.Errorf("%s: %s with %s: %s, %d", what, worldActShown(a), worldShown(base), worldShown(got), code)
		}
	}
}

// wantAsModel holds what an act makes of a world against the model.
func wantAsModel(t *testing.T, base impl.World, a impl.WorldAct, got impl.World, code int) {
	t.Helper()
	want, wantCode := modelWorldStep(base, a)
	if code != wantCode || !sameWorlds(got, want) {
		t.Fatalf("%s with %s:\n%s, %d, not\n%s, %d", worldActShown(a), worldShown(base), worldShown(got), code, worldShown(want), wantCode)
	}
	if zero := len(a.Token) > impl.MaxText || !modelWorldOK(base); impl.WorldOK(got) == zero || sameWorlds(got, impl.World{}) != zero {
		t.Fatalf("%s with %s, %d: WorldOK of %s", worldActShown(a), worldShown(base), code, worldShown(got))
	}
}

// wantWorldStep holds an act against the model, and asks that nothing of the world was changed, and that the answer is right and new memory.
func wantWorldStep(t *testing.T, base impl.World, a impl.WorldAct) (impl.World, int) {
	t.Helper()
	w, lists := roomyWorld(base)
	was := lists()
	got, code := impl.WorldStep(w, a)
	again, codeAgain := impl.WorldStep(w, a)
	wantAsModel(t, base, a, got, code)
	if codeAgain != code || !sameWorlds(again, got) {
		t.Fatalf("%s with %s answers otherwise when it comes again", worldActShown(a), worldShown(base))
	}
	if lists() != was || !sameWorlds(w, base) {
		t.Fatalf("%s writes into %s, or behind its lists", worldActShown(a), worldShown(base))
	}
	wantApart(t, worldActShown(a), w, got, again)
	return got, code
}

// wantWorldCode is for codes that are written out by hand, of acts that leave the world as it was with one.
func wantWorldCode(t *testing.T, what string, w impl.World, a impl.WorldAct, want int) impl.World {
	t.Helper()
	got, code := wantWorldStep(t, w, a)
	if code != want {
		t.Errorf("%s: %s: %d, not %d", what, worldActShown(a), code, want)
	}
	if code != impl.OK && len(a.Token) <= impl.MaxText && modelWorldOK(w) && !sameWorlds(got, w) {
		t.Errorf("%s: %s: with %d the world is %s, not %s", what, worldActShown(a), code, worldShown(got), worldShown(w))
	}
	return got
}

func TestWorldConstants(t *testing.T) {
	if got := []int{impl.WoCluster, impl.WoSubmit, impl.WoPoll, impl.WoToken}; !slices.Equal(got, []int{1, 2, 3, 4}) {
		t.Error(got)
	}
	if impl.WorldKey() != "world key" || impl.WorldKey() != worldKey {
		t.Errorf("WorldKey is %q", impl.WorldKey())
	}
}

func wantNewWorld(t *testing.T, nodes, w, h, want int) {
	t.Helper()
	got, code := impl.NewWorld(nodes, w, h)
	again, _ := impl.NewWorld(nodes, w, h)
	model := impl.World{}
	if want == impl.OK {
		model = newWorld(nodes, w, h)
	}
	if code != want || !sameWorlds(got, model) || !sameWorlds(again, model) || impl.WorldOK(got) != (want == impl.OK) {
		t.Fatalf("NewWorld(%d, %d, %d): %s, %d, not %s, %d", nodes, w, h, worldShown(got), code, worldShown(model), want)
	}
	wantApart(t, "NewWorld", got, again)
	run, codes, code := impl.WorldRun(nodes, w, h, nil)
	if code != want || len(codes) != 0 || !sameWorlds(run, model) {
		t.Fatalf("WorldRun(%d, %d, %d) of no acts: %s, %v, %d, not %d", nodes, w, h, worldShown(run), codes, code, want)
	}
}

func TestNewWorlds(t *testing.T) {
	for _, nodes := range append([]int{-1, 0, 1, 2, 3, 4, 5, 6, 7}, strayNumbers...) {
		for _, size := range [][2]int{{2, 2}, {12, 6}, {24, 10}, {1, 6}, {25, 6}, {12, 1}, {12, 11}, {1, 11}} {
			want := impl.OK
			if !inBounds(nodes, 1, 5) || !inBounds(size[0], 2, 24) || !inBounds(size[1], 2, 10) {
				want = impl.ErrRange
			}
			wantNewWorld(t, nodes, size[0], size[1], want)
		}
	}
	for _, n := range append([]int{-24, -10, -2, -1, 0, 1, 2, 3, 9, 10, 11, 12, 23, 24, 25, 240}, strayNumbers...) {
		wantNewWorld(t, 3, n, 6, impl.ErrRange*oneIf(!inBounds(n, 2, 24)))
		wantNewWorld(t, 3, 12, n, impl.ErrRange*oneIf(!inBounds(n, 2, 10)))
		wantNewWorld(t, 1, n, n, impl.ErrRange*oneIf(!inBounds(n, 2, 10)))
		wantNewWorld(t, 6, n, n, impl.ErrRange)
	}
}

func TestANewWorldWrittenOut(t *testing.T) {
	w, code := impl.NewWorld(5, 24, 10)
	if code != impl.OK || w.W != 24 || w.H != 10 || len(w.Cluster.Nodes) != 5 || len(w.Cluster.Wire)+len(w.Cluster.Done) != 0 || len(w.Clients) != 2 {
		t.Fatal(worldShown(w), code)
	}
	fresh, _ := impl.NewCluster(5)
	if !sameClusters(w.Cluster, fresh) {
		t.Error(clusterShown(w.Cluster))
	}
	for id, window := range []string{"main", "logs"} {
		c := w.Clients[id]
		if c.Id != id || c.Window != window || c.Mirror.Number != -1 || c.Mirror.W+c.Mirror.H+len(c.Mirror.Rows) != 0 || !impl.ClientOK("world key", c) {
			t.Error(clientShown(c))
		}
	}
	if token := w.Clients[0].Token; token != "token 0 main -1 ca1e286801618f4d2fc777c4d9c6bed8" {
		t.Error(token)
	}
}

func changedWorld(base impl.World, change func(w *impl.World)) impl.World {
	w := cloneWorld(base)
	change(&w)
	return w
}

func TestTheSizesOfWorlds(t *testing.T) {
	for _, base := range []impl.World{newWorld(3, 12, 6), sagaWorld()} {
		for _, n := range append([]int{-2, -1, 0, 1, 2, 3, 9, 10, 11, 12, 23, 24, 25}, strayNumbers...) {
			wantWorldIs(t, "another W", changedWorld(base, func(w *impl.World) { w.W = n }), inBounds(n, 2, 24))
			wantWorldIs(t, "another H", changedWorld(base, func(w *impl.World) { w.H = n }), inBounds(n, 2, 10))
			wantWorldIs(t, "another W and H", changedWorld(base, func(w *impl.World) { w.W, w.H = n, n }), inBounds(n, 2, 10))
		}
	}
}

func TestTheClustersOfWorlds(t *testing.T) {
	for _, c := range someClusters(t) {
		wantWorldIs(t, "a cluster that is right", changedWorld(sagaWorld(), func(w *impl.World) { w.Cluster = c }), true)
	}
	for _, c := range wrongClusters() {
		wantWorldIs(t, "a cluster that is not right", changedWorld(sagaWorld(), func(w *impl.World) { w.Cluster = c }), false)
		wantWorldIs(t, "a cluster that is not right", changedWorld(newWorld(1, 2, 2), func(w *impl.World) { w.Cluster = c }), false)
	}
}

func TestTheClientsOfWorlds(t *testing.T) {
	t.Parallel()
	wantWorldIs(t, "none", impl.World{}, false)
	wantWorldIs(t, "base", sagaWorld(), true)
	other := newClient(worldKey, 2, "main")
	for _, base := range []impl.World{newWorld(3, 12, 6), sagaWorld()} {
		zero, one := base.Clients[0], base.Clients[1]
		for what, list := range map[string][]impl.Client{
			"no client": nil, "an empty list": {}, "the first alone": {zero}, "the second alone": {one}, "three": {zero, one, other}, "the second twice": {zero, one, one}, "four": {zero, one, zero, one},
			"changed": {one, zero}, "the first one twice": {zero, zero}, "the second one at both": {one, one}, "a third one first": {other, one}, "a third one behind": {zero, other}, "an empty one": {zero, {}}, "an empty one first": {{}, one},
		} {
			wantWorldIs(t, what, changedWorld(base, func(w *impl.World) { w.Clients = list }), false)
		}
		for _, c := range append(wrongClients(worldKey), newClient("other", 0, "main"), newClient("", 0, "main"), newClient("key", 0, "main")) {
			for _, id := range []int{0, 1} {
				wantWorldIs(t, "a client that is not right", changedWorld(base, func(w *impl.World) { w.Clients[id] = c }), false)
				c.Id = id
				right := modelClientOK(worldKey, c)
				wantWorldIs(t, "a client of that number", changedWorld(base, func(w *impl.World) { w.Clients[id] = c }), right)
			}
		}
		for _, c := range someClients(worldKey) {
			for id := range 2 {
				wantWorldIs(t, "any client", changedWorld(base, func(w *impl.World) { w.Clients[id] = c }), c.Id == id)
				mine := clientWith(worldKey, id, c.Window, c.Mirror)
				wantWorldIs(t, "any window and mirror", changedWorld(base, func(w *impl.World) { w.Clients[id] = mine }), true)
				others := clientWith("world kez", id, c.Window, c.Mirror)
				wantWorldIs(t, "another key's token", changedWorld(base, func(w *impl.World) { w.Clients[id] = others }), false)
				mine.Token = modelToken(worldKey, 1-id, c.Window, c.Mirror.Number)
				wantWorldIs(t, "the other's token", changedWorld(base, func(w *impl.World) { w.Clients[id] = mine }), false)
			}
		}
	}
	wantWorldIs(t, "both of one window", worldOf(20, 8, newCluster(1), newClient(worldKey, 0, "logs"), newClient(worldKey, 1, "logs")), true)
}

// actsOfKinds are one of each kind that is done by the saga's world, and such as are not.
func actsOfKinds() []impl.WorldAct {
	return []impl.WorldAct{
		clusterAct(tickAct(0, 0)), submitAct(0, at(1, windowCommand("x"))), pollAct(0, 0), tokenAct(0, 0, ""), {}, {Kind: 5}, {Kind: -1},
		clusterAct(impl.ClusterAct{}), submitAct(0, impl.Command{}), pollAct(2, 0), tokenAct(0, 5, ""), pollAct(0, 4),
	}
}

func TestTokensOfActsThatAreTooLong(t *testing.T) {
	for _, a := range actsOfKinds() {
		a.Token = strings.Repeat("t", impl.MaxText)
		want := impl.ErrLong
		if _, code := wantWorldStep(t, sagaWorld(), a); code == want || a.Kind == impl.WoToken && inBounds(a.Node, 0, 4) && code != impl.ErrForm {
			t.Error(worldActShown(a), code)
		}
		for _, more := range []string{"t", " ", strings.Repeat("t", impl.MaxText)} {
			a.Token = strings.Repeat("t", impl.MaxText) + more
			for _, w := range []impl.World{sagaWorld(), newWorld(1, 2, 2), {}, newWorld(6, 2, 2), newWorld(1, 1, 11)} {
				wantWorldCode(t, "a token too long", w, a, want)
			}
		}
	}
	long := modelToken(worldKey, 0, "main", 10)
	wantWorldCode(t, "a token with more behind it", sagaWorld(), tokenAct(0, 0, long+strings.Repeat("0", impl.MaxText-len(long))), impl.ErrToken)
	wantWorldCode(t, "a token with more behind it", sagaWorld(), tokenAct(0, 0, long+strings.Repeat("0", impl.MaxText-len(long)+1)), impl.ErrLong)
}

func TestKindsOfWorldActs(t *testing.T) {
	t.Parallel()
	for _, kind := range append([]int{-4, -3, -2, -1, 0, 5, 6, 7, 8, 9, 256 + 1, 1<<32 + 3}, strayNumbers...) {
		for _, a := range actsOfKinds() {
			a.Kind = kind
			wantWorldCode(t, "a kind that is none", sagaWorld(), a, impl.ErrForm)
			a.Cluster = giveAct(0)
			wantWorldCode(t, "a kind that is none", newWorld(3, 12, 6), a, impl.ErrForm)
		}
	}
}

func TestWhichClientsAndNodesOfAWorldThereAre(t *testing.T) {
	t.Parallel()
	window := at(1, windowCommand("x"))
	for nodes := 1; nodes <= 5; nodes++ {
		w := newWorld(nodes, 20, 8)
		for _, client := range append([]int{-2, -1, 0, 1, 2, 3}, strayNumbers...) {
			for _, node := range append([]int{-2, -1, 0, 1, 2, 3, 4, 5, 6}, strayNumbers...) {
				there := inBounds(client, 0, 1) && inBounds(node, 0, nodes-1)
				for kind, code := range map[int]int{impl.WoSubmit: impl.ErrLeader, impl.WoPoll: impl.ErrNone, impl.WoToken: impl.ErrForm} {
					want := code
					if !there {
						want = impl.ErrRange
					}
					wantWorldCode(t, "a client and a node", w, impl.WorldAct{Kind: kind, Client: client, Node: node, Command: window, Cluster: impl.ClusterAct{Kind: 9}}, want)
				}
				// A cluster's act has a node of its own.
				a := clusterAct(tickAct(nodes-1, 0))
				a.Client, a.Node = client, node
				wantWorldCode(t, "a cluster's act", w, a, impl.OK)
				a.Cluster.Node = nodes
				wantWorldCode(t, "a cluster's act of a node that is none", w, a, impl.ErrRange)
			}
		}
	}
}

// Of a cluster's act all else is as it was; what it does with a code, it does in a world, too.
func TestClusterActsOfWorlds(t *testing.T) {
	codes := map[int]int{}
	for i, c := range someClusters(t) {
		base := changedWorld(sagaWorld(), func(w *impl.World) { w.Cluster = c })
		for j, a := range someActs() {
			act := clusterAct(a)
			act.Client, act.Node, act.Command, act.Token = i-3, j-3, impl.Command{Kind: j}, strings.Repeat("t", i*j)
			if j%5 == i%5 {
				wantWorldStep(t, base, act)
			}
			got, code := impl.WorldStep(base, act)
			want, wantCode := impl.ClusterStep(c, a)
			if code != wantCode || !sameWorlds(got, worldOf(20, 8, want, base.Clients...)) {
				t.Errorf("%s with %s: %s, %d, not %d", worldActShown(act), worldShown(base), worldShown(got), code, wantCode)
			}
			codes[code]++
		}
	}
	for _, code := range []int{impl.OK, impl.ErrForm, impl.ErrRange, impl.ErrFull, impl.ErrDown, impl.ErrTwice, impl.ErrLeader} {
		if codes[code] == 0 {
			t.Error("told never:", impl.CodeWord(code))
		}
	}
}

func TestClusterActsThatTakeAMessageOffWithACode(t *testing.T) {
	base := changedWorld(sagaWorld(), func(w *impl.World) { w.Cluster = baseCluster() })
	for _, a := range []impl.ClusterAct{giveAct(1), breakAct(1, 5)} {
		got, code := wantWorldStep(t, base, clusterAct(a))
		want := changedWorld(base, func(w *impl.World) { w.Cluster = withoutMessage(w.Cluster, 1) })
		if code != impl.ErrDown || !sameWorlds(got, want) || sameWorlds(got, base) {
			t.Errorf("%s: %s, %d", actShown(a), worldShown(got), code)
		}
	}
	long := strings.Repeat("d", impl.MaxText+1)
	wantWorldCode(t, "data beyond a text", base, clusterAct(proposeAct(1, long)), impl.ErrRange)
	wantWorldCode(t, "a cluster's act of no kind", base, clusterAct(impl.ClusterAct{Kind: 9}), impl.ErrForm)
}

func TestSubmitsWrittenOut(t *testing.T) {
	base := changedWorld(sagaWorld(), func(w *impl.World) { w.Cluster = baseCluster() })
	for _, c := range rightCommands() {
		for client := range 2 {
			a := submitAct(1, c)
			a.Client, a.Token, a.Cluster = client, "no token", crashAct(0)
			got, code := wantWorldStep(t, base, a)
			data := string(modelCommandBytes(c))
			want, _ := impl.ClusterStep(base.Cluster, proposeAct(1, data))
			if code != impl.OK || !sameWorlds(got, worldOf(20, 8, want, base.Clients...)) {
				t.Fatalf("%s: %s, %d", worldActShown(a), worldShown(got), code)
			}
			log := got.Cluster.Nodes[1].Log
			if last := log[len(log)-1]; last != (impl.Entry{Term: 7, Data: data}) || len(log) != 5 || len(got.Cluster.Wire) != 7 || len(data) > 400 {
				t.Errorf("%s: the log is %v", worldActShown(a), log)
			}
			wantWorldCode(t, "no leader", base, submitAct(0, c), impl.ErrLeader)
			wantWorldCode(t, "a node that is down", base, submitAct(2, c), impl.ErrDown)
		}
	}
	alone, code := wantWorldStep(t, changedWorld(newWorld(1, 20, 8), func(w *impl.World) { w.Cluster = clusterOf(leaderOf(0, 3, "", 0, []int{1}, []int{0})) }), submitAct(0, at(1, windowCommand("main"))))
	if code != impl.OK || !slices.Equal(alone.Cluster.Done, dataIn(at(1, windowCommand("main")))) {
		t.Error(worldShown(alone), code)
	}
}

func TestSubmitsOfCommandsThatAreNotRight(t *testing.T) {
	base := changedWorld(sagaWorld(), func(w *impl.World) { w.Cluster = baseCluster() })
	wrong := 0
	for _, c := range append(rightCommands(), impl.Command{}) {
		for _, other := range otherCommands(c) {
			if modelCommandOK(other) {
				continue
			}
			for node := range 3 {
				if got, code := impl.WorldStep(base, submitAct(node, other)); code != impl.ErrBad || !sameWorlds(got, base) {
					t.Fatalf("%s: %s, %d", worldActShown(submitAct(node, other)), worldShown(got), code)
				}
			}
			if wrong++; wrong%150 == 0 {
				wantWorldCode(t, "a command that is not right", base, submitAct(wrong%3, other), impl.ErrBad)
				wantWorldCode(t, "a command that is not right, and no node", base, submitAct(3, other), impl.ErrRange)
			}
		}
	}
	// A command whose bytes would be more than an entry may have is none: its Data is too long already.
	for _, size := range []int{201, 360, 400, 401, 1000, impl.MaxText, impl.MaxText + 1} {
		wantWorldCode(t, "output too long", base, submitAct(1, at(1, outputCommand(1, 1, strings.Repeat("x", size)))), impl.ErrBad)
	}
	wantWorldCode(t, "output of the most bytes", base, submitAct(1, at(1, outputCommand(1, 1, strings.Repeat("x", 200)))), impl.OK)
}

func TestSubmitsWithoutRoom(t *testing.T) {
	c := at(1, windowCommand("main"))
	full := leaderOf(0, 3, "", 0, []int{1, 1}, []int{0, 0})
	full.Log = longLog(60, 2, "d")
	w := changedWorld(newWorld(2, 20, 8), func(w *impl.World) { w.Cluster = clusterOf(full, newNode(1, 2)) })
	wantWorldCode(t, "a log that is full", w, submitAct(0, c), impl.ErrFull)
	base := baseCluster()
	need := 18 + len(modelCommandBytes(c))
	for _, room := range []int{0, need - 1, need, need + 1} {
		tight := changedWorld(newWorld(3, 20, 8), func(w *impl.World) { w.Cluster = roomFor(t, base, 1, room) })
		wantWorldCode(t, "a store with little room", tight, submitAct(1, c), impl.ErrFull*oneIf(room < need))
	}
}

// wantMirror is for mirrors that are written out by hand: their Number, size and texts, and the token of that Number.
func wantMirrorShows(t *testing.T, what string, w impl.World, client, number int, text string) {
	t.Helper()
	c := w.Clients[client]
	texts, code := impl.MirrorText(c.Mirror)
	got := fmt.Sprintf("%dx%d", c.Mirror.W, c.Mirror.H)
	for y, row := range texts {
		if row != "" {
			got += fmt.Sprintf(" %d:%s", y, row)
		}
	}
	if code != impl.OK || c.Mirror.Number != number || got != text || c.Token != modelToken(worldKey, client, c.Window, number) {
		t.Errorf("%s: %s shows %q, not %q", what, clientShown(c), got, text)
	}
}

func TestPollsWrittenOut(t *testing.T) {
	for _, x := range []struct {
		window      string
		from, count int
		want        string
	}{
		{"main", -1, 0, "none"}, {"main", 0, 0, "again"}, {"main", 1, 0, "late"}, {"main", 18, 0, "late"}, {"main", 18, 17, "late"}, {"main", 18, 18, "again"},
		{"main", -1, 1, "20x8"}, {"main", 0, 1, "20x8"}, {"main", -1, 2, "20x8 0:one 1:two"}, {"main", 1, 2, "20x8 0:one 1:two"}, {"main", 2, 2, "again"}, {"main", 3, 2, "late"},
		{"main", 2, 3, "20x8 0:one 1:two"}, {"main", 2, 6, "20x8 0:onemore 1:two"}, {"main", 6, 7, "20x8 0:onemore 1:two"}, {"main", 7, 8, "16x5 0:onemore 1:two"}, {"main", 8, 9, "16x5 0:onemoreX 1:two"}, {"main", 9, 10, "20x8 0:onemoreX 1:two"}, {"main", 7, 10, "20x8 0:onemoreX 1:two"},
		{"main", 10, 11, "none"}, {"main", 11, 11, "again"}, {"main", 12, 11, "late"}, {"old", 10, 11, "20x8 0:onemoreX 1:two"}, {"main", 10, 12, "20x8"}, {"main", 11, 12, "20x8"}, {"main", 12, 13, "20x8 0:new"}, {"main", 13, 14, "none"}, {"main", 14, 15, "20x8 0:log"},
		{"logs", -1, 3, "none"}, {"logs", 2, 3, "none"}, {"logs", 3, 3, "again"}, {"logs", -1, 5, "20x8 0:log"}, {"logs", 4, 5, "20x8 0:log"}, {"logs", 14, 15, "none"}, {"never", -1, 18, "none"}, {"never", 18, 18, "again"}, {"never", 18, 17, "late"}, {"main", 15, 17, "20x8 0:log       right"},
	} {
		what := fmt.Sprintf("%s from %d to %d", x.window, x.from, x.count)
		for client := range 2 {
			// Of any node that is up, also beside such as know other numbers.
			for node, counts := range [][]int{{x.count}, {18, x.count, 0}, {0, 7, x.count, 18}} {
				w := worldOf(20, 8, sagaCluster(counts...), clientBehind(0, "main", 7), clientBehind(1, "logs", -1))
				w.Clients[client] = clientBehind(client, x.window, x.from)
				a := pollAct(client, node)
				a.Token, a.Command, a.Cluster = "no token", impl.Command{Kind: 9}, crashAct(0)
				if want := impl.CodeOf(x.want); want > 0 {
					wantWorldCode(t, what, w, a, want)
					continue
				}
				got := wantWorldCode(t, what, w, a, impl.OK)
				wantMirrorShows(t, what, got, client, x.count, x.want)
				if !sameClusters(got.Cluster, w.Cluster) || !sameClients(got.Clients[1-client], w.Clients[1-client]) || got.Clients[client].Window != x.window {
					t.Errorf("%s: not as it was: %s", what, worldShown(got))
				}
			}
		}
	}
}

func TestPollsOfNodesThatAreDown(t *testing.T) {
	for id := range 3 {
		w := sagaWorld()
		w.Cluster = sagaCluster(18, 18, 18)
		for other := range 3 {
			w.Cluster.Nodes[other].Role = impl.RoFollower
			w.Cluster.Nodes[other].Up = other != id
		}
		for client := range 2 {
			for node := range 3 {
				want := impl.ErrDown * oneIf(node == id)
				if client == 1 && node != id {
					want = impl.ErrNone
				}
				wantWorldCode(t, "a node that is down", w, pollAct(client, node), want)
			}
			for _, token := range []string{"", "token", modelToken("other", client, "main", 2), modelToken(worldKey, client, "main", 60), modelToken(worldKey, 1-client, "main", -1), w.Clients[client].Token} {
				wantWorldCode(t, "a node that is down, by a token", w, tokenAct(client, id, token), impl.ErrDown)
			}
		}
	}
	// Behind a crash a node knows of none, till it is told again.
	w := wantWorldCode(t, "a crash", sagaWorld(), clusterAct(crashAct(0)), impl.OK)
	w = wantWorldCode(t, "a start", w, clusterAct(startAct(0)), impl.OK)
	wantWorldCode(t, "behind a crash", w, pollAct(0, 0), impl.ErrLate)
	wantWorldCode(t, "behind a crash", w, pollAct(1, 0), impl.ErrNone)
	wantWorldCode(t, "behind a crash, as new", w, tokenAct(0, 0, modelToken(worldKey, 0, "main", -1)), impl.ErrNone)
}

// A mirror whose size is not what its window had then takes no view of what changed since.
func TestPollsThatLeadToAViewFromElsewhere(t *testing.T) {
	w := sagaWorld()
	w.Clients[0] = clientWith(worldKey, 0, "main", mirrorOf(5, 16, 5, motleyRows(16, 5, 1)))
	wantWorldCode(t, "another size", w, pollAct(0, 0), impl.ErrView)
	wantWorldCode(t, "another size, of a node that knows more", w, pollAct(0, 1), impl.ErrView)
	wantWorldCode(t, "another size, of a node that knows no more", w, pollAct(0, 2), impl.ErrAgain)
	got := wantWorldCode(t, "another size, as new", w, tokenAct(0, 1, modelToken(worldKey, 0, "main", -1)), impl.OK)
	wantMirrorShows(t, "another size, as new", got, 0, 10, "20x8 0:onemoreX 1:two")
	w.Clients[0] = clientWith(worldKey, 0, "main", mirrorOf(5, 20, 8, motleyRows(20, 8, 1)))
	got = wantWorldCode(t, "other rows", w, pollAct(0, 1), impl.OK)
	if rows := got.Clients[0].Mirror.Rows; rows[1] != w.Clients[0].Mirror.Rows[1] || rows[0] == w.Clients[0].Mirror.Rows[0] {
		t.Error("not what changed alone:", clientShown(got.Clients[0]))
	}
	// The world's own size counts, not that of a mirror.
	w = worldOf(16, 5, sagaCluster(6, 6), newClient(worldKey, 0, "main"), newClient(worldKey, 1, "logs"))
	got = wantWorldCode(t, "a smaller world", w, pollAct(0, 0), impl.OK)
	wantMirrorShows(t, "a smaller world", got, 0, 6, "16x5 0:onemore 1:two")
}

func TestTokensOfPollsWrittenOut(t *testing.T) {
	w := sagaWorld()
	main := func(number int) string { return modelToken(worldKey, 0, "main", number) }
	for _, x := range []struct {
		what  string
		node  int
		token string
		want  int
	}{
		{"its own", 0, main(10), impl.OK}, {"its own", 1, main(10), impl.ErrAgain}, {"its own", 2, main(10), impl.ErrLate}, {"its own", 3, main(10), impl.ErrLate}, {"its own", 4, main(10), impl.ErrDown},
		{"its first", 0, main(-1), impl.OK}, {"its first", 1, main(-1), impl.ErrLate}, {"its first", 2, main(-1), impl.ErrLate}, {"its first", 3, main(-1), impl.ErrNone}, {"its first", 4, main(-1), impl.ErrDown},
		{"an earlier one", 0, main(5), impl.ErrView}, {"an earlier one", 1, main(5), impl.ErrLate}, {"an earlier one", 2, main(5), impl.ErrAgain}, {"an earlier one", 2, main(4), impl.ErrLate}, {"an earlier one", 3, main(5), impl.ErrLate},
		{"one from where the window was not", 0, main(0), impl.OK}, {"one from where the window was not", 1, main(0), impl.ErrLate}, {"one from where the window was not", 0, main(11), impl.OK}, {"one from where the window was not", 0, main(14), impl.OK},
		{"one from another size", 0, main(8), impl.OK}, {"one from another size", 0, main(9), impl.OK}, {"one from another size", 1, main(8), impl.ErrLate},
		{"a later one", 0, main(12), impl.ErrView}, {"a later one", 0, main(17), impl.ErrView}, {"a later one", 0, main(18), impl.ErrAgain}, {"a later one", 0, main(19), impl.ErrLate}, {"a later one", 1, main(12), impl.ErrLate}, {"the latest", 0, main(60), impl.ErrLate},
		{"beyond the latest", 0, main(61), impl.ErrForm}, {"ahead of the first", 0, main(-2), impl.ErrForm},
		{"another window's", 1, modelToken(worldKey, 0, "logs", -1), impl.ErrToken}, {"another window's", 1, modelToken(worldKey, 0, "logs", 4), impl.ErrToken}, {"another window's", 0, modelToken(worldKey, 0, "logs", 4), impl.ErrNone}, {"another window's", 1, modelToken(worldKey, 0, "logs", 10), impl.ErrAgain}, {"another window's", 1, modelToken(worldKey, 0, "logs", 11), impl.ErrLate}, {"a window's that is none", 0, modelToken(worldKey, 0, "never", -1), impl.ErrNone},
		{"another client's", 0, modelToken(worldKey, 1, "main", 10), impl.ErrToken}, {"another client's", 0, modelToken(worldKey, 1, "main", -1), impl.ErrToken}, {"another client's", 1, modelToken(worldKey, 1, "main", 10), impl.ErrAgain}, {"another client's", 2, modelToken(worldKey, 200, "main", 10), impl.ErrLate}, {"another client's", 1, modelToken(worldKey, 200, "main", 9), impl.ErrToken},
		{"the other client's", 1, w.Clients[1].Token, impl.ErrToken}, {"the other client's", 2, w.Clients[1].Token, impl.ErrToken}, {"the other client's", 0, w.Clients[1].Token, impl.ErrNone}, {"the other client's", 3, w.Clients[1].Token, impl.ErrNone}, {"the other client's", 4, w.Clients[1].Token, impl.ErrDown},
		{"another key's", 0, modelToken("other", 0, "main", 10), impl.ErrToken}, {"another key's", 1, modelToken("key", 0, "main", 10), impl.ErrToken}, {"another key's", 2, modelToken("", 0, "main", 60), impl.ErrToken}, {"another key's", 3, modelToken("world key ", 0, "never", 3), impl.ErrToken}, {"another key's", 4, modelToken("other", 0, "main", 10), impl.ErrDown},
		{"none", 0, "", impl.ErrForm}, {"none", 3, "", impl.ErrForm}, {"none", 4, "", impl.ErrDown}, {"none", 0, "token", impl.ErrForm}, {"none", 1, "token 0 main 10", impl.ErrForm}, {"none", 0, " " + main(10), impl.ErrForm}, {"none", 0, main(10) + " ", impl.ErrForm}, {"another mark", 0, main(10)[:len(main(10))-1], impl.ErrToken}, {"another mark", 0, modelHead(0, "main", 10) + " 0", impl.ErrToken},
	} {
		got := wantWorldCode(t, x.what, w, tokenAct(0, x.node, x.token), x.want)
		if x.want == impl.OK {
			wantMirrorShows(t, x.what, got, 0, 18, "20x8 0:log")
		}
	}
	for node, want := range []int{impl.ErrToken, impl.ErrAgain, impl.ErrLate, impl.ErrLate, impl.ErrDown} {
		wantWorldCode(t, "the first client's, of the second", w, tokenAct(1, node, w.Clients[0].Token), want)
	}
	got := wantWorldCode(t, "its own", w, tokenAct(1, 1, w.Clients[1].Token), impl.OK)
	wantMirrorShows(t, "its own", got, 1, 10, "20x8 0:log")
}

// With its own token an act does just what a poll does; a poll asks nothing of the act's token.
func TestPollsAndTokensAreAlike(t *testing.T) {
	t.Parallel()
	for number := -1; number <= 18; number++ {
		for id, window := range []string{"main", "logs"} {
			w := sagaWorld()
			w.Clients[id] = clientBehind(id, window, number)
			for node := range 5 {
				poll, code := wantWorldStep(t, w, pollAct(id, node))
				token, codeOfToken := wantWorldStep(t, w, tokenAct(id, node, w.Clients[id].Token))
				a := pollAct(id, node)
				a.Token = strings.Repeat("t", impl.MaxText)
				other, codeOfOther := wantWorldStep(t, w, a)
				if code != codeOfToken || code != codeOfOther || !sameWorlds(poll, token) || !sameWorlds(poll, other) {
					t.Error(window, "from", number, "of node", node, code, codeOfToken, codeOfOther)
				}
			}
		}
	}
}

// Which code comes first where several hold: each act has all the faults that its row names.
func TestWhichCodeOfAWorldActComesFirst(t *testing.T) {
	t.Parallel()
	w := sagaWorld()
	wrong := changedWorld(w, func(w *impl.World) { w.Clients[0].Token = "" })
	long := strings.Repeat("t", impl.MaxText+1)
	right, none := at(1, windowCommand("main")), impl.Command{Kind: 9}
	for _, kind := range []int{-1, 0, 1, 2, 3, 4, 5} {
		for _, client := range []int{-1, 0, 2} {
			for _, node := range []int{-1, 0, 4, 5} {
				for _, command := range []impl.Command{right, none} {
					a := impl.WorldAct{Kind: kind, Client: client, Node: node, Command: command, Cluster: impl.ClusterAct{Kind: 9}, Token: long}
					wantWorldCode(t, "a long token of a wrong world", wrong, a, impl.ErrLong)
					wantWorldCode(t, "a long token", w, a, impl.ErrLong)
					a.Token = "token"
					wantWorldCode(t, "a wrong world", wrong, a, impl.ErrBad)
					want := impl.ErrForm
					switch {
					case kind < 2 || kind > 4:
					case client != 0 || node < 0 || node > 4:
						want = impl.ErrRange
					case kind == 2 && command == none:
						want = impl.ErrBad
					case node == 4:
						want = impl.ErrDown
					case kind != 4:
						want = impl.OK
					}
					wantWorldCode(t, "several", w, a, want)
				}
			}
		}
	}
	full := changedWorld(w, func(w *impl.World) {
		for id := range w.Cluster.Nodes {
			w.Cluster.Nodes[id].Log = longLog(60, 1, "d")
			w.Cluster.Nodes[id].Commit = 0
		}
		w.Cluster = withDone(clusterOf(w.Cluster.Nodes...))
	})
	wantWorldCode(t, "a wrong command, full, down", full, submitAct(4, none), impl.ErrBad)
	wantWorldCode(t, "full, down", full, submitAct(4, right), impl.ErrDown)
	wantWorldCode(t, "full, no leader", full, submitAct(1, right), impl.ErrLeader)
	wantWorldCode(t, "full", full, submitAct(0, right), impl.ErrFull)
}

// wantWorldRun asks that a run is its acts one by one, with the world right behind each of them.
func wantWorldRun(t *testing.T, nodes, w, h int, acts []impl.WorldAct) (impl.World, []int) {
	t.Helper()
	kept := slices.Clone(acts)
	got, codes, code := impl.WorldRun(nodes, w, h, acts)
	want, _ := impl.NewWorld(nodes, w, h)
	for i, a := range acts {
		next, wantCode := impl.WorldStep(want, a)
		if want = next; code != impl.OK || i >= len(codes) || codes[i] != wantCode || !impl.WorldOK(want) {
			t.Fatalf("act %d, %s: %v, %d, not %d", i, worldActShown(a), codes, code, wantCode)
		}
	}
	if len(codes) != len(acts) || !sameWorlds(got, want) || !slices.Equal(acts, kept) {
		t.Fatalf("%d codes of %d acts, %s, not %s", len(codes), len(acts), worldShown(got), worldShown(want))
	}
	again, codesAgain, _ := impl.WorldRun(nodes, w, h, acts)
	if !slices.Equal(codesAgain, codes) || !sameWorlds(again, got) {
		t.Fatal("WorldRun answers otherwise when it comes again")
	}
	wantApart(t, "WorldRun", acts, got, codes, again, codesAgain)
	return got, codes
}

func TestWorldRunsOfSoManyActs(t *testing.T) {
	long := strings.Repeat("t", impl.MaxText+1)
	for size, want := range map[int]int{0: impl.OK, 1: impl.OK, 239: impl.OK, 240: impl.OK, 241: impl.ErrMany, 242: impl.ErrMany, impl.MaxList - 1: impl.ErrMany, impl.MaxList: impl.ErrMany, impl.MaxList + 1: impl.ErrLong, 2*impl.MaxList + 1: impl.ErrLong} {
		for _, nodes := range append([]int{-1, 0, 1, 3, 5, 6}, strayNumbers...) {
			for _, side := range [][2]int{{12, 6}, {1, 6}, {12, 11}, {2, 2}} {
				right := inBounds(nodes, 1, 5) && modelSizeOK(side[0], side[1])
				acts := slices.Repeat([]impl.WorldAct{clusterAct(tickAct(0, 3))}, size)
				for _, at := range []int{-1, 0, size / 2, size - 1} {
					want := want
					if at >= 0 && at < size {
						acts[at].Token = long
						if want == impl.OK {
							want = impl.ErrLong
						}
					}
					if !right && size <= impl.MaxList {
						want = impl.ErrRange
					}
					got, codes, code := impl.WorldRun(nodes, side[0], side[1], acts)
					if code != want || code != impl.OK && (len(codes) != 0 || !sameWorlds(got, impl.World{})) {
						t.Fatalf("%d acts of %d nodes, %v, a long token at %d: %s, %v, %d, not %d", size, nodes, side, at, worldShown(got), codes, code, want)
					}
					if code == impl.OK && (!slices.Equal(codes, make([]int, size)) || !impl.WorldOK(got) || len(got.Cluster.Nodes) != nodes || got.W != side[0] || got.H != side[1]) {
						t.Fatalf("%d acts of %d nodes: %s, %v", size, nodes, worldShown(got), codes)
					}
					if at >= 0 && at < size {
						acts[at].Token = long[1:]
					}
				}
			}
		}
	}
}

func TestWorldRunsWithLongTokens(t *testing.T) {
	long := strings.Repeat("t", impl.MaxText+1)
	for at := range 9 {
		for _, more := range []int{0, 1, impl.MaxText} {
			for _, a := range actsOfKinds() {
				acts := slices.Repeat([]impl.WorldAct{clusterAct(tickAct(0, 0)), pollAct(0, 0), {}}, 3)
				acts[at] = a
				acts[at].Token = long[1:] + long[:more]
				got, codes, code := impl.WorldRun(1, 12, 6, acts)
				if more > 0 && (code != impl.ErrLong || len(codes) != 0 || !sameWorlds(got, impl.World{})) || more == 0 && (code != impl.OK || len(codes) != 9) {
					t.Error("a token of", len(acts[at].Token), "bytes at", at, worldShown(got), codes, code)
				}
			}
		}
	}
}

func TestTheCodesOfAWorldRun(t *testing.T) {
	main, hello := at(1, windowCommand("main")), at(2, outputCommand(1, 1, "hello"))
	acts := slices.Concat(worldActs(slices.Repeat([]impl.ClusterAct{tickAct(0, 0)}, 5)...), []impl.WorldAct{
		pollAct(0, 0), submitAct(0, main), submitAct(0, hello), submitAct(0, impl.Command{}), pollAct(0, 0), pollAct(0, 0), pollAct(1, 0), pollAct(2, 0), pollAct(0, 1),
		tokenAct(0, 0, modelToken(worldKey, 0, "main", -1)), tokenAct(0, 0, modelToken(worldKey, 1, "main", -1)), tokenAct(1, 0, modelToken(worldKey, 0, "main", 1)), tokenAct(0, 0, modelToken("key", 0, "main", -1)), tokenAct(0, 0, ""), {Kind: 5},
		clusterAct(crashAct(0)), pollAct(0, 0), submitAct(0, main), clusterAct(giveAct(0)), clusterAct(startAct(0)), pollAct(0, 0), submitAct(0, main), pollAct(1, 0),
	})
	want := []int{
		0, 0, 0, 0, 0,
		impl.ErrNone, 0, 0, impl.ErrBad, 0, impl.ErrAgain, impl.ErrNone, impl.ErrRange, impl.ErrRange,
		impl.ErrLate, impl.ErrToken, impl.ErrToken, impl.ErrToken, impl.ErrForm, impl.ErrForm,
		0, impl.ErrDown, impl.ErrDown, impl.ErrRange, 0, impl.ErrLate, impl.ErrLeader, impl.ErrNone,
	}
	got, codes := wantWorldRun(t, 1, 12, 6, acts)
	if !slices.Equal(codes, want) {
		t.Errorf("%v, not %v", codes, want)
	}
	wantMirrorShows(t, "behind the run", got, 0, 2, "12x6 0:hello")
	if got.Clients[1].Mirror.Number != -1 || !slices.Equal(got.Cluster.Done, append([]string{""}, dataIn(main, hello)...)) {
		t.Error(worldShown(got))
	}
}

// hall is a world that goes on act by act, and is asked at each what is promised of it: of what the act does, or, as a whole, of what it holds then.
type hall struct {
	t       *testing.T
	w       impl.World
	acts    []impl.WorldAct
	kinds   map[string]int
	tokens  []string
	whole   bool
	leaders map[int]int
}

func newHall(t *testing.T, nodes int, kinds map[string]int) *hall {
	t.Helper()
	w, code := impl.NewWorld(nodes, 20, 8)
	if code != impl.OK {
		t.Fatal("NewWorld", code)
	}
	return &hall{t: t, w: w, kinds: kinds, tokens: []string{w.Clients[0].Token, w.Clients[1].Token}, leaders: map[int]int{}}
}

func (h *hall) act(a impl.WorldAct) int {
	h.t.Helper()
	was := h.w
	next, code := impl.WorldStep(was, a)
	h.w, h.acts = next, append(h.acts, a)
	h.kinds[fmt.Sprintf("%d %s", a.Kind, impl.CodeWord(code))]++
	if h.whole {
		h.wantTheorem(was)
		return code
	}
	wantAsModel(h.t, was, a, next, code)
	if len(h.acts)%5 == 1 {
		wantWorldStep(h.t, was, a)
	}
	for id, c := range next.Clients {
		if !sameClients(c, was.Clients[id]) {
			h.wantShown(was.Clients[id], c)
			h.tokens = append(h.tokens, c.Token)
		}
	}
	h.wantHistoryHolds()
	return code
}

// wantShown asks that a mirror that changed goes on, and shows just what its window showed behind so many of what is done.
func (h *hall) wantShown(was, now impl.Client) {
	h.t.Helper()
	done, _ := impl.LongestDone(h.w.Cluster)
	number := now.Mirror.Number
	if number <= was.Mirror.Number || number > len(done) {
		h.t.Fatalf("the Number goes from %d to %d, with %d done", was.Mirror.Number, number, len(done))
	}
	if mux, rows := modelPicture(20, 8, done[:number], now.Window); rows == nil || !sameMirrors(now.Mirror, mirrorOf(number, mux.W, mux.H, rows)) {
		h.t.Fatalf("behind %d commands the mirror is %s, not %dx%d %q", number, mirrorShown(now.Mirror), mux.W, mux.H, modelRowTexts(rows))
	}
}

// drawnSubmit is of a command that may be done behind what is done so far, to one that leads, if there is one.
func (h *hall) drawnSubmit(draw *rand.Rand, ahead int) impl.WorldAct {
	node := ahead
	for id, n := range h.w.Cluster.Nodes {
		if n.Role == impl.RoLeader && draw.Intn(4) > 0 {
			node = id
		}
	}
	done, _ := impl.LongestDone(h.w.Cluster)
	m, _ := modelFold(emptyMux(20, 8), done)
	c := drawnCommand(draw, m)
	for _, name := range []string{"logs", "main"} {
		if !slices.ContainsFunc(m.Windows, func(window impl.Window) bool { return window.Name == name }) && draw.Intn(3) > 0 {
			seq := c.Seq
			c = from(c.Client, at(seq, windowCommand(name)))
		}
	}
	if draw.Intn(20) == 0 {
		c.Seq = 0
	}
	return impl.WorldAct{Kind: impl.WoSubmit, Client: draw.Intn(2), Node: node, Command: c}
}

// drawnToken is mostly one of those that the clients had, of the one or the other; now and then it is none, or another key's.
func (h *hall) drawnToken(draw *rand.Rand) string {
	token := h.tokens[draw.Intn(len(h.tokens))]
	switch draw.Intn(12) {
	case 0:
		return token[:len(token)-1]
	case 1:
		return modelToken(worldKey, draw.Intn(2), []string{"main", "logs"}[draw.Intn(2)], draw.Intn(30)-1)
	case 2:
		return modelToken("key", 0, "main", -1)
	case 3:
		return ""
	}
	return token
}

// drawnWorldAct is mostly one that may be done; cluster's acts are such as crash, cut and heal.
func (h *hall) drawnWorldAct(draw *rand.Rand, step, apart, ahead int) impl.WorldAct {
	client, node := draw.Intn(2), draw.Intn(len(h.w.Cluster.Nodes))
	switch what := draw.Intn(100); {
	case what < 68:
		return clusterAct(drawnAct(draw, h.w.Cluster, step, apart, ahead))
	case what < 80:
		return h.drawnSubmit(draw, ahead)
	case what < 92:
		return pollAct(client, node)
	case what < 98:
		return tokenAct(client, node, h.drawnToken(draw))
	}
	return impl.WorldAct{Kind: draw.Intn(8) - 1, Client: draw.Intn(5) - 1, Node: draw.Intn(8) - 1, Cluster: impl.ClusterAct{Kind: draw.Intn(11) - 1}, Token: h.drawnToken(draw)}
}

// Whatever comes, and wherever the power goes.
func TestDrawnRunsOfWorlds(t *testing.T) {
	t.Parallel()
	kinds := map[string]int{}
	for seed := range int64(40) {
		draw := rand.New(rand.NewSource(1400 + seed))
		nodes := 1 + int(seed)%5
		h := newHall(t, nodes, kinds)
		apart, ahead := -1, 0
		for step := range impl.MaxActs {
			if step%40 == 0 {
				apart, ahead = draw.Intn(2*nodes+1)-nodes-1, draw.Intn(nodes)
			}
			h.act(h.drawnWorldAct(draw, step, apart, ahead))
		}
		if got, _ := wantWorldRun(t, nodes, 20, 8, h.acts); !sameWorlds(got, h.w) {
			t.Fatalf("the run leads to %s, not %s", worldShown(got), worldShown(h.w))
		}
	}
	wantKinds(t, kinds, 20, "1 ok", "1 range", "1 down", "2 ok", "2 bad", "2 down", "2 leader", "3 ok", "3 down", "3 late", "3 again", "3 none", "4 late", "4 token", "4 form")
	wantKinds(t, kinds, 5, "4 ok", "4 again", "4 view", "0 form", "5 form", "-1 form", "2 range", "3 range", "4 range")
}

func (h *hall) settle() {
	h.t.Helper()
	for range 1000 {
		if len(h.w.Cluster.Wire) == 0 {
			return
		}
		h.act(clusterAct(giveAct(0)))
	}
	h.t.Fatal("messages without end:", worldShown(h.w))
}

// heal starts all, lets one after the other stand till one leads, and lets it tell all.
func (h *hall) heal() int {
	h.t.Helper()
	for id, n := range h.w.Cluster.Nodes {
		if !n.Up {
			h.act(clusterAct(startAct(id)))
		}
	}
	h.settle()
	for i := range 15 {
		r := rack{c: h.w.Cluster}
		if leader := r.leader(); leader >= 0 {
			return leader
		}
		for range 12 {
			h.act(clusterAct(tickAct(i%len(h.w.Cluster.Nodes), 0)))
		}
		h.settle()
	}
	h.t.Fatal("none leads:", worldShown(h.w))
	return -1
}

// Behind crashes and cuts, with all up, and all given, polls of any node lead both mirrors to just what is done.
func TestMirrorsOfWorldsThatHeal(t *testing.T) {
	t.Parallel()
	kinds := map[string]int{}
	for nodes := 1; nodes <= 5; nodes++ {
		h := newHall(t, nodes, kinds)
		leader := h.heal()
		seq := 0
		submit := func(c impl.Command) {
			seq++
			if code := h.act(submitAct(leader, at(seq, c))); code != impl.OK {
				t.Fatal("WoSubmit", code, worldShown(h.w))
			}
		}
		submit(windowCommand("main"))
		submit(windowCommand("logs"))
		for round := range 6 {
			submit(outputCommand(1, 1, fmt.Sprint(round)))
			submit(outputCommand(2, 1, fmt.Sprint(-round, "\r\n")))
			// The messages of one are cut off, it crashes, or it breaks while it writes.
			for i := 0; len(h.w.Cluster.Wire) > 0 && i < 200; i++ {
				m, act := h.w.Cluster.Wire[0], giveAct(0)
				if lost := (leader + 1 + round) % nodes; m.To == lost && round%3 > 0 {
					act = []impl.ClusterAct{{}, loseAct(0), breakAct(0, i)}[round%3]
				}
				h.act(clusterAct(act))
				h.act(pollAct(i%2, i%nodes))
			}
			if round == 3 {
				h.act(clusterAct(crashAct(leader)))
				h.act(pollAct(0, leader))
			}
			leader = h.heal()
			for range 2 {
				h.act(clusterAct(tickAct(leader, 0)))
			}
			h.settle()
			submit(windowCommand(fmt.Sprint("x", round)))
			h.settle()
			for range 2 {
				h.act(clusterAct(tickAct(leader, 0)))
			}
			h.settle()
			for client := range 2 {
				h.act(pollAct(client, (leader+round)%nodes))
			}
			done, _ := impl.LongestDone(h.w.Cluster)
			for _, c := range h.w.Clients {
				if c.Mirror.Number != len(done) {
					t.Errorf("%d nodes, round %d: %s, with %d done", nodes, round, clientShown(c), len(done))
				}
			}
		}
		var want string
		for round := range 6 {
			want += fmt.Sprint(round)
		}
		if text, _ := impl.MirrorText(h.w.Clients[0].Mirror); !strings.HasPrefix(want, text[0]) || text[0] == "" {
			t.Errorf("main shows %q, not %q", text[0], want)
		}
	}
	wantKinds(t, kinds, 5, "3 ok", "3 again", "3 late")
}

// someWorlds are right, of clusters at the edges that acts meet, of clients that have seen nothing, some of what nodes know, and more.
func someWorlds(t *testing.T) []impl.World {
	list := []impl.World{newWorld(1, 2, 2), newWorld(5, 24, 10), sagaWorld(), changedWorld(sagaWorld(), func(w *impl.World) { w.W, w.H = 24, 10 })}
	for i, c := range someClusters(t) {
		list = append(list, worldOf(20, 8, c, clientBehind(0, "main", i-1), clientBehind(1, "logs", i)))
	}
	return list
}

func wrongWorlds() []impl.World {
	list := []impl.World{{}, newWorld(6, 12, 6), newWorld(3, 1, 6), newWorld(3, 12, 11)}
	for _, change := range []func(w *impl.World){
		func(w *impl.World) { w.Clients = nil }, func(w *impl.World) { w.Clients = w.Clients[:1] }, func(w *impl.World) { w.Clients = append(w.Clients, w.Clients[1]) }, func(w *impl.World) { slices.Reverse(w.Clients) },
		func(w *impl.World) { w.Clients[0].Mirror.Rows[3] = "" }, func(w *impl.World) { w.Clients[1].Token += "0" }, func(w *impl.World) { w.Cluster = wrongClusters()[3] },
	} {
		list = append(list, changedWorld(sagaWorld(), change))
	}
	return list
}

// someWorldActs are of each kind, such as are done and such as are not.
func someWorldActs() []impl.WorldAct {
	list := append(actsOfKinds(), submitAct(1, at(1, windowCommand("x"))), submitAct(0, at(60000, outputCommand(1, 1, strings.Repeat("x", 200)))), clusterAct(giveAct(0)), clusterAct(breakAct(0, 20)), clusterAct(crashAct(0)), tokenAct(0, 0, strings.Repeat("t", impl.MaxText)))
	for client := range 2 {
		for node := range 4 {
			list = append(list, pollAct(client, node))
			for _, number := range []int{-1, 5, 10, 60} {
				list = append(list, tokenAct(client, node, modelToken(worldKey, client, "main", number)), tokenAct(client, node, modelToken(worldKey, 1, "logs", number)))
			}
		}
	}
	return list
}

func someWorldRuns() [][]impl.WorldAct {
	ticks := worldActs(slices.Repeat([]impl.ClusterAct{tickAct(0, 0)}, 5)...)
	opened := append(ticks, clusterAct(giveAct(0)), clusterAct(giveAct(0)), clusterAct(giveAct(0)), clusterAct(giveAct(0)), submitAct(0, at(1, windowCommand("main"))), submitAct(0, at(2, windowCommand("logs"))))
	return [][]impl.WorldAct{nil, someWorldActs(), append(opened, someWorldActs()[:60]...), slices.Concat(opened, worldActs(slices.Repeat([]impl.ClusterAct{giveAct(0)}, 20)...), someWorldActs()[:50]), make([]impl.WorldAct, 240), make([]impl.WorldAct, 241), make([]impl.WorldAct, impl.MaxList+1), {tokenAct(0, 0, strings.Repeat("t", impl.MaxText+1))}}
}

func TestWorldsAreNotChangedAndAnswersAreNewMemory(t *testing.T) {
	t.Parallel()
	for _, base := range append(someWorlds(t), wrongWorlds()...) {
		w, lists := roomyWorld(base)
		was := lists()
		for _, a := range someWorldActs() {
			got, _ := impl.WorldStep(w, a)
			again, _ := impl.WorldStep(w, a)
			if lists() != was || !sameWorlds(w, base) {
				t.Fatalf("%s writes into %s, or behind it", worldActShown(a), worldShown(base))
			}
			if !sameWorlds(got, again) {
				t.Errorf("%s with %s answers otherwise when it comes again", worldActShown(a), worldShown(base))
			}
			wantApart(t, worldActShown(a), w, got, again)
		}
	}
}

func TestWorldActListsAreNotChangedNorWhatStandsBehindThem(t *testing.T) {
	for _, acts := range someWorldRuns() {
		room := append(slices.Clone(acts), impl.WorldAct{Kind: -7}, impl.WorldAct{Kind: -7})
		was := slices.Clone(room)
		for nodes := range 7 {
			w, codes, _ := impl.WorldRun(nodes, 20, 8, room[:len(acts)])
			again, codesAgain, _ := impl.WorldRun(nodes, 20, 8, room[:len(acts)])
			if !slices.Equal(room, was) || !slices.Equal(codes, codesAgain) || !sameWorlds(w, again) {
				t.Error("WorldRun writes into its acts, or behind them, or answers otherwise when it comes again")
			}
			wantApart(t, "WorldRun", room, w, codes, again, codesAgain)
		}
	}
}

// spoiltWorld writes into all lists of a world.
func spoiltWorld(w impl.World) {
	for _, n := range w.Cluster.Nodes {
		for i := range n.Log {
			n.Log[i] = impl.Entry{Term: 1, Data: "spoilt"}
		}
		clear(n.Votes)
		clear(n.Next)
		clear(n.Match)
	}
	for _, m := range w.Cluster.Wire {
		clear(m.Entries)
	}
	for _, c := range w.Clients {
		spoiltMirror(c.Mirror)
	}
	clear(w.Cluster.Nodes)
	clear(w.Cluster.Stores)
	clear(w.Cluster.Wire)
	clear(w.Cluster.Done)
	clear(w.Clients)
}

// What is written into an answer changes no argument; what is written into an argument later changes no answer.
func TestAnswersOfWorldsAreTheirOwn(t *testing.T) {
	for _, base := range someWorlds(t) {
		for _, a := range someWorldActs() {
			w := cloneWorld(base)
			got, _ := impl.WorldStep(w, a)
			kept := cloneWorld(got)
			if spoiltWorld(got); !sameWorlds(w, base) {
				t.Fatalf("%s shares memory with %s", worldActShown(a), worldShown(base))
			}
			got, _ = impl.WorldStep(w, a)
			if spoiltWorld(w); !sameWorlds(got, kept) {
				t.Fatalf("%s keeps memory of %s", worldActShown(a), worldShown(base))
			}
		}
	}
}

// Many worlds at once, and one world asked by many at once.
func TestWorldsBesideOneAnother(t *testing.T) {
	acts := someWorldRuns()[3]
	want, wantCodes := wantWorldRun(t, 3, 20, 8, acts)
	base, polls := sagaWorld(), someWorldActs()
	next, nextCodes := make([]impl.World, len(polls)), make([]int, len(polls))
	for i, a := range polls {
		next[i], nextCodes[i] = modelWorldStep(base, a)
	}
	var group sync.WaitGroup
	for i := range 64 {
		group.Go(func() {
			if got, codes, code := impl.WorldRun(3, 20, 8, acts); code != impl.OK || !slices.Equal(codes, wantCodes) || !sameWorlds(got, want) {
				t.Error("a run answers otherwise beside others:", codes, code)
			}
			for j := range polls {
				at := (i + j) % len(polls)
				if got, code := impl.WorldStep(base, polls[at]); code != nextCodes[at] || !sameWorlds(got, next[at]) {
					t.Errorf("%s answers otherwise beside others: %d, not %d", worldActShown(polls[at]), code, nextCodes[at])
				}
			}
		})
	}
	group.Wait()
}

// When a call answers, nobody of it goes on, or waits to be asked: a bubble that somebody still waits in behind its end fails.
func TestNobodyGoesOnBehindAnAnswer(t *testing.T) {
	base := sagaWorld()
	for _, a := range append(someWorldActs(), tokenAct(0, 0, strings.Repeat("t", impl.MaxText+1))) {
		synctest.Test(t, func(t *testing.T) {
			impl.WorldStep(base, a)
			impl.WorldStep(impl.World{}, a)
		})
	}
	for _, acts := range someWorldRuns() {
		synctest.Test(t, func(t *testing.T) {
			impl.WorldRun(3, 20, 8, acts)
			impl.WorldRun(6, 20, 8, acts)
		})
	}
}

func TestNumbersOfWorldActsAtTheirEnds(t *testing.T) {
	for _, n := range append([]int{math.MinInt, math.MaxInt}, strayNumbers...) {
		a := impl.WorldAct{Kind: n, Client: n, Node: n, Cluster: impl.ClusterAct{Kind: n, Node: n, N: n, Keep: n}, Command: impl.Command{Kind: n, Client: n, Seq: n, Pane: n, N: n, Epoch: n}}
		for kind := range 6 {
			a.Kind = kind
			for _, w := range []impl.World{sagaWorld(), newWorld(1, 2, 2), {}, {W: n, H: n}} {
				wantWorldStep(t, w, a)
			}
		}
	}
}
