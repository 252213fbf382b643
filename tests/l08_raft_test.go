package tests

import (
	"fmt"
	"math"
	"math/rand"
	"slices"
	"strings"
	"testing"

	"loop.example/g00308/impl"
)

func cloneNode(n impl.Node) impl.Node {
	n.Log, n.Votes, n.Next, n.Match = slices.Clone(n.Log), slices.Clone(n.Votes), slices.Clone(n.Next), slices.Clone(n.Match)
	return n
}

func cloneMessage(m impl.Message) impl.Message {
	m.Entries = slices.Clone(m.Entries)
	return m
}

func sameNodes(a, b impl.Node) bool {
	return a.Id == b.Id && a.Nodes == b.Nodes && a.Term == b.Term && a.Vote == b.Vote && a.Role == b.Role && a.Up == b.Up && slices.Equal(a.Log, b.Log) &&
		a.Commit == b.Commit && a.Elapsed == b.Elapsed && a.Wait == b.Wait && slices.Equal(a.Votes, b.Votes) && slices.Equal(a.Next, b.Next) && slices.Equal(a.Match, b.Match)
}

func sameMessage(a, b impl.Message) bool {
	return a.Kind == b.Kind && a.From == b.From && a.To == b.To && a.Term == b.Term && a.Index == b.Index && a.LogTerm == b.LogTerm && a.Commit == b.Commit && a.Ok == b.Ok && slices.Equal(a.Entries, b.Entries)
}

func sameMessages(a, b []impl.Message) bool { return slices.EqualFunc(a, b, sameMessage) }

func nodeShown(n impl.Node) string {
	return fmt.Sprintf("{node %d of %d, up %v, role %d, %s, commit %d, elapsed %d, wait %d, votes %v, next %v, match %v}",
		n.Id, n.Nodes, n.Up, n.Role, stateShown(impl.State{Term: n.Term, Vote: n.Vote, Log: n.Log}), n.Commit, n.Elapsed, n.Wait, n.Votes, n.Next, n.Match)
}

func messageShown(m impl.Message) string {
	kind := map[int]string{1: "vote", 2: "voted", 3: "append", 4: "appended"}[m.Kind]
	return fmt.Sprintf("{%d %s %d to %d, term %d, index %d, logterm %d, commit %d, %v, %.100s}", m.Kind, kind, m.From, m.To, m.Term, m.Index, m.LogTerm, m.Commit, m.Ok, fmt.Sprint(m.Entries))
}

func messagesShown(list []impl.Message) string {
	text := fmt.Sprint(len(list), " sent")
	for _, m := range list {
		text += " " + messageShown(m)
	}
	return text
}

// nodeOf is Up, and has places as of a follower.
func nodeOf(id, nodes, term, vote, role int, log string, commit int) impl.Node {
	return impl.Node{Id: id, Nodes: nodes, Term: term, Vote: vote, Role: role, Up: true, Log: logOf(log), Commit: commit, Wait: 5 + id, Next: slices.Repeat([]int{1}, nodes), Match: make([]int, nodes)}
}

func newNode(id, nodes int) impl.Node { return nodeOf(id, nodes, 0, -1, impl.RoFollower, "", 0) }

func leaderOf(id, term int, log string, commit int, next, match []int) impl.Node {
	n := nodeOf(id, len(next), term, id, impl.RoLeader, log, commit)
	n.Next, n.Match = next, match
	return n
}

func candidateOf(id, nodes, term int, log string, votes ...int) impl.Node {
	n := nodeOf(id, nodes, term, id, impl.RoCandidate, log, 0)
	n.Votes = votes
	return n
}

func downNode(n impl.Node) impl.Node {
	n = cloneNode(n)
	n.Role, n.Up = impl.RoFollower, false
	return n
}

func withLog(n impl.Node, log []impl.Entry) impl.Node {
	n = cloneNode(n)
	n.Log = log
	return n
}

func withElapsed(n impl.Node, elapsed, wait int) impl.Node {
	n = cloneNode(n)
	n.Elapsed, n.Wait = elapsed, wait
	return n
}

func voteOf(from, to, term, index, logTerm int) impl.Message {
	return impl.Message{Kind: impl.RmVote, From: from, To: to, Term: term, Index: index, LogTerm: logTerm}
}

func votedOf(from, to, term int, ok bool) impl.Message {
	return impl.Message{Kind: impl.RmVoted, From: from, To: to, Term: term, Ok: ok}
}

func appendOf(from, to, term, index, logTerm, commit int, entries string) impl.Message {
	return impl.Message{Kind: impl.RmAppend, From: from, To: to, Term: term, Index: index, LogTerm: logTerm, Commit: commit, Entries: logOf(entries)}
}

func appendedOf(from, to, term int, ok bool, index int) impl.Message {
	return impl.Message{Kind: impl.RmAppended, From: from, To: to, Term: term, Ok: ok, Index: index}
}

func modelNodeOK(n impl.Node) bool {
	last := len(n.Log)
	if n.Nodes < 1 || n.Nodes > 5 || !inBounds(n.Id, 0, n.Nodes-1) || !modelStateOK(impl.State{Term: n.Term, Vote: n.Vote, Log: n.Log}) || n.Vote >= n.Nodes {
		return false
	}
	if !inBounds(n.Role, 0, 2) || !n.Up && n.Role != 0 || !inBounds(n.Commit, 0, last) || !inBounds(n.Elapsed, 0, 1000) || !inBounds(n.Wait, 5, 100) || len(n.Next) != n.Nodes || len(n.Match) != n.Nodes {
		return false
	}
	for i, id := range n.Votes {
		if !inBounds(id, 0, n.Nodes-1) || slices.Contains(n.Votes[:i], id) || slices.Max(n.Votes[:i+1]) != id {
			return false
		}
	}
	for id := range n.Nodes {
		if n.Match[id] < 0 || n.Match[id] >= n.Next[id] || n.Next[id] > last+1 {
			return false
		}
	}
	return true
}

func modelMessageOK(m impl.Message) bool {
	ok := slices.Contains([]int{1, 2, 3, 4}, m.Kind) && inBounds(m.From, 0, 4) && inBounds(m.To, 0, 4) && m.From != m.To && inBounds(m.Term, 1, 1000) &&
		inBounds(m.Index, 0, 60) && inBounds(m.Commit, 0, 60) && inBounds(m.LogTerm, 0, m.Term)
	if !ok || m.Kind != 3 {
		return ok && len(m.Entries) == 0
	}
	if m.Index == 0 && m.LogTerm > 0 || len(m.Entries) > 60-m.Index {
		return false
	}
	for _, e := range m.Entries {
		if e.Term < m.LogTerm {
			return false
		}
	}
	return modelStateOK(impl.State{Term: m.Term, Log: m.Entries})
}

// raftModel does the document's sentences one by one, on a node of its own, and keeps what it sends.
type raftModel struct {
	impl.Node
	sent []impl.Message
}

func (r *raftModel) others() []int {
	var list []int
	for id := 0; id < r.Nodes; id++ {
		if id != r.Id {
			list = append(list, id)
		}
	}
	return list
}

func (r *raftModel) terms() []int {
	list := []int{0}
	for _, e := range r.Log {
		list = append(list, e.Term)
	}
	return list
}

func (r *raftModel) send(m impl.Message) {
	m.From, m.Term = r.Id, r.Node.Term
	r.sent = append(r.sent, m)
}

func (r *raftModel) tell(to int) {
	ahead := r.Next[to] - 1
	r.send(impl.Message{Kind: 3, To: to, Index: ahead, LogTerm: r.terms()[ahead], Commit: r.Commit, Entries: slices.Clone(r.Log[ahead:])})
}

func (r *raftModel) follow() {
	r.Role, r.Votes = 0, nil
	for id := range r.Nodes {
		r.Next[id], r.Match[id] = 1, 0
	}
}

func (r *raftModel) advance() {
	for place, term := range r.terms() {
		have := 1
		for _, id := range r.others() {
			have += oneIf(r.Match[id] >= place)
		}
		if place > r.Commit && term == r.Node.Term && have > r.Nodes-have {
			r.Commit = place
		}
	}
}

func (r *raftModel) lead() {
	r.Role, r.Elapsed = 2, 0
	for id := range r.Nodes {
		r.Next[id], r.Match[id] = len(r.Log)+1, 0
	}
	if len(r.Log) < 60 {
		r.Log = append(r.Log, impl.Entry{Term: r.Node.Term})
	}
	r.advance()
	for _, id := range r.others() {
		r.tell(id)
	}
}

func (r *raftModel) upToDate(index, term int) bool {
	last, own := len(r.Log), r.terms()[len(r.Log)]
	return term > own || term == own && index >= last
}

func (r *raftModel) tick(draw int) {
	if r.Elapsed < 1000 {
		r.Elapsed++
	}
	if r.Role == 2 {
		if r.Elapsed >= 2 {
			r.Elapsed = 0
			for _, id := range r.others() {
				r.tell(id)
			}
		}
		return
	}
	if r.Elapsed < r.Wait || r.Node.Term == 1000 {
		return
	}
	r.Node.Term++
	r.Vote, r.Role, r.Votes, r.Elapsed, r.Wait = r.Id, 1, []int{r.Id}, 0, 5+draw%8
	if r.Nodes == 1 {
		r.lead()
	}
	for _, id := range r.others() {
		r.send(impl.Message{Kind: 1, To: id, Index: len(r.Log), LogTerm: r.terms()[len(r.Log)]})
	}
}

func (r *raftModel) take(m impl.Message) {
	if m.Term > r.Node.Term {
		r.Node.Term, r.Vote = m.Term, -1
		r.follow()
	}
	same := m.Term == r.Node.Term
	switch {
	case m.Kind == 1:
		ok := same && (r.Vote == -1 || r.Vote == m.From) && r.upToDate(m.Index, m.LogTerm)
		if ok {
			r.Vote, r.Elapsed = m.From, 0
		}
		r.send(impl.Message{Kind: 2, To: m.From, Ok: ok})
	case m.Kind == 2 && same && r.Role == 1 && m.Ok:
		if !slices.Contains(r.Votes, m.From) {
			r.Votes = append(r.Votes, m.From)
			slices.Sort(r.Votes)
		}
		if len(r.Votes) > r.Nodes-len(r.Votes) {
			r.lead()
		}
	case m.Kind == 3:
		r.takeEntries(m, same)
	case m.Kind == 4 && same && r.Role == 2 && m.Ok:
		r.Match[m.From] = max(r.Match[m.From], min(m.Index, len(r.Log)))
		r.Next[m.From] = max(r.Next[m.From], r.Match[m.From]+1)
		r.advance()
	case m.Kind == 4 && same && r.Role == 2:
		next := r.Next[m.From] - 1
		if next > m.Index+1 {
			next = m.Index + 1
		}
		if next < r.Match[m.From]+1 {
			next = r.Match[m.From] + 1
		}
		r.Next[m.From] = next
		r.tell(m.From)
	}
}

func (r *raftModel) takeEntries(m impl.Message, same bool) {
	refused := impl.Message{Kind: 4, To: m.From}
	if m.Index > 0 {
		refused.Index = min(len(r.Log), m.Index-1)
	}
	if !same {
		r.send(refused)
		return
	}
	r.follow()
	r.Elapsed = 0
	if m.Index > len(r.Log) || r.terms()[m.Index] != m.LogTerm {
		r.send(refused)
		return
	}
	merged := slices.Clone(r.Log[:m.Index])
	for i, e := range m.Entries {
		if at := m.Index + i; at >= len(r.Log) || r.Log[at].Term != e.Term {
			merged = append(merged, m.Entries[i:]...)
			r.Log = merged
			break
		}
		merged = append(merged, r.Log[m.Index+i])
	}
	last := m.Index + len(m.Entries)
	if most := min(m.Commit, last); most > r.Commit {
		r.Commit = most
	}
	r.send(impl.Message{Kind: 4, To: m.From, Ok: true, Index: last})
}

// modelStep does a thing with a model of the node; it answers the node as it was, and a code, if the node would not be right then.
func modelStep(n impl.Node, do func(r *raftModel)) (impl.Node, []impl.Message, int) {
	r := &raftModel{Node: cloneNode(n)}
	do(r)
	if !modelNodeOK(r.Node) {
		return n, nil, impl.ErrForm
	}
	return r.Node, r.sent, impl.OK
}

func modelTick(n impl.Node, draw int) (impl.Node, []impl.Message, int) {
	switch {
	case !modelNodeOK(n):
		return impl.Node{}, nil, impl.ErrBad
	case !inBounds(draw, 0, 1000000):
		return impl.Node{}, nil, impl.ErrRange
	case !n.Up:
		return n, nil, impl.ErrDown
	}
	return modelStep(n, func(r *raftModel) { r.tick(draw) })
}

func modelNodeTake(n impl.Node, m impl.Message) (impl.Node, []impl.Message, int) {
	switch {
	case !modelNodeOK(n), !modelMessageOK(m):
		return impl.Node{}, nil, impl.ErrBad
	case m.To != n.Id, m.From >= n.Nodes:
		return impl.Node{}, nil, impl.ErrRange
	case !n.Up:
		return n, nil, impl.ErrDown
	}
	return modelStep(n, func(r *raftModel) { r.take(m) })
}

func modelPropose(n impl.Node, data string) (impl.Node, []impl.Message, int) {
	switch {
	case len(data) > impl.MaxText:
		return impl.Node{}, nil, impl.ErrLong
	case !modelNodeOK(n):
		return impl.Node{}, nil, impl.ErrBad
	case !inBounds(len(data), 1, 400):
		return impl.Node{}, nil, impl.ErrRange
	case !n.Up:
		return n, nil, impl.ErrDown
	case n.Role != 2:
		return n, nil, impl.ErrLeader
	case len(n.Log) == 60:
		return n, nil, impl.ErrFull
	}
	r := &raftModel{Node: cloneNode(n)}
	r.Log = append(r.Log, impl.Entry{Term: n.Term, Data: data})
	r.advance()
	for _, id := range r.others() {
		r.tell(id)
	}
	return r.Node, r.sent, impl.OK
}

// wantHeld asks what is promised of every step of a right node: it stays right, neither its Term nor its Commit falls, it votes
// once in a term, and what it sends is right, from it, to another, of its Term.
func wantHeld(t *testing.T, what string, was, now impl.Node, sent []impl.Message) {
	t.Helper()
	if !impl.NodeOK(now) || now.Term < was.Term || now.Commit < was.Commit || now.Term == was.Term && was.Vote != -1 && now.Vote != was.Vote {
		t.Fatalf("%s makes %s of %s", what, nodeShown(now), nodeShown(was))
	}
	for _, m := range sent {
		if m.From != was.Id || m.To == was.Id || m.To >= was.Nodes || m.Term != now.Term || !impl.MessageOK(m) && now.Term > 0 {
			t.Fatalf("%s with %s sends %s", what, nodeShown(was), messageShown(m))
		}
	}
}

// wantStep holds what a call answered against the model, and asks that its node was not changed.
func wantStep(t *testing.T, what string, n, kept, got impl.Node, sent []impl.Message, code int, model func(impl.Node) (impl.Node, []impl.Message, int)) {
	t.Helper()
	want, wantSent, wantCode := model(kept)
	if code != wantCode || !sameNodes(got, want) || !sameMessages(sent, wantSent) {
		t.Fatalf("%s with %s:\n%s, %s, %d, not\n%s, %s, %d", what, nodeShown(kept), nodeShown(got), messagesShown(sent), code, nodeShown(want), messagesShown(wantSent), wantCode)
	}
	if !sameNodes(n, kept) {
		t.Fatalf("%s changes %s to %s", what, nodeShown(kept), nodeShown(n))
	}
	if modelNodeOK(kept) && modelNodeOK(want) {
		wantHeld(t, what, kept, got, sent)
	}
	wantApart(t, what, n, got, sent)
}

func wantTick(t *testing.T, n impl.Node, draw int) (impl.Node, []impl.Message, int) {
	t.Helper()
	kept := cloneNode(n)
	got, sent, code := impl.NodeTick(n, draw)
	wantStep(t, fmt.Sprint("NodeTick by ", draw), n, kept, got, sent, code, func(n impl.Node) (impl.Node, []impl.Message, int) { return modelTick(n, draw) })
	return got, sent, code
}

func wantTake(t *testing.T, n impl.Node, m impl.Message) (impl.Node, []impl.Message, int) {
	t.Helper()
	kept, keptMessage := cloneNode(n), cloneMessage(m)
	got, sent, code := impl.NodeTake(n, m)
	what := "NodeTake of " + messageShown(keptMessage)
	wantStep(t, what, n, kept, got, sent, code, func(n impl.Node) (impl.Node, []impl.Message, int) { return modelNodeTake(n, keptMessage) })
	if !sameMessage(m, keptMessage) {
		t.Fatalf("%s changes it to %s", what, messageShown(m))
	}
	wantApart(t, what, m, got, sent)
	return got, sent, code
}

func wantPropose(t *testing.T, n impl.Node, data string) (impl.Node, []impl.Message, int) {
	t.Helper()
	kept := cloneNode(n)
	got, sent, code := impl.NodePropose(n, data)
	wantStep(t, fmt.Sprintf("NodePropose of %d bytes", len(data)), n, kept, got, sent, code, func(n impl.Node) (impl.Node, []impl.Message, int) { return modelPropose(n, data) })
	return got, sent, code
}

// wantAnswer is for what is written out by hand: the node, all that it sends, and OK.
func wantAnswer(t *testing.T, got impl.Node, sent []impl.Message, code int, want impl.Node, wantSent ...impl.Message) {
	t.Helper()
	if code != impl.OK || !sameNodes(got, want) || !sameMessages(sent, wantSent) {
		t.Errorf("%s, %s, %d, not\n%s, %s", nodeShown(got), messagesShown(sent), code, nodeShown(want), messagesShown(wantSent))
	}
}

// wantRefused is of calls that answer all zero, or the node as it was, with a code.
func wantRefused(t *testing.T, got impl.Node, sent []impl.Message, code int, want impl.Node, wantCode int) {
	t.Helper()
	if code != wantCode || !sameNodes(got, want) || len(sent) != 0 {
		t.Errorf("%s, %s, %d, not %s, %d", nodeShown(got), messagesShown(sent), code, nodeShown(want), wantCode)
	}
}

var strayNumbers = []int{math.MinInt, math.MinInt + 1, -1 << 32, -1000, 1 << 16, 1 << 32, 1<<32 + 1, math.MaxInt - 1, math.MaxInt}

func TestNodeConstants(t *testing.T) {
	got := []int{impl.MaxNodes, impl.LeastWait, impl.HeartBeat, impl.RoFollower, impl.RoCandidate, impl.RoLeader, impl.RmVote, impl.RmVoted, impl.RmAppend, impl.RmAppended}
	if !slices.Equal(got, []int{5, 5, 2, 0, 1, 2, 1, 2, 3, 4}) {
		t.Error(got)
	}
}

func TestNewNodes(t *testing.T) {
	places := append([]int{-2, -1, 0, 1, 2, 3, 4, 5, 6}, strayNumbers...)
	for _, nodes := range places {
		for _, id := range places {
			n, code := impl.NewNode(id, nodes)
			if id < 0 || id >= nodes || nodes > 5 {
				wantRefused(t, n, nil, code, impl.Node{}, impl.ErrRange)
				continue
			}
			want := impl.Node{Id: id, Nodes: nodes, Vote: -1, Up: true, Wait: []int{5, 6, 7, 8, 9}[id], Next: []int{1, 1, 1, 1, 1}[:nodes], Match: []int{0, 0, 0, 0, 0}[:nodes]}
			wantAnswer(t, n, nil, code, want)
			if !impl.NodeOK(n) || !sameNodes(n, newNode(id, nodes)) {
				t.Error("not right:", nodeShown(n))
			}
			other, _ := impl.NewNode(id, nodes)
			wantApart(t, "NewNode", n, other)
		}
	}
}

func wantNodeOK(t *testing.T, n impl.Node, want bool) {
	t.Helper()
	if impl.NodeOK(n) != want || modelNodeOK(n) != want {
		t.Errorf("NodeOK of %s is %v, not %v", nodeShown(n), impl.NodeOK(n), want)
	}
}

// baseNode is right, in the midst of all bounds.
func baseNode() impl.Node {
	n := leaderOf(1, 7, "1:a 2:b 2:c 7:d", 2, []int{3, 5, 4}, []int{1, 0, 3})
	n.Votes, n.Elapsed, n.Wait = []int{0, 1}, 1, 9
	return n
}

// changedNode is a base node that differs in what the change does to it.
func changedNode(change func(n *impl.Node)) impl.Node {
	n := baseNode()
	change(&n)
	return n
}

func TestNodesNumbersInBounds(t *testing.T) {
	wantNodeOK(t, baseNode(), true)
	wantNodeOK(t, impl.Node{}, false)
	for n := -2; n < 1010; n++ {
		for _, part := range []struct {
			right  bool
			change func(*impl.Node)
		}{
			{inBounds(n, 0, 2), func(x *impl.Node) { x.Id = n }},
			{n == 3, func(x *impl.Node) { x.Nodes = n }},
			{inBounds(n, 7, 1000), func(x *impl.Node) { x.Term = n }},
			{inBounds(n, -1, 2), func(x *impl.Node) { x.Vote = n }},
			{inBounds(n, 0, 2), func(x *impl.Node) { x.Role = n }},
			{n == 0, func(x *impl.Node) { x.Role, x.Up = n, false }},
			{inBounds(n, 0, 4), func(x *impl.Node) { x.Commit = n }},
			{inBounds(n, 0, 1000), func(x *impl.Node) { x.Elapsed = n }},
			{inBounds(n, 5, 100), func(x *impl.Node) { x.Wait = n }},
			{inBounds(n, 0, 2), func(x *impl.Node) { x.Votes = []int{n} }},
			{inBounds(n, 1, 2), func(x *impl.Node) { x.Votes = []int{0, n} }},
			{inBounds(n, 0, 1), func(x *impl.Node) { x.Votes = []int{n, 2} }},
			{inBounds(n, 2, 5), func(x *impl.Node) { x.Next[0] = n }},
			{inBounds(n, 1, 5), func(x *impl.Node) { x.Next[1] = n }},
			{inBounds(n, 4, 5), func(x *impl.Node) { x.Next[2] = n }},
			{inBounds(n, 0, 2), func(x *impl.Node) { x.Match[0] = n }},
			{inBounds(n, 0, 4), func(x *impl.Node) { x.Match[1] = n }},
			{inBounds(n, 0, 3), func(x *impl.Node) { x.Match[2] = n }},
			{inBounds(n, 0, 4), func(x *impl.Node) { x.Next[2], x.Match[2] = n+1, n }},
			{false, func(x *impl.Node) { x.Next[2], x.Match[2] = n, n }},
		} {
			wantNodeOK(t, changedNode(part.change), part.right)
		}
	}
	for _, n := range strayNumbers {
		for _, change := range []func(*impl.Node){
			func(x *impl.Node) { x.Id = n }, func(x *impl.Node) { x.Nodes = n }, func(x *impl.Node) { x.Term = n }, func(x *impl.Node) { x.Vote = n }, func(x *impl.Node) { x.Role = n }, func(x *impl.Node) { x.Role, x.Up = n, false },
			func(x *impl.Node) { x.Commit = n }, func(x *impl.Node) { x.Elapsed = n }, func(x *impl.Node) { x.Wait = n }, func(x *impl.Node) { x.Votes = []int{n} }, func(x *impl.Node) { x.Votes = []int{1, n} },
			func(x *impl.Node) { x.Next[2] = n }, func(x *impl.Node) { x.Match[2] = n }, func(x *impl.Node) { x.Next[0], x.Match[0] = n, n-1 }, func(x *impl.Node) { x.Log[3].Term = n }, func(x *impl.Node) { x.Log[0].Term = n },
		} {
			wantNodeOK(t, changedNode(change), false)
		}
	}
}

func TestNodesOfEachCount(t *testing.T) {
	for nodes := -1; nodes <= 7; nodes++ {
		for id := -1; id <= 7; id++ {
			for vote := -2; vote <= 7; vote++ {
				n := newNode(0, max(nodes, 0))
				n.Id, n.Nodes, n.Vote, n.Wait = id, nodes, vote, 5
				wantNodeOK(t, n, inBounds(nodes, 1, 5) && inBounds(id, 0, nodes-1) && inBounds(vote, -1, nodes-1))
			}
		}
		for length := range 8 {
			for other := range 8 {
				n := newNode(0, 5)
				n.Nodes, n.Next, n.Match = nodes, slices.Repeat([]int{1}, length), make([]int, other)
				wantNodeOK(t, n, inBounds(nodes, 1, 5) && length == nodes && other == nodes)
			}
		}
	}
	for _, length := range []int{impl.MaxList, impl.MaxList + 1} {
		wantNodeOK(t, changedNode(func(n *impl.Node) { n.Next = slices.Repeat([]int{1}, length) }), false)
		wantNodeOK(t, changedNode(func(n *impl.Node) { n.Match = make([]int, length) }), false)
		wantNodeOK(t, changedNode(func(n *impl.Node) { n.Votes = make([]int, length) }), false)
	}
}

func TestVotesOfNodes(t *testing.T) {
	for i := range 7 * 7 * 7 * 4 {
		votes := []int{i%7 - 1, i/7%7 - 1, i/49%7 - 1}[:i/343]
		for nodes := 1; nodes <= 5; nodes++ {
			n := newNode(0, nodes)
			n.Votes = votes
			want := true
			for k, id := range votes {
				want = want && id >= 0 && id < nodes && (k == 0 || votes[k-1] < id)
			}
			wantNodeOK(t, n, want)
		}
	}
	n := newNode(2, 5)
	n.Votes = []int{0, 1, 2, 3, 4}
	wantNodeOK(t, n, true)
	n.Votes = []int{0, 1, 2, 3, 4, 4}
	wantNodeOK(t, n, false)
}

// A node's Term, Vote and Log are a state's; Vote is a node.
func TestNodesOfStates(t *testing.T) {
	for _, s := range append(rightStates(), wrongStates()...) {
		for nodes := 1; nodes <= 5; nodes++ {
			for role := range 3 {
				n := nodeOf(nodes-1, nodes, s.Term, s.Vote, role, "", 0)
				n.Log = s.Log
				right := modelStateOK(s) && s.Vote < nodes
				wantNodeOK(t, n, right)
				n.Commit = len(s.Log)
				n.Next[0], n.Match[0] = len(s.Log)+1, len(s.Log)
				wantNodeOK(t, n, right)
				n.Up = false
				wantNodeOK(t, n, right && role == impl.RoFollower)
				n.Up, n.Commit = true, len(s.Log)+1
				wantNodeOK(t, n, false)
				n.Commit, n.Next[0] = 0, len(s.Log)+2
				wantNodeOK(t, n, false)
				n.Next[0], n.Match[0] = len(s.Log)+1, len(s.Log)+1
				wantNodeOK(t, n, false)
			}
		}
	}
}

// wrongNodes differ from the base node in one part each.
func wrongNodes() []impl.Node {
	list := []impl.Node{{}, {Nodes: 1}, {Nodes: 1, Vote: -1, Up: true, Wait: 5}, {Nodes: 1, Vote: -1, Next: []int{1}, Match: []int{0}}}
	for _, change := range []func(*impl.Node){
		func(n *impl.Node) { n.Id = -1 }, func(n *impl.Node) { n.Id = 3 }, func(n *impl.Node) { n.Nodes = 0 }, func(n *impl.Node) { n.Nodes = 2 }, func(n *impl.Node) { n.Nodes = 4 }, func(n *impl.Node) { n.Nodes = 6 }, func(n *impl.Node) { n.Term = -1 }, func(n *impl.Node) { n.Term = 6 }, func(n *impl.Node) { n.Term = 1001 },
		func(n *impl.Node) { n.Vote = -2 }, func(n *impl.Node) { n.Vote = 3 }, func(n *impl.Node) { n.Vote = 5 }, func(n *impl.Node) { n.Role = -1 }, func(n *impl.Node) { n.Role = 3 }, func(n *impl.Node) { n.Up = false }, func(n *impl.Node) { n.Up, n.Role = false, 1 },
		func(n *impl.Node) { n.Log[0].Term = 0 }, func(n *impl.Node) { n.Log[1].Term = 3 }, func(n *impl.Node) { n.Log[3].Term = 8 }, func(n *impl.Node) { n.Log[3].Data = strings.Repeat("d", 401) }, func(n *impl.Node) { n.Log = longLog(61, 7, "") }, func(n *impl.Node) { n.Log = n.Log[:1] }, func(n *impl.Node) { n.Log = nil },
		func(n *impl.Node) { n.Commit = -1 }, func(n *impl.Node) { n.Commit = 5 }, func(n *impl.Node) { n.Elapsed = -1 }, func(n *impl.Node) { n.Elapsed = 1001 }, func(n *impl.Node) { n.Wait = 4 }, func(n *impl.Node) { n.Wait = 101 },
		func(n *impl.Node) { n.Votes = []int{1, 0} }, func(n *impl.Node) { n.Votes = []int{1, 1} }, func(n *impl.Node) { n.Votes = []int{-1} }, func(n *impl.Node) { n.Votes = []int{3} }, func(n *impl.Node) { n.Next = n.Next[:2] }, func(n *impl.Node) { n.Match = n.Match[:2] }, func(n *impl.Node) { n.Next, n.Match = nil, nil },
		func(n *impl.Node) { n.Next = append(n.Next, 1) }, func(n *impl.Node) { n.Match = append(n.Match, 0) }, func(n *impl.Node) { n.Next[1] = 0 }, func(n *impl.Node) { n.Next[1] = 6 }, func(n *impl.Node) { n.Match[0] = -1 }, func(n *impl.Node) { n.Match[2] = 4 }, func(n *impl.Node) { n.Match[0] = math.MaxInt },
	} {
		list = append(list, changedNode(change))
	}
	return list
}

func TestNodesThatAreNotRight(t *testing.T) {
	zero := impl.Node{}
	for _, n := range wrongNodes() {
		wantNodeOK(t, n, false)
		for _, draw := range []int{math.MinInt, -1, 0, 1000000, 1000001, math.MaxInt} {
			got, sent, code := wantTick(t, n, draw)
			wantRefused(t, got, sent, code, zero, impl.ErrBad)
		}
		for _, m := range append(someMessages(), wrongMessages()...) {
			got, sent, code := wantTake(t, n, m)
			wantRefused(t, got, sent, code, zero, impl.ErrBad)
		}
		for size, want := range map[int]int{0: impl.ErrBad, 1: impl.ErrBad, 400: impl.ErrBad, 401: impl.ErrBad, impl.MaxText: impl.ErrBad, impl.MaxText + 1: impl.ErrLong} {
			got, sent, code := wantPropose(t, n, strings.Repeat("d", size))
			wantRefused(t, got, sent, code, zero, want)
		}
		kept := cloneNode(n)
		if ok, code := impl.UpToDate(n, 60, 1000); ok || code != impl.ErrBad {
			t.Error("UpToDate of", nodeShown(n), ok, code)
		}
		if list, code := impl.Committed(n); len(list) != 0 || code != impl.ErrBad {
			t.Error("Committed of", nodeShown(n), list, code)
		}
		if !sameNodes(n, kept) {
			t.Error("changed:", nodeShown(kept))
		}
	}
}

func wantMessageOK(t *testing.T, m impl.Message, want bool) {
	t.Helper()
	kept := cloneMessage(m)
	if impl.MessageOK(m) != want || modelMessageOK(m) != want || !sameMessage(m, kept) {
		t.Errorf("MessageOK of %s is %v, not %v", messageShown(m), impl.MessageOK(m), want)
	}
}

func TestMessagesNumbersInBounds(t *testing.T) {
	for kind := 1; kind <= 4; kind++ {
		base := impl.Message{Kind: kind, From: 2, To: 3, Term: 9, Index: 5, LogTerm: 4, Commit: 3, Ok: true}
		wantMessageOK(t, base, true)
		changed := func(change func(*impl.Message), want bool) {
			t.Helper()
			m := base
			change(&m)
			wantMessageOK(t, m, want)
		}
		for n := -3; n < 1010; n++ {
			changed(func(m *impl.Message) { m.Kind = n }, inBounds(n, 1, 4))
			changed(func(m *impl.Message) { m.From = n }, inBounds(n, 0, 4) && n != 3)
			changed(func(m *impl.Message) { m.To = n }, inBounds(n, 0, 4) && n != 2)
			changed(func(m *impl.Message) { m.From, m.To = n, n }, false)
			changed(func(m *impl.Message) { m.Term = n }, inBounds(n, 4, 1000))
			changed(func(m *impl.Message) { m.Term, m.LogTerm = n, 0 }, inBounds(n, 1, 1000))
			changed(func(m *impl.Message) { m.Term, m.LogTerm = n, n }, inBounds(n, 1, 1000))
			changed(func(m *impl.Message) { m.Index = n }, inBounds(n, 0, 60) && (n > 0 || kind != impl.RmAppend))
			changed(func(m *impl.Message) { m.Index, m.LogTerm = n, 0 }, inBounds(n, 0, 60))
			changed(func(m *impl.Message) { m.Commit = n }, inBounds(n, 0, 60))
			changed(func(m *impl.Message) { m.LogTerm = n }, inBounds(n, 0, 9))
			changed(func(m *impl.Message) { m.Index, m.LogTerm = 0, n }, n == 0 || kind != impl.RmAppend && inBounds(n, 0, 9))
		}
		for _, n := range strayNumbers {
			for _, change := range []func(*impl.Message){
				func(m *impl.Message) { m.Kind = n }, func(m *impl.Message) { m.From = n }, func(m *impl.Message) { m.To = n }, func(m *impl.Message) { m.Term = n }, func(m *impl.Message) { m.Term, m.LogTerm = n, n },
				func(m *impl.Message) { m.Index = n }, func(m *impl.Message) { m.Commit = n }, func(m *impl.Message) { m.LogTerm = n },
			} {
				changed(change, false)
			}
		}
		changed(func(m *impl.Message) { m.Ok = false }, true)
		changed(func(m *impl.Message) { m.Entries = []impl.Entry{} }, true)
		changed(func(m *impl.Message) { m.Entries = logOf("4:x") }, kind == impl.RmAppend)
		changed(func(m *impl.Message) { m.Entries = logOf("9:") }, kind == impl.RmAppend)
	}
	wantMessageOK(t, impl.Message{}, false)
}

func TestMessagesEntries(t *testing.T) {
	long := strings.Repeat("d", 400)
	for _, c := range []struct {
		index, logTerm int
		entries        string
		want           bool
	}{
		{0, 0, "", true}, {0, 0, "1:x", true}, {0, 0, "7:x", true}, {0, 0, "8:x", false}, {0, 0, "0:x", false}, {0, 0, "-1:x", false}, {0, 1, "1:x", false}, {0, 7, "", false}, {3, 0, "", true}, {3, 0, "1:x", true}, {3, 0, "0:x", false},
		{3, 2, "2:x", true}, {3, 2, "3:x", true}, {3, 2, "1:x", false}, {3, 2, "1:x 2:y", false}, {3, 2, "2:x 1:y", false}, {3, 2, "2:x 2:y 3:z 7:w", true}, {3, 2, "2:x 4:y 3:z", false}, {3, 2, "2:x 7:y 8:z", false}, {3, 2, "2:x 0:y", false}, {3, 2, "2:x 9223372036854775807:y", false},
		{3, 7, "7:x 7:y", true}, {3, 7, "6:x 7:y", false}, {3, 2, "2:x 2:" + long, true}, {3, 2, "2:x 2:" + long + "d", false}, {3, 2, "2:" + long + "d 2:x", false}, {3, 2, "2:" + long + " 2:" + long, true},
		{60, 2, "", true}, {60, 2, "2:x", false}, {59, 2, "2:x", true}, {59, 2, "2:x 2:y", false}, {58, 2, "2:x 2:y", true},
	} {
		wantMessageOK(t, appendOf(0, 1, 7, c.index, c.logTerm, 0, c.entries), c.want)
		for _, kind := range []int{impl.RmVote, impl.RmVoted, impl.RmAppended} {
			m := appendOf(0, 1, 7, c.index, c.logTerm, 0, c.entries)
			m.Kind = kind
			wantMessageOK(t, m, c.entries == "")
		}
	}
	for index := range 61 {
		for _, count := range []int{1, 30, 59 - index, 60 - index, 61 - index, 62 - index, 60, 61, impl.MaxList + 1} {
			if count > 0 {
				m := appendOf(0, 1, 7, index, min(index, 1), 0, "")
				m.Entries = longLog(count, 7, "")
				wantMessageOK(t, m, index+count <= 60)
			}
		}
	}
}

// wrongMessages differ from a right one in one part each.
func wrongMessages() []impl.Message {
	list := []impl.Message{{}, voteOf(0, 0, 1, 0, 0), votedOf(1, 1, 1, true), appendOf(0, 1, 1, 0, 1, 0, ""), appendOf(0, 1, 7, 3, 2, 0, "1:x"), appendOf(0, 1, 7, 3, 2, 0, "2:x 8:y"), appendOf(0, 1, 7, 3, 2, 0, "3:x 2:y"), appendOf(0, 1, 7, 60, 2, 0, "3:x"), appendOf(0, 1, 7, 0, 0, 0, "0:x")}
	for _, change := range []func(*impl.Message){
		func(m *impl.Message) { m.Kind = 0 }, func(m *impl.Message) { m.Kind = 5 }, func(m *impl.Message) { m.From = -1 }, func(m *impl.Message) { m.From = 5 }, func(m *impl.Message) { m.To = -1 }, func(m *impl.Message) { m.To = 5 }, func(m *impl.Message) { m.Term = 0 }, func(m *impl.Message) { m.Term = 1001 },
		func(m *impl.Message) { m.Index = -1 }, func(m *impl.Message) { m.Index = 61 }, func(m *impl.Message) { m.Commit = -1 }, func(m *impl.Message) { m.Commit = 61 }, func(m *impl.Message) { m.LogTerm = -1 }, func(m *impl.Message) { m.LogTerm = 8 }, func(m *impl.Message) { m.Kind, m.Entries = impl.RmVote, logOf("7:x") },
		func(m *impl.Message) { m.Entries = longLog(61, 7, "") }, func(m *impl.Message) { m.Entries = logOf("7:" + strings.Repeat("d", 401)) },
	} {
		m := appendOf(0, 1, 7, 3, 2, 1, "")
		change(&m)
		list = append(list, m)
	}
	return list
}

// someMessages are right ones to node 1, of each kind and of terms around the base node's.
func someMessages() []impl.Message {
	list := []impl.Message{appendOf(0, 1, 7, 3, 2, 4, "2:x 7:y"), appendOf(2, 1, 8, 4, 7, 5, "8:x"), appendOf(0, 1, 7, 1, 1, 60, "2:b"), appendOf(0, 1, 7, 0, 0, 0, "1:x 1:y"), appendOf(0, 1, 7, 0, 0, 0, "2:x"), appendOf(2, 1, 1000, 60, 7, 60, "")}
	for _, term := range []int{1, 6, 7, 8, 1000} {
		for _, from := range []int{0, 2} {
			list = append(list, voteOf(from, 1, term, 4, min(term, 7)), voteOf(from, 1, term, 60, term), votedOf(from, 1, term, true), votedOf(from, 1, term, false), appendOf(from, 1, term, 0, 0, 0, ""), appendOf(from, 1, term, 4, min(term, 7), 4, ""),
				appendedOf(from, 1, term, true, 4), appendedOf(from, 1, term, true, 60), appendedOf(from, 1, term, false, 0), appendedOf(from, 1, term, false, 60))
		}
	}
	return list
}

func TestMessagesThatAreNotRight(t *testing.T) {
	down := downNode(baseNode())
	for _, m := range wrongMessages() {
		wantMessageOK(t, m, false)
		for _, n := range []impl.Node{baseNode(), down, newNode(1, 2), newNode(0, 1), newNode(4, 5)} {
			got, sent, code := wantTake(t, n, m)
			wantRefused(t, got, sent, code, impl.Node{}, impl.ErrBad)
		}
	}
	for _, m := range someMessages() {
		wantMessageOK(t, m, true)
	}
}

// sampleNodes are right, of every role, count and edge.
func sampleNodes() []impl.Node {
	full := longLog(60, 7, "x")
	list := []impl.Node{baseNode(), downNode(baseNode()), newNode(0, 1), newNode(1, 2), newNode(1, 3), newNode(1, 4), newNode(1, 5), newNode(4, 5), downNode(newNode(1, 3))}
	for role := range 3 {
		for nodes := 2; nodes <= 5; nodes++ {
			list = append(list, nodeOf(1, nodes, 7, 1, role, "1:a 2:b 7:c", 2), nodeOf(1, nodes, 7, -1, role, "1:a 2:b 2:c", 0), nodeOf(1, nodes, 1000, 0, role, "1:a", 1), nodeOf(1, nodes, 1, 0, role, "", 0))
		}
		list = append(list, withLog(nodeOf(1, 3, 7, 1, role, "", 0), full), withLog(nodeOf(0, 1, 7, 0, role, "", 0), full), withElapsed(nodeOf(1, 3, 7, 1, role, "2:a", 0), 1000, 100), withElapsed(nodeOf(1, 3, 1000, 1, role, "2:a", 0), 1000, 5))
	}
	one := candidateOf(1, 5, 7, "1:a 2:b", 1)
	two := candidateOf(1, 5, 7, "1:a 2:b", 1, 2)
	return append(list, one, two, candidateOf(1, 3, 7, "", 1), candidateOf(1, 2, 7, "", 1), candidateOf(1, 3, 7, "1:x 7:y"), leaderOf(1, 7, "1:a 7:b 7:c", 1, []int{4, 1, 4}, []int{3, 0, 3}), leaderOf(1, 7, "1:a 2:b 7:c", 0, []int{4, 4, 4, 4, 1}, []int{0, 0, 0, 3, 0}))
}

func TestEveryMessageToEveryNode(t *testing.T) {
	codes := map[int]int{}
	for _, n := range sampleNodes() {
		for _, m := range append(someMessages(), wrongMessages()...) {
			_, _, code := wantTake(t, n, m)
			codes[code]++
		}
		for _, m := range someMessages() {
			if m.To = n.Id; m.From == m.To {
				m.From = (n.Id + 1) % 5
			}
			got, _, code := wantTake(t, n, m)
			codes[code]++
			if code == impl.OK {
				wantTake(t, got, m)
			}
		}
	}
	for _, code := range []int{impl.OK, impl.ErrBad, impl.ErrRange, impl.ErrDown, impl.ErrForm} {
		if codes[code] == 0 {
			t.Error("no message with the code", code)
		}
	}
}

func TestTicksBelowAtAndBeyondTheWait(t *testing.T) {
	for role := range 3 {
		for wait := 5; wait <= 100; wait++ {
			for _, elapsed := range []int{0, 1, 2, 3, wait - 2, wait - 1, wait, wait + 1, 500, 998, 999, 1000} {
				for nodes := 1; nodes <= 5; nodes++ {
					n := withElapsed(nodeOf(0, nodes, 7, 0, role, "1:a 7:b", 1), elapsed, wait)
					got, sent, _ := wantTick(t, n, elapsed)
					acts := role != impl.RoLeader && elapsed+1 >= wait || role == impl.RoLeader && elapsed >= 1
					if want := oneIf(acts) * (nodes - 1); len(sent) != want || acts != (got.Elapsed == 0) || !acts && got.Elapsed != min(elapsed+1, 1000) {
						t.Errorf("%s with %s sends %d", nodeShown(n), nodeShown(got), len(sent))
					}
				}
			}
		}
	}
}

func TestTicksWrittenOut(t *testing.T) {
	n := nodeOf(1, 3, 4, 2, impl.RoFollower, "1:a 3:b", 1)
	n.Elapsed = 4
	got, sent, code := wantTick(t, n, 3)
	n.Elapsed = 5
	wantAnswer(t, got, sent, code, n)
	got, sent, code = wantTick(t, n, 3)
	want := candidateOf(1, 3, 5, "1:a 3:b", 1)
	want.Commit, want.Wait = 1, 8
	wantAnswer(t, got, sent, code, want, voteOf(1, 0, 5, 2, 3), voteOf(1, 2, 5, 2, 3))
	// A candidate that is not voted for stands again.
	want.Elapsed, want.Votes = 7, []int{1, 2}
	got, sent, code = wantTick(t, want, 15)
	again := candidateOf(1, 3, 6, "1:a 3:b", 1)
	again.Commit, again.Wait = 1, 12
	wantAnswer(t, got, sent, code, again, voteOf(1, 0, 6, 2, 3), voteOf(1, 2, 6, 2, 3))
	// With no entries.
	got, sent, code = wantTick(t, withElapsed(newNode(4, 5), 30, 9), 0)
	first := candidateOf(4, 5, 1, "", 4)
	first.Wait = 5
	wantAnswer(t, got, sent, code, first, voteOf(4, 0, 1, 0, 0), voteOf(4, 1, 1, 0, 0), voteOf(4, 2, 1, 0, 0), voteOf(4, 3, 1, 0, 0))
}

// What a candidate keeps: its log and what it knew of others.
func TestACandidateKeepsItsPlaces(t *testing.T) {
	n := withElapsed(changedNode(func(n *impl.Node) { n.Role = impl.RoFollower }), 8, 9)
	got, sent, code := wantTick(t, n, 1)
	want := cloneNode(n)
	want.Term, want.Vote, want.Role, want.Votes, want.Elapsed, want.Wait = 8, 1, impl.RoCandidate, []int{1}, 0, 6
	wantAnswer(t, got, sent, code, want, voteOf(1, 0, 8, 4, 7), voteOf(1, 2, 8, 4, 7))
}

func TestALeadersHeartBeat(t *testing.T) {
	n := leaderOf(1, 7, "1:a 2:b 7:c 7:d", 3, []int{5, 1, 2, 4}, []int{4, 0, 1, 2})
	want := cloneNode(n)
	want.Elapsed = 1
	got, sent, code := wantTick(t, n, 6)
	wantAnswer(t, got, sent, code, want)
	tells := []impl.Message{appendOf(1, 0, 7, 4, 7, 3, ""), appendOf(1, 2, 7, 1, 1, 3, "2:b 7:c 7:d"), appendOf(1, 3, 7, 3, 7, 3, "7:d")}
	for _, elapsed := range []int{1, 2, 3, 999, 1000} {
		got, sent, code = wantTick(t, withElapsed(n, elapsed, 6), 6)
		wantAnswer(t, got, sent, code, n, tells...)
	}
	// However long its own Wait is, and at the last Term.
	last := withElapsed(leaderOf(0, 1000, "1000:a", 1, []int{1, 1}, []int{0, 0}), 1, 5)
	got, sent, code = wantTick(t, last, 0)
	wantAnswer(t, got, sent, code, withElapsed(last, 0, 5), appendOf(0, 1, 1000, 0, 0, 1, "1000:a"))
	alone := withElapsed(leaderOf(0, 9, "1:a", 1, []int{2}, []int{0}), 1, 5)
	got, sent, code = wantTick(t, alone, 0)
	wantAnswer(t, got, sent, code, withElapsed(alone, 0, 5))
}

func TestTicksAtTheLastTerm(t *testing.T) {
	for _, role := range []int{impl.RoFollower, impl.RoCandidate} {
		for nodes := 1; nodes <= 5; nodes++ {
			n := withElapsed(nodeOf(0, nodes, 1000, -1, role, "1000:a", 0), 999, 5)
			want := withElapsed(n, 1000, 5)
			got, sent, code := wantTick(t, n, 0)
			wantAnswer(t, got, sent, code, want)
			got, sent, code = wantTick(t, got, 0)
			wantAnswer(t, got, sent, code, want)
			n.Term, n.Log = 999, nil
			got, _, _ = wantTick(t, n, 0)
			if got.Term != 1000 || got.Vote != 0 || got.Elapsed != 0 || got.Role != impl.RoCandidate+oneIf(nodes == 1) {
				t.Error("at the last Term but one:", nodeShown(got))
			}
		}
	}
}

func TestDraws(t *testing.T) {
	n := withElapsed(newNode(0, 3), 4, 5)
	for draw, want := range map[int]int{0: 5, 1: 6, 2: 7, 3: 8, 4: 9, 5: 10, 6: 11, 7: 12, 8: 5, 9: 6, 15: 12, 16: 5, 999999: 12, 1000000: 5} {
		if got, _, code := wantTick(t, n, draw); code != impl.OK || got.Wait != want {
			t.Error("a draw of", draw, "makes", nodeShown(got), code)
		}
		if got, _, code := wantTick(t, withElapsed(n, 3, 5), draw); code != impl.OK || got.Wait != 5 || got.Elapsed != 4 {
			t.Error("a draw of", draw, "makes", nodeShown(got), code)
		}
	}
	for _, draw := range []int{math.MinInt, -8, -1, 1000001, 1000002, 1 << 32, math.MaxInt} {
		for _, node := range []impl.Node{n, newNode(0, 3), baseNode(), downNode(n)} {
			got, sent, code := wantTick(t, node, draw)
			wantRefused(t, got, sent, code, impl.Node{}, impl.ErrRange)
		}
	}
	for _, draw := range []int{0, 1000000} {
		got, sent, code := wantTick(t, downNode(n), draw)
		wantRefused(t, got, sent, code, downNode(n), impl.ErrDown)
		late := withElapsed(downNode(baseNode()), 1000, 5)
		got, sent, code = wantTick(t, late, draw)
		wantRefused(t, got, sent, code, late, impl.ErrDown)
	}
}

func TestOneNodeAloneLeads(t *testing.T) {
	n := withElapsed(newNode(0, 1), 4, 5)
	got, sent, code := wantTick(t, n, 9)
	want := leaderOf(0, 1, "1:", 1, []int{1}, []int{0})
	want.Votes, want.Wait = []int{0}, 6
	wantAnswer(t, got, sent, code, want)
	// What it has of earlier Terms is committed by the entry of its own.
	n = withElapsed(nodeOf(0, 1, 7, -1, impl.RoFollower, "1:a 7:b", 0), 50, 5)
	got, sent, code = wantTick(t, n, 0)
	want = leaderOf(0, 8, "1:a 7:b 8:", 3, []int{3}, []int{0})
	want.Votes = []int{0}
	wantAnswer(t, got, sent, code, want)
	// With no room for it nothing is: none of the entries is of its Term.
	for _, commit := range []int{0, 17, 60} {
		n = withElapsed(nodeOf(0, 1, 7, 0, impl.RoCandidate, "", 0), 5, 5)
		n.Log, n.Commit = longLog(60, 7, "x"), commit
		got, sent, code = wantTick(t, n, 0)
		want = leaderOf(0, 8, "", commit, []int{61}, []int{0})
		want.Log, want.Votes = n.Log, []int{0}
		wantAnswer(t, got, sent, code, want)
	}
	n.Log = n.Log[:59]
	n.Commit, n.Next[0] = 0, 1
	got, _, _ = wantTick(t, n, 0)
	if len(got.Log) != 60 || got.Commit != 60 || got.Next[0] != 60 || got.Log[59] != (impl.Entry{Term: 8}) {
		t.Error("with room for one:", nodeShown(got))
	}
	if _, sent, code = wantTick(t, got, 0); len(sent) != 0 || code != impl.OK {
		t.Error("alone it sends", messagesShown(sent), code)
	}
}

func TestAFullLogIsNoHindranceToStand(t *testing.T) {
	n := withElapsed(withLog(nodeOf(2, 3, 7, 0, impl.RoFollower, "", 0), longLog(60, 6, "x")), 9, 7)
	got, sent, code := wantTick(t, n, 2)
	want := withLog(candidateOf(2, 3, 8, "", 2), n.Log)
	want.Wait = 7
	wantAnswer(t, got, sent, code, want, voteOf(2, 0, 8, 60, 6), voteOf(2, 1, 8, 60, 6))
}

func TestTheVoteOfANode(t *testing.T) {
	log := "1:a 3:b 3:c"
	for _, c := range []struct {
		vote, from     int
		term           int
		index, logTerm int
		ok             bool
	}{
		{-1, 0, 5, 3, 3, true}, {0, 0, 5, 3, 3, true}, {2, 0, 5, 3, 3, false}, {1, 0, 5, 3, 3, false}, {2, 2, 5, 3, 3, true}, {0, 2, 5, 3, 3, false}, {0, 2, 5, 60, 5, false},
		{-1, 0, 4, 3, 3, false}, {0, 0, 4, 3, 3, false}, {-1, 0, 1, 60, 1, false}, {-1, 0, 4, 60, 4, false},
		{-1, 0, 6, 3, 3, true}, {0, 0, 6, 3, 3, true}, {2, 0, 6, 3, 3, true}, {1, 0, 6, 3, 3, true}, {1, 0, 1000, 3, 3, true}, {2, 0, 6, 2, 3, false}, {2, 0, 6, 60, 2, false},
		{-1, 0, 5, 2, 3, false}, {-1, 0, 5, 4, 3, true}, {-1, 0, 5, 60, 3, true}, {-1, 0, 5, 0, 3, false}, {-1, 0, 5, 3, 2, false}, {-1, 0, 5, 60, 2, false}, {-1, 0, 5, 60, 0, false}, {-1, 0, 5, 0, 0, false},
		{-1, 0, 5, 3, 4, true}, {-1, 0, 5, 2, 4, true}, {-1, 0, 5, 0, 4, true}, {-1, 0, 5, 1, 5, true},
	} {
		n := withElapsed(nodeOf(1, 3, 5, c.vote, impl.RoFollower, log, 2), 3, 40)
		got, sent, code := wantTake(t, n, voteOf(c.from, 1, c.term, c.index, c.logTerm))
		want := cloneNode(n)
		if c.term > 5 {
			want.Term, want.Vote = c.term, -1
		}
		if c.ok {
			want.Vote, want.Elapsed = c.from, 0
		}
		wantAnswer(t, got, sent, code, want, votedOf(1, c.from, max(5, c.term), c.ok))
		// What a message of this kind has besides does not count.
		odd := voteOf(c.from, 1, c.term, c.index, c.logTerm)
		odd.Ok, odd.Commit = true, 60
		again, sentAgain, _ := wantTake(t, n, odd)
		wantAnswer(t, again, sentAgain, code, want, sent...)
	}
	// With no entries every log is up to date.
	got, sent, code := wantTake(t, newNode(1, 3), voteOf(0, 1, 1, 0, 0))
	want := nodeOf(1, 3, 1, 0, impl.RoFollower, "", 0)
	wantAnswer(t, got, sent, code, want, votedOf(1, 0, 1, true))
}

// A candidate and a leader have voted for themselves; a higher Term makes followers of them, whether they vote or not.
func TestTheVotesOfCandidatesAndLeaders(t *testing.T) {
	candidate := withElapsed(candidateOf(1, 3, 5, "1:a 5:b", 1), 3, 40)
	leader := withElapsed(leaderOf(1, 5, "1:a 5:b", 1, []int{3, 3, 2}, []int{2, 0, 1}), 1, 40)
	for _, n := range []impl.Node{candidate, leader} {
		for _, term := range []int{1, 4, 5} {
			got, sent, code := wantTake(t, n, voteOf(0, 1, term, 60, term))
			wantAnswer(t, got, sent, code, n, votedOf(1, 0, 5, false))
		}
		for index, ok := range map[int]bool{0: false, 1: false, 2: true, 3: true} {
			got, sent, code := wantTake(t, n, voteOf(2, 1, 6, index, 5))
			want := withElapsed(nodeOf(1, 3, 6, -1, impl.RoFollower, "1:a 5:b", n.Commit), n.Elapsed, 40)
			if ok {
				want.Vote, want.Elapsed = 2, 0
			}
			wantAnswer(t, got, sent, code, want, votedOf(1, 2, 6, ok))
		}
	}
}

func TestVotesForACandidate(t *testing.T) {
	n := withElapsed(candidateOf(1, 5, 5, "1:a 3:b", 1), 2, 9)
	n.Commit = 1
	for _, m := range []impl.Message{votedOf(0, 1, 5, false), votedOf(0, 1, 4, true), votedOf(0, 1, 1, true), votedOf(3, 1, 4, false)} {
		got, sent, code := wantTake(t, n, m)
		wantAnswer(t, got, sent, code, n)
	}
	for _, ok := range []bool{true, false} {
		got, sent, code := wantTake(t, n, votedOf(0, 1, 6, ok))
		wantAnswer(t, got, sent, code, withElapsed(nodeOf(1, 5, 6, -1, impl.RoFollower, "1:a 3:b", 1), 2, 9))
	}
	two := cloneNode(n)
	two.Votes = []int{1, 3}
	got, sent, code := wantTake(t, n, votedOf(3, 1, 5, true))
	wantAnswer(t, got, sent, code, two)
	got, sent, code = wantTake(t, got, votedOf(3, 1, 5, true))
	wantAnswer(t, got, sent, code, two)
	// The third is more than half: it leads.
	for _, from := range []int{0, 2, 4} {
		got, sent, code = wantTake(t, two, votedOf(from, 1, 5, true))
		want := withElapsed(leaderOf(1, 5, "1:a 3:b 5:", 1, []int{3, 3, 3, 3, 3}, make([]int, 5)), 0, 9)
		want.Votes = map[int][]int{0: {0, 1, 3}, 2: {1, 2, 3}, 4: {1, 3, 4}}[from]
		wantAnswer(t, got, sent, code, want, appendOf(1, 0, 5, 2, 3, 1, "5:"), appendOf(1, 2, 5, 2, 3, 1, "5:"), appendOf(1, 3, 5, 2, 3, 1, "5:"), appendOf(1, 4, 5, 2, 3, 1, "5:"))
		// A leader has no more use for votes.
		again, sent, code := wantTake(t, got, votedOf((from+1)%5+oneIf(from == 0), 1, 5, true))
		wantAnswer(t, again, sent, code, got)
	}
	follower := nodeOf(1, 5, 5, 1, impl.RoFollower, "", 0)
	got, sent, code = wantTake(t, follower, votedOf(0, 1, 5, true))
	wantAnswer(t, got, sent, code, follower)
}

// How many votes it takes, of each count of nodes.
func TestJustMoreThanHalfOfTheVotes(t *testing.T) {
	for nodes := 2; nodes <= 5; nodes++ {
		for id := range nodes {
			n := candidateOf(id, nodes, 3, "2:a", id)
			for from := range nodes {
				if from == id {
					continue
				}
				got, sent, _ := wantTake(t, n, votedOf(from, id, 3, true))
				count := len(n.Votes) + 1
				if leads := 2*count > nodes; n.Role == impl.RoCandidate && leads != (got.Role == impl.RoLeader) || leads && len(sent) != oneIf(n.Role == impl.RoCandidate)*(nodes-1) {
					t.Errorf("with %d votes of %d: %s sends %d", count, nodes, nodeShown(got), len(sent))
				}
				n = got
			}
		}
	}
}

func TestALeadWithAFullLog(t *testing.T) {
	n := withLog(candidateOf(0, 2, 8, "", 0), longLog(60, 7, "x"))
	n.Commit = 33
	got, sent, code := wantTake(t, n, votedOf(1, 0, 8, true))
	want := withLog(leaderOf(0, 8, "", 33, []int{61, 61}, []int{0, 0}), n.Log)
	want.Votes = []int{0, 1}
	wantAnswer(t, got, sent, code, want, appendOf(0, 1, 8, 60, 7, 33, ""))
	// What all have of an earlier Term is never committed then.
	got, sent, code = wantTake(t, got, appendedOf(1, 0, 8, true, 60))
	want.Match = []int{0, 60}
	wantAnswer(t, got, sent, code, want)
	n.Log, n.Commit = n.Log[:59], 0
	got, sent, code = wantTake(t, n, votedOf(1, 0, 8, true))
	want = withLog(leaderOf(0, 8, "", 0, []int{60, 60}, []int{0, 0}), append(longLog(59, 7, "x"), impl.Entry{Term: 8}))
	want.Votes = []int{0, 1}
	wantAnswer(t, got, sent, code, want, appendOf(0, 1, 8, 59, 7, 0, "8:"))
	got, _, _ = wantTake(t, got, appendedOf(1, 0, 8, true, 60))
	if got.Commit != 60 {
		t.Error("with an entry of its Term:", nodeShown(got))
	}
}

func TestEntriesThatAreTaken(t *testing.T) {
	log := "1:a 2:b 2:c 4:d"
	for _, c := range []struct {
		index, logTerm int
		entries        string
		want           string
	}{
		{0, 0, "", log}, {1, 1, "", log}, {3, 2, "", log}, {4, 4, "", log},
		{4, 4, "4:e", log + " 4:e"}, {4, 4, "5:e 5:f", log + " 5:e 5:f"},
		{0, 0, "1:a", log}, {0, 0, "1:a 2:b 2:c", log}, {0, 0, log, log}, {0, 0, log + " 5:e", log + " 5:e"}, {2, 2, "2:c", log}, {2, 2, "2:c 4:d", log}, {2, 2, "2:c 4:d 4:e 5:f", log + " 4:e 5:f"}, {3, 2, "4:d 5:e", log + " 5:e"},
		{0, 0, "2:x", "2:x"}, {0, 0, "1:a 1:x", "1:a 1:x"}, {0, 0, "1:a 3:x 3:y", "1:a 3:x 3:y"}, {0, 0, "1:a 2:b 3:x", "1:a 2:b 3:x"}, {2, 2, "3:x", "1:a 2:b 3:x"}, {2, 2, "4:x", "1:a 2:b 4:x"}, {2, 2, "2:c 5:x", "1:a 2:b 2:c 5:x"}, {2, 2, "2:c 3:x 4:d", "1:a 2:b 2:c 3:x 4:d"}, {1, 1, "1:x 1:y 1:z 1:w 5:v", "1:a 1:x 1:y 1:z 1:w 5:v"}, {3, 2, "5:x", "1:a 2:b 2:c 5:x"},
		// Entries of the same Term are the same: what it has stays.
		{0, 0, "1:x 2:y", log}, {2, 2, "2:x 4:y 4:e", log + " 4:e"}, {2, 2, "2:x 5:y", "1:a 2:b 2:c 5:y"},
	} {
		for _, term := range []int{5, 6} {
			for _, role := range []int{impl.RoFollower, impl.RoCandidate, impl.RoLeader} {
				n := withElapsed(nodeOf(1, 3, 5, 1, role, log, 0), 4, 11)
				n.Votes, n.Next, n.Match = []int{1}, []int{5, 3, 2}, []int{4, 2, 1}
				got, sent, code := wantTake(t, n, appendOf(2, 1, term, c.index, c.logTerm, 0, c.entries))
				want := withElapsed(nodeOf(1, 3, term, 1-2*oneIf(term == 6), impl.RoFollower, c.want, 0), 0, 11)
				wantAnswer(t, got, sent, code, want, appendedOf(1, 2, term, true, c.index+len(logOf(c.entries))))
			}
		}
	}
}

func TestEntriesThatAreNotTaken(t *testing.T) {
	log := "1:a 2:b 2:c 4:d"
	for _, c := range []struct {
		index, logTerm int
		entries        string
		back           int
	}{
		{5, 4, "", 4}, {5, 4, "5:x", 4}, {6, 4, "", 4}, {60, 4, "", 4}, {5, 0, "", 4}, {6, 0, "5:x", 4},
		{4, 3, "4:x", 3}, {4, 5, "", 3}, {4, 2, "", 3}, {4, 0, "", 3}, {3, 1, "2:x", 2}, {3, 3, "", 2}, {2, 1, "", 1}, {2, 4, "4:x", 1}, {1, 2, "", 0}, {1, 0, "1:a", 0}, {1, 5, "5:x", 0},
	} {
		for _, role := range []int{impl.RoFollower, impl.RoCandidate, impl.RoLeader} {
			n := withElapsed(nodeOf(1, 3, 5, 1, role, log, 2), 4, 11)
			n.Votes, n.Next, n.Match = []int{1}, []int{5, 3, 2}, []int{4, 2, 1}
			for _, term := range []int{5, 6} {
				got, sent, code := wantTake(t, n, appendOf(2, 1, term, c.index, c.logTerm, 60, c.entries))
				want := withElapsed(nodeOf(1, 3, term, 1-2*oneIf(term == 6), impl.RoFollower, log, 2), 0, 11)
				wantAnswer(t, got, sent, code, want, appendedOf(1, 2, term, false, c.back))
			}
		}
	}
	// Of a lower Term nothing is, whatever it tells, and nothing changes.
	for index, back := range map[int]int{0: 0, 1: 0, 2: 1, 3: 2, 4: 3, 5: 4, 6: 4, 60: 4} {
		for _, role := range []int{impl.RoFollower, impl.RoCandidate, impl.RoLeader} {
			for _, term := range []int{1, 4} {
				n := withElapsed(nodeOf(1, 3, 5, 1, role, log, 2), 4, 11)
				n.Votes, n.Next, n.Match = []int{1}, []int{5, 3, 2}, []int{4, 2, 1}
				got, sent, code := wantTake(t, n, appendOf(2, 1, term, index, min(index, 1), 60, ""))
				wantAnswer(t, got, sent, code, n, appendedOf(1, 2, 5, false, back))
			}
		}
	}
	got, sent, code := wantTake(t, newNode(1, 3), appendOf(0, 1, 1, 1, 1, 1, "1:x"))
	wantAnswer(t, got, sent, code, nodeOf(1, 3, 1, -1, impl.RoFollower, "", 0), appendedOf(1, 0, 1, false, 0))
	got, sent, code = wantTake(t, newNode(1, 3), appendOf(0, 1, 1, 0, 0, 1, "1:x"))
	wantAnswer(t, got, sent, code, nodeOf(1, 3, 1, -1, impl.RoFollower, "1:x", 1), appendedOf(1, 0, 1, true, 1))
}

// A follower knows to be committed what the leader does, but no more than the message's entries reach.
func TestTheCommitOfAFollower(t *testing.T) {
	log := "1:a 2:b 2:c 4:d"
	for commit := range 5 {
		for told := range 9 {
			for _, c := range []struct {
				index, logTerm int
				entries        string
				reach          int
			}{{0, 0, "", 0}, {1, 1, "", 1}, {4, 4, "", 4}, {4, 4, "4:e 5:f", 6}, {1, 1, "2:b", 2}, {0, 0, "1:a 2:b 2:c", 3}, {2, 2, "2:c 4:d 5:e", 5}} {
				n := nodeOf(1, 3, 5, 1, impl.RoFollower, log, commit)
				got, sent, code := wantTake(t, n, appendOf(0, 1, 5, c.index, c.logTerm, told, c.entries))
				if want := max(commit, min(told, c.reach)); code != impl.OK || got.Commit != want || len(sent) != 1 || sent[0].Commit != 0 || sent[0].Index != c.reach {
					t.Errorf("commit %d, told %d with %d entries behind %d: %s, %d", commit, told, len(logOf(c.entries)), c.index, nodeShown(got), code)
				}
			}
		}
	}
}

// What would cut off what is committed leaves the node as it was.
func TestEntriesThatWouldCutCommittedOnes(t *testing.T) {
	log := "1:a 2:b 2:c 4:d"
	for commit := range 5 {
		for _, c := range []struct {
			index, logTerm int
			entries        string
			last           int
		}{{0, 0, "3:x", 1}, {0, 0, "1:a 3:x", 2}, {1, 1, "3:x", 2}, {1, 1, "2:b 3:x", 3}, {2, 2, "3:x", 3}, {2, 2, "3:x 4:y", 4}, {3, 2, "5:x", 4}, {1, 1, "1:x 1:x 1:x 1:x", 5}} {
			for _, term := range []int{5, 7} {
				for _, role := range []int{impl.RoFollower, impl.RoCandidate, impl.RoLeader} {
					n := withElapsed(nodeOf(1, 3, 5, 1, role, log, commit), 4, 11)
					n.Votes = []int{1}
					got, sent, code := wantTake(t, n, appendOf(2, 1, term, c.index, c.logTerm, 0, c.entries))
					if commit > c.last {
						wantRefused(t, got, sent, code, n, impl.ErrForm)
					} else if code != impl.OK || len(got.Log) != c.last || got.Commit != commit {
						t.Errorf("%s, %d", nodeShown(got), code)
					}
				}
			}
		}
	}
	n := withLog(nodeOf(1, 3, 5, 1, impl.RoFollower, "", 0), longLog(60, 5, "x"))
	n.Commit = 60
	m := appendOf(2, 1, 9, 59, 5, 60, "9:x")
	if got, _, code := wantTake(t, n, m); code != impl.OK || len(got.Log) != 60 || got.Commit != 60 {
		t.Errorf("%s, %d", nodeShown(got), code)
	}
	m = appendOf(2, 1, 9, 58, 5, 60, "9:x")
	got, sent, code := wantTake(t, n, m)
	wantRefused(t, got, sent, code, n, impl.ErrForm)
}

func TestAsManyEntriesAsThereIsRoom(t *testing.T) {
	n := newNode(1, 3)
	m := impl.Message{Kind: impl.RmAppend, From: 0, To: 1, Term: 7, Commit: 60, Entries: longLog(60, 7, strings.Repeat("d", 400))}
	got, sent, code := wantTake(t, n, m)
	want := withLog(nodeOf(1, 3, 7, -1, impl.RoFollower, "", 0), m.Entries)
	want.Commit = 60
	wantAnswer(t, got, sent, code, want, appendedOf(1, 0, 7, true, 60))
	got, sent, code = wantTake(t, got, m)
	wantAnswer(t, got, sent, code, want, appendedOf(1, 0, 7, true, 60))
	got, sent, code = wantTake(t, got, appendOf(0, 1, 7, 60, 7, 60, ""))
	wantAnswer(t, got, sent, code, want, appendedOf(1, 0, 7, true, 60))
}

func TestALeaderIsToldNo(t *testing.T) {
	log := "1:a 2:b 2:c 4:d"
	for _, c := range []struct{ next, match, index, want int }{
		{5, 0, 60, 4}, {5, 0, 4, 4}, {5, 0, 3, 4}, {5, 0, 2, 3}, {5, 0, 1, 2}, {5, 0, 0, 1}, {4, 0, 60, 3}, {2, 0, 60, 1}, {2, 0, 0, 1}, {1, 0, 60, 1}, {1, 0, 0, 1},
		{5, 1, 0, 2}, {5, 2, 0, 3}, {5, 3, 0, 4}, {5, 4, 0, 5}, {5, 4, 60, 5}, {5, 3, 60, 4}, {3, 2, 1, 3}, {3, 1, 60, 2}, {2, 1, 0, 2}, {4, 1, 2, 3}, {4, 1, 1, 2},
	} {
		n := withElapsed(leaderOf(1, 5, log, 2, []int{c.next, 1, 5}, []int{c.match, 0, 2}), 1, 6)
		got, sent, code := wantTake(t, n, appendedOf(0, 1, 5, false, c.index))
		want := cloneNode(n)
		want.Next[0] = c.want
		tell := appendOf(1, 0, 5, c.want-1, []int{0, 1, 2, 2, 4}[c.want-1], 2, "")
		tell.Entries = logOf(log)[c.want-1:]
		wantAnswer(t, got, sent, code, want, tell)
	}
}

func TestALeaderIsToldYes(t *testing.T) {
	log := "1:a 2:b 2:c 4:d"
	for _, c := range []struct{ next, match, index, wantNext, wantMatch int }{
		{1, 0, 0, 1, 0}, {1, 0, 1, 2, 1}, {1, 0, 2, 3, 2}, {1, 0, 4, 5, 4}, {1, 0, 5, 5, 4}, {1, 0, 60, 5, 4}, {5, 0, 0, 5, 0}, {5, 0, 1, 5, 1}, {5, 0, 4, 5, 4}, {5, 0, 60, 5, 4},
		{3, 2, 0, 3, 2}, {3, 2, 1, 3, 2}, {3, 2, 2, 3, 2}, {3, 2, 3, 4, 3}, {4, 1, 2, 4, 2}, {4, 1, 3, 4, 3}, {4, 1, 4, 5, 4}, {5, 4, 3, 5, 4}, {5, 4, 60, 5, 4},
	} {
		n := withElapsed(leaderOf(1, 5, log, 2, []int{c.next, 1, 5}, []int{c.match, 0, 2}), 1, 6)
		got, sent, code := wantTake(t, n, appendedOf(0, 1, 5, true, c.index))
		want := cloneNode(n)
		want.Next[0], want.Match[0] = c.wantNext, c.wantMatch
		wantAnswer(t, got, sent, code, want)
	}
	// With no entries.
	n := leaderOf(1, 5, "", 0, []int{1, 1}, []int{0, 0})
	for _, index := range []int{0, 1, 60} {
		got, sent, code := wantTake(t, n, appendedOf(0, 1, 5, true, index))
		wantAnswer(t, got, sent, code, n)
		got, sent, code = wantTake(t, n, appendedOf(0, 1, 5, false, index))
		wantAnswer(t, got, sent, code, n, appendOf(1, 0, 5, 0, 0, 0, ""))
	}
}

// RmAppended counts for a leader of that Term alone.
func TestAnswersThatDoNotCount(t *testing.T) {
	for _, role := range []int{impl.RoFollower, impl.RoCandidate, impl.RoLeader} {
		n := changedNode(func(n *impl.Node) { n.Role = role })
		for _, ok := range []bool{false, true} {
			for _, term := range []int{1, 6, 7} {
				if term == 7 && role == impl.RoLeader {
					continue
				}
				got, sent, code := wantTake(t, n, appendedOf(0, 1, term, ok, 4))
				wantAnswer(t, got, sent, code, n)
			}
			for _, term := range []int{8, 1000} {
				got, sent, code := wantTake(t, n, appendedOf(0, 1, term, ok, 4))
				wantAnswer(t, got, sent, code, withElapsed(nodeOf(1, 3, term, -1, impl.RoFollower, "1:a 2:b 2:c 7:d", 2), 1, 9))
			}
		}
	}
}

// Of each count of nodes, whoever of them have it: by just half nothing is committed.
func TestWhatMoreThanHalfHave(t *testing.T) {
	for nodes := 2; nodes <= 5; nodes++ {
		for id := range nodes {
			for have := range 1 << nodes {
				wantCounted(t, id, nodes, have, 3, 3)
				wantCounted(t, id, nodes, have, 4, 4)
				wantCounted(t, id, nodes, have, 2, 0)
				wantCounted(t, id, nodes, have, 1, 0)
			}
		}
	}
}

// wantCounted asks what a leader knows to be committed with more than half of the nodes, and with fewer, having entries up to a place.
func wantCounted(t *testing.T, id, nodes, have, place, want int) {
	t.Helper()
	n := leaderOf(id, 7, "1:a 2:b 7:c 7:d", 0, slices.Repeat([]int{5}, nodes), make([]int, nodes))
	count := 1
	for other := range nodes {
		n.Match[other] = place * (have >> other & 1)
		count += oneIf(other != id && n.Match[other] > 0)
	}
	from := (id + 1) % nodes
	got, sent, code := wantTake(t, n, appendedOf(from, id, 7, true, n.Match[from]))
	if want *= oneIf(2*count > nodes); code != impl.OK || got.Commit != want || len(sent) != 0 {
		t.Errorf("%s, %s, %d, not %d", nodeShown(got), messagesShown(sent), code, want)
	}
}

func TestWhichEntriesMayBeCommitted(t *testing.T) {
	for _, c := range []struct {
		log    string
		term   int
		commit int
		match  []int // of nodes 1 and up, ahead of the answer of node 1
		index  int
		want   int
	}{
		{"1:a 2:b 7:c", 7, 0, []int{0, 0}, 1, 0}, {"1:a 2:b 7:c", 7, 0, []int{0, 0}, 2, 0}, {"1:a 2:b 7:c", 7, 0, []int{0, 0}, 3, 3}, {"1:a 2:b 7:c", 7, 1, []int{0, 0}, 2, 1}, {"1:a 2:b", 7, 0, []int{2, 2}, 2, 0}, {"1:a 2:b 6:c", 7, 0, []int{3, 3}, 60, 0},
		{"7:a 7:b 7:c", 7, 0, []int{0, 0}, 0, 0}, {"7:a 7:b 7:c", 7, 0, []int{0, 0}, 1, 1}, {"7:a 7:b 7:c", 7, 0, []int{0, 0}, 2, 2}, {"7:a 7:b 7:c", 7, 2, []int{0, 0}, 1, 2}, {"7:a 7:b 7:c", 7, 3, []int{0, 0}, 3, 3}, {"7:a 7:b 7:c", 7, 0, []int{0, 3}, 1, 3},
		{"1:a 7:b 7:c", 7, 0, []int{0, 0, 0}, 3, 0}, {"1:a 7:b 7:c", 7, 0, []int{0, 1, 0}, 3, 0}, {"1:a 7:b 7:c", 7, 0, []int{0, 2, 0}, 3, 2}, {"1:a 7:b 7:c", 7, 0, []int{0, 3, 0}, 3, 3}, {"1:a 7:b 7:c", 7, 0, []int{0, 3, 2}, 2, 2}, {"1:a 7:b 7:c", 7, 0, []int{0, 3, 3}, 0, 3},
		{"1:a 7:b 7:c", 7, 0, []int{0, 0, 0, 0}, 3, 0}, {"1:a 7:b 7:c", 7, 0, []int{0, 2, 0, 0}, 3, 2}, {"1:a 7:b 7:c", 7, 0, []int{0, 2, 3, 0}, 1, 2}, {"1:a 7:b 7:c", 7, 0, []int{0, 1, 1, 1}, 1, 0}, {"1:a 7:b 7:c", 7, 0, []int{0, 1, 1, 1}, 2, 0}, {"1:a 7:b 7:c", 7, 0, []int{0, 1, 2, 1}, 2, 2}, {"1:a 7:b 7:c", 7, 2, []int{0, 3, 3, 0}, 0, 3},
		{"7:a", 7, 0, []int{0}, 0, 0}, {"7:a", 7, 0, []int{0}, 1, 1}, {"6:a", 7, 0, []int{0}, 1, 0}, {"6:a 7:b", 7, 0, []int{0}, 1, 0}, {"6:a 7:b", 7, 0, []int{0}, 2, 2},
	} {
		next := slices.Repeat([]int{len(logOf(c.log)) + 1}, len(c.match)+1)
		n := leaderOf(0, c.term, c.log, c.commit, next, append([]int{0}, c.match...))
		got, sent, code := wantTake(t, n, appendedOf(1, 0, c.term, true, c.index))
		if code != impl.OK || got.Commit != c.want || len(sent) != 0 {
			t.Errorf("%s told %d: %s, %d, not %d", nodeShown(n), c.index, nodeShown(got), code, c.want)
		}
		// Its own Match does not count, whatever it is.
		n.Match[0] = len(n.Log)
		if got, _, _ := wantTake(t, n, appendedOf(1, 0, c.term, true, c.index)); got.Commit != c.want {
			t.Errorf("%s told %d: %s, not %d", nodeShown(n), c.index, nodeShown(got), c.want)
		}
	}
}

func TestProposals(t *testing.T) {
	n := withElapsed(leaderOf(1, 7, "1:a 7:b", 1, []int{3, 1, 2, 1}, []int{2, 0, 1, 0}), 1, 6)
	for _, data := range []string{"d", "data", "\x00", strings.Repeat("d", 399), strings.Repeat("d", 400)} {
		got, sent, code := wantPropose(t, n, data)
		want := cloneNode(n)
		want.Log = append(want.Log, impl.Entry{Term: 7, Data: data})
		e := ""
		tells := []impl.Message{appendOf(1, 0, 7, 2, 7, 1, e), appendOf(1, 2, 7, 1, 1, 1, e), appendOf(1, 3, 7, 0, 0, 1, e)}
		for i := range tells {
			tells[i].Entries = want.Log[tells[i].Index:]
		}
		wantAnswer(t, got, sent, code, want, tells...)
	}
	for _, size := range []int{0, 401, 402, impl.MaxText} {
		for _, node := range []impl.Node{n, downNode(n), newNode(0, 1), candidateOf(0, 2, 1, "", 0), withLog(n, longLog(60, 7, ""))} {
			got, sent, code := wantPropose(t, node, strings.Repeat("d", size))
			wantRefused(t, got, sent, code, impl.Node{}, impl.ErrRange)
		}
	}
	for _, node := range []impl.Node{n, downNode(n), newNode(0, 1), {}, withLog(n, longLog(60, 7, ""))} {
		got, sent, code := wantPropose(t, node, strings.Repeat("d", impl.MaxText+1))
		wantRefused(t, got, sent, code, impl.Node{}, impl.ErrLong)
	}
}

func TestProposalsThatAreNotTaken(t *testing.T) {
	full := longLog(60, 7, "x")
	for _, c := range []struct {
		n    impl.Node
		code int
	}{
		{downNode(newNode(0, 1)), impl.ErrDown}, {downNode(withLog(newNode(0, 1), nil)), impl.ErrDown}, {withLog(downNode(nodeOf(1, 3, 7, 1, 0, "", 0)), full), impl.ErrDown},
		{newNode(0, 1), impl.ErrLeader}, {newNode(4, 5), impl.ErrLeader}, {candidateOf(1, 3, 7, "1:a", 1), impl.ErrLeader}, {withLog(nodeOf(1, 3, 7, 1, impl.RoFollower, "", 0), full), impl.ErrLeader}, {withLog(nodeOf(1, 3, 7, 1, impl.RoCandidate, "", 0), full), impl.ErrLeader},
		{withLog(nodeOf(1, 3, 7, 1, impl.RoLeader, "", 0), full), impl.ErrFull}, {withLog(nodeOf(0, 1, 7, 0, impl.RoLeader, "", 0), full), impl.ErrFull},
	} {
		got, sent, code := wantPropose(t, c.n, "data")
		wantRefused(t, got, sent, code, c.n, c.code)
	}
}

func TestProposalsOfOneNodeAlone(t *testing.T) {
	n := leaderOf(0, 3, "2:a", 0, []int{1}, []int{0})
	for i := 2; i <= 60; i++ {
		got, sent, code := wantPropose(t, n, fmt.Sprint("data ", i))
		want := cloneNode(n)
		want.Log = append(want.Log, impl.Entry{Term: 3, Data: fmt.Sprint("data ", i)})
		want.Commit = i
		wantAnswer(t, got, sent, code, want)
		n = got
	}
	got, sent, code := wantPropose(t, n, "one more")
	wantRefused(t, got, sent, code, n, impl.ErrFull)
	list, code := impl.Committed(n)
	if code != impl.OK || len(list) != 60 || list[0] != "a" || list[59] != "data 60" {
		t.Errorf("%q, %d", list, code)
	}
}

func TestTheSixtiethEntry(t *testing.T) {
	n := withLog(leaderOf(0, 7, "", 0, []int{59, 1}, []int{0, 0}), longLog(59, 7, "x"))
	n.Next[1] = 60
	got, sent, code := wantPropose(t, n, "last")
	want := cloneNode(n)
	want.Log = append(want.Log, impl.Entry{Term: 7, Data: "last"})
	wantAnswer(t, got, sent, code, want, appendOf(0, 1, 7, 59, 7, 0, "7:last"))
	again, sent, code := wantPropose(t, got, "more")
	wantRefused(t, again, sent, code, want, impl.ErrFull)
}

// Who a message is to, and from, counts ahead of whether the node is up.
func TestMessagesToOthers(t *testing.T) {
	for nodes := 1; nodes <= 5; nodes++ {
		for id := range nodes {
			for from := range 5 {
				for to := range 5 {
					if from == to {
						continue
					}
					for _, m := range []impl.Message{voteOf(from, to, 1, 0, 0), votedOf(from, to, 1, true), appendOf(from, to, 1, 0, 0, 0, "1:x"), appendedOf(from, to, 1, true, 0)} {
						n := newNode(id, nodes)
						got, sent, code := wantTake(t, n, m)
						down := downNode(n)
						gotDown, sentDown, codeDown := wantTake(t, down, m)
						if to != id || from >= nodes {
							wantRefused(t, got, sent, code, impl.Node{}, impl.ErrRange)
							wantRefused(t, gotDown, sentDown, codeDown, impl.Node{}, impl.ErrRange)
							continue
						}
						wantRefused(t, gotDown, sentDown, codeDown, down, impl.ErrDown)
						if code != impl.OK || got.Term != 1 {
							t.Errorf("%s, %d", nodeShown(got), code)
						}
					}
				}
			}
		}
	}
	// A node that is down is so ahead of what it would become.
	n := nodeOf(1, 3, 5, -1, impl.RoFollower, "1:a 2:b", 2)
	m := appendOf(0, 1, 5, 0, 0, 0, "3:x")
	got, sent, code := wantTake(t, n, m)
	wantRefused(t, got, sent, code, n, impl.ErrForm)
	got, sent, code = wantTake(t, downNode(n), m)
	wantRefused(t, got, sent, code, downNode(n), impl.ErrDown)
	m.To = 2
	got, sent, code = wantTake(t, n, m)
	wantRefused(t, got, sent, code, impl.Node{}, impl.ErrRange)
}

func TestUpToDate(t *testing.T) {
	for _, log := range []string{"", "1:a", "1:a 3:b", "1:a 3:b 3:c", "5:a"} {
		last, own := len(logOf(log)), 0
		if last > 0 {
			own = logOf(log)[last-1].Term
		}
		for _, n := range []impl.Node{nodeOf(1, 3, 5, -1, impl.RoFollower, log, 0), nodeOf(1, 3, 5, 2, impl.RoCandidate, log, last), nodeOf(0, 5, 1000, 0, impl.RoLeader, log, 0), downNode(nodeOf(0, 1, 7, 0, 0, log, 0))} {
			kept := cloneNode(n)
			for _, index := range append([]int{-2, -1, 0, 1, 2, 3, 4, 59, 60, 61}, strayNumbers...) {
				for _, term := range append([]int{-2, -1, 0, 1, 2, 3, 4, 5, 6, 7, 1000, 1001}, strayNumbers...) {
					want := term > own || term == own && index >= last
					if got, code := impl.UpToDate(n, index, term); got != want || code != impl.OK {
						t.Errorf("UpToDate(%s, %d, %d) = %v, %d", nodeShown(n), index, term, got, code)
					}
				}
			}
			if !sameNodes(n, kept) {
				t.Error("changed:", nodeShown(kept))
			}
		}
	}
}

func TestCommitted(t *testing.T) {
	data := []string{"", "a", strings.Repeat("d", 400), "", "\xff\x00"}
	n := nodeOf(1, 3, 5, -1, impl.RoFollower, "", 0)
	for i, text := range data {
		n.Log = append(n.Log, impl.Entry{Term: 1 + i, Data: text})
	}
	for commit := range len(data) + 1 {
		n.Commit = commit
		for _, node := range []impl.Node{n, downNode(n), withElapsed(n, 1000, 100)} {
			kept := cloneNode(node)
			list, code := impl.Committed(node)
			if code != impl.OK || !slices.Equal(list, data[:commit]) || !sameNodes(node, kept) {
				t.Errorf("Committed(%s) = %.40q, %d", nodeShown(node), list, code)
			}
			other, _ := impl.Committed(node)
			wantApart(t, "Committed", list, other)
		}
	}
	for _, commit := range []int{-1, len(data) + 1} {
		n.Commit = commit
		if list, code := impl.Committed(n); code != impl.ErrBad || len(list) != 0 {
			t.Errorf("Committed(%s) = %q, %d", nodeShown(n), list, code)
		}
	}
}

// voteBook keeps whom a node has voted for in each term.
type voteBook map[int]int

func (b voteBook) want(t *testing.T, n impl.Node) {
	t.Helper()
	if n.Vote == -1 {
		return
	}
	if whom, voted := b[n.Term]; voted && whom != n.Vote {
		t.Fatalf("voted for %d too: %s", whom, nodeShown(n))
	}
	b[n.Term] = n.Vote
}

func drawnLog(draw *rand.Rand, least, most, count int) []impl.Entry {
	var log []impl.Entry
	for term := least; len(log) < count; {
		if draw.Intn(3) == 0 {
			term++
		}
		if term > most {
			break
		}
		log = append(log, impl.Entry{Term: term, Data: []string{"", "a", "b"}[draw.Intn(3)]})
	}
	return log
}

// drawnMessage is mostly right, to the node, of a Term near its own.
func drawnMessage(draw *rand.Rand, n impl.Node) impl.Message {
	m := impl.Message{Kind: 1 + draw.Intn(4), From: draw.Intn(n.Nodes), To: n.Id, Term: max(1, n.Term+[]int{-1, 0, 0, 0, 0, 0, 0, 1}[draw.Intn(8)]), Ok: draw.Intn(2) == 0}
	m.Index, m.Commit = draw.Intn(len(n.Log)+2), draw.Intn(len(n.Log)+3)
	if m.Index > 0 && m.Index <= len(n.Log) && draw.Intn(4) > 0 {
		m.LogTerm = n.Log[m.Index-1].Term
	} else if m.Index > 0 {
		m.LogTerm = draw.Intn(m.Term + 1)
	}
	if m.Kind == impl.RmAppend {
		m.Entries = drawnLog(draw, max(1, m.LogTerm), m.Term, draw.Intn(4))
	}
	return m
}

// Whatever one node is handed, as if from others that keep to no rule.
func TestDrawnStepsOfOneNode(t *testing.T) {
	draw := rand.New(rand.NewSource(81))
	codes := map[int]int{}
	for run := range 400 {
		n, book := newNode(run%(1+run%5), 1+run%5), voteBook{}
		n.Elapsed = draw.Intn(20)
		for range 150 {
			code := 0
			switch draw.Intn(6) {
			case 0, 1:
				n, _, code = wantTick(t, n, draw.Intn(20))
			case 2:
				if got, _, proposed := wantPropose(t, n, []string{"x", "y", "", strings.Repeat("z", 401)}[draw.Intn(30)/9%4]); proposed != impl.ErrRange {
					n, code = got, proposed
				}
			default:
				if m := drawnMessage(draw, n); modelMessageOK(m) {
					n, _, code = wantTake(t, n, m)
				}
			}
			codes[code]++
			book.want(t, n)
		}
	}
	for _, code := range []int{impl.OK, impl.ErrForm, impl.ErrLeader} {
		if codes[code] < 100 {
			t.Error("drawn too seldom: code", code, "of", codes)
		}
	}
}

// group is nodes and what they have sent, which may come late, twice or never.
type group struct {
	t       *testing.T
	draw    *rand.Rand
	nodes   []impl.Node
	books   []voteBook
	wire    []impl.Message
	leaders map[int]int
	done    []string
}

func newGroup(t *testing.T, draw *rand.Rand, nodes int) *group {
	g := &group{t: t, draw: draw, leaders: map[int]int{}}
	for id := range nodes {
		g.nodes, g.books = append(g.nodes, newNode(id, nodes)), append(g.books, voteBook{})
	}
	return g
}

// becomes asks, besides what holds of each step, that a term has one leader, and that what any node knows to be committed begins one list.
func (g *group) becomes(id int, n impl.Node, sent []impl.Message) {
	g.t.Helper()
	before, _ := impl.Committed(g.nodes[id])
	list, code := impl.Committed(n)
	if code != impl.OK || len(list) < len(before) || !slices.Equal(list[:len(before)], before) {
		g.t.Fatalf("what was committed did not stay: %q, then %q", before, list)
	}
	common := min(len(list), len(g.done))
	if !slices.Equal(list[:common], g.done[:common]) {
		g.t.Fatalf("node %d knows %q to be committed, not %q", id, list, g.done)
	}
	if len(list) > len(g.done) {
		g.done = list
	}
	if n.Role == impl.RoLeader {
		if other, led := g.leaders[n.Term]; led && other != id {
			g.t.Fatalf("term %d has leaders %d and %d", n.Term, other, id)
		}
		g.leaders[n.Term] = id
	}
	g.books[id].want(g.t, n)
	g.nodes[id], g.wire = n, append(g.wire, sent...)
}

func (g *group) tick(id int) {
	g.t.Helper()
	n, sent, _ := wantTick(g.t, g.nodes[id], g.draw.Intn(1000001))
	g.becomes(id, n, sent)
}

func (g *group) give(at int) {
	g.t.Helper()
	m := g.wire[at]
	n, sent, code := wantTake(g.t, g.nodes[m.To], m)
	if code != impl.OK {
		g.t.Fatalf("%s told %s: %d", nodeShown(g.nodes[m.To]), messageShown(m), code)
	}
	g.becomes(m.To, n, sent)
}

func (g *group) propose(id int, data string) {
	g.t.Helper()
	if n, sent, code := wantPropose(g.t, g.nodes[id], data); code == impl.OK {
		g.becomes(id, n, sent)
	}
}

// restart keeps what is on a store alone.
func (g *group) restart(id int) {
	n := newNode(id, len(g.nodes))
	was := g.nodes[id]
	n.Term, n.Vote, n.Log = was.Term, was.Vote, slices.Clone(was.Log)
	g.nodes[id] = n
}

func TestDrawnRunsOfNodesWithOneAnother(t *testing.T) {
	draw := rand.New(rand.NewSource(82))
	for run := range 150 {
		g := newGroup(t, draw, 1+run%5)
		grown := 0
		for step := range 500 {
			id := draw.Intn(len(g.nodes))
			at := 0
			if len(g.wire) > 0 {
				at = draw.Intn(len(g.wire))
			}
			switch what := draw.Intn(20); {
			case what < 5:
				g.tick(id)
			case what == 5:
				g.propose(id, fmt.Sprint("data ", step))
			case what == 6 && run%3 == 0 && draw.Intn(4) == 0:
				g.restart(id)
			case len(g.wire) == 0:
			case what == 7:
				g.give(at)
			case what == 8:
				g.wire = slices.Delete(g.wire, at, at+1)
			default:
				at = min(at, draw.Intn(4))
				g.give(at)
				g.wire = slices.Delete(g.wire, at, at+1)
			}
			if len(g.wire) > 40 {
				g.wire = g.wire[20:]
			}
			grown = max(grown, len(g.done))
		}
		if grown == 0 {
			t.Error("nothing was committed in run", run)
		}
	}
}

// With all that is sent given in its order, what a leader is told is committed by all.
func TestWhatALeaderIsToldIsCommittedByAll(t *testing.T) {
	draw := rand.New(rand.NewSource(83))
	for nodes := 1; nodes <= 5; nodes++ {
		g := newGroup(t, draw, nodes)
		flush := func() {
			for len(g.wire) > 0 {
				g.give(0)
				g.wire = g.wire[1:]
			}
		}
		for range 5 {
			g.tick(0)
			flush()
		}
		for i := range 59 {
			g.propose(0, fmt.Sprint("data ", i))
			flush()
		}
		for range 2 {
			g.tick(0)
			flush()
		}
		for _, n := range g.nodes {
			if n.Commit != 60 || len(n.Log) != 60 || n.Term != 1 {
				t.Error("not all is committed by", nodeShown(n))
			}
		}
	}
}

// An old leader's entry that more than half have is replaced all the same, if none of a later leader's own Term stands behind it there.
func TestAnEntryOfAnEarlierTermMayStillGo(t *testing.T) {
	leader := leaderOf(0, 4, "1: 2:x 4:", 1, []int{4, 2, 2, 4, 4}, []int{0, 1, 1, 0, 0})
	leader, _, _ = wantTake(t, leader, appendedOf(1, 0, 4, true, 2))
	leader, _, _ = wantTake(t, leader, appendedOf(2, 0, 4, true, 2))
	if leader.Commit != 1 {
		t.Fatal("an entry of an earlier Term is committed by count:", nodeShown(leader))
	}
	one := nodeOf(1, 5, 4, 0, impl.RoFollower, "1: 2:x", 1)
	one, sent, code := wantTake(t, one, voteOf(4, 1, 5, 2, 3))
	if code != impl.OK || one.Vote != 4 || !sent[0].Ok {
		t.Fatal(nodeShown(one), code)
	}
	one, _, code = wantTake(t, one, appendOf(4, 1, 5, 1, 1, 1, "3:y 5:"))
	wantAnswer(t, one, nil, code, nodeOf(1, 5, 5, 4, impl.RoFollower, "1: 3:y 5:", 1))
	leader, _, _ = wantTake(t, leader, appendedOf(1, 0, 4, true, 3))
	leader, _, _ = wantTake(t, leader, appendedOf(2, 0, 4, true, 3))
	if leader.Commit != 3 {
		t.Fatal("with one of its own Term behind it:", nodeShown(leader))
	}
}

// roomyNode has memory behind each of its lists, which no call may write to; lists tells all of it.
func roomyNode(n impl.Node) (roomy impl.Node, lists func() string) {
	s, log := roomyState(impl.State{Log: n.Log})
	rooms := [][]int{}
	room := func(list []int) []int {
		wide := append(slices.Clone(list), -7, -7, -7)
		rooms = append(rooms, wide)
		return wide[:len(list)]
	}
	n.Log, n.Votes, n.Next, n.Match = s.Log, room(n.Votes), room(n.Next), room(n.Match)
	return n, func() string { return fmt.Sprint(log, rooms) }
}

func roomyMessage(m impl.Message) (roomy impl.Message, lists func() string) {
	s, room := roomyState(impl.State{Log: m.Entries})
	m.Entries = s.Log
	return m, func() string { return fmt.Sprint(room) }
}

func TestNodesAndMessagesAreNotChangedNorWhatStandsBehindTheirLists(t *testing.T) {
	for _, base := range append(sampleNodes(), wrongNodes()...) {
		n, lists := roomyNode(base)
		was := lists()
		hold := func(what string) {
			t.Helper()
			if lists() != was || !sameNodes(n, base) {
				t.Fatalf("%s writes into %s, or behind it", what, nodeShown(base))
			}
		}
		for _, m := range append(someMessages(), wrongMessages()...) {
			wide, entries := roomyMessage(m)
			wasEntries := entries()
			got, sent, _ := impl.NodeTake(n, wide)
			again, sentAgain, _ := impl.NodeTake(n, wide)
			hold("NodeTake")
			impl.MessageOK(wide)
			if entries() != wasEntries || !sameMessage(wide, m) {
				t.Fatalf("NodeTake writes into %s, or behind it", messageShown(m))
			}
			wantApart(t, "NodeTake", n, wide, got, sent, again, sentAgain)
		}
		for _, draw := range []int{-1, 0, 5} {
			got, sent, _ := impl.NodeTick(n, draw)
			again, sentAgain, _ := impl.NodeTick(n, draw)
			hold("NodeTick")
			wantApart(t, "NodeTick", n, got, sent, again, sentAgain)
		}
		for _, data := range []string{"", "data", strings.Repeat("d", 401), strings.Repeat("d", impl.MaxText+1)} {
			got, sent, _ := impl.NodePropose(n, data)
			again, sentAgain, _ := impl.NodePropose(n, data)
			hold("NodePropose")
			wantApart(t, "NodePropose", n, got, sent, again, sentAgain)
		}
		impl.NodeOK(n)
		impl.UpToDate(n, 3, 3)
		list, _ := impl.Committed(n)
		hold("Committed")
		wantApart(t, "Committed", n, list)
	}
}
