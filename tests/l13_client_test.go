package tests

import (
	"fmt"
	"math"
	"math/rand"
	"slices"
	"strings"
	"testing"

	"loop.example/g00308/impl"
)

func sameClients(a, b impl.Client) bool {
	return a.Id == b.Id && a.Window == b.Window && a.Token == b.Token && sameMirrors(a.Mirror, b.Mirror)
}

func cloneClient(c impl.Client) impl.Client {
	c.Mirror = cloneMirror(c.Mirror)
	return c
}

func clientShown(c impl.Client) string {
	return fmt.Sprintf("{%d %.20q %.90q of %d bytes, %s}", c.Id, c.Window, c.Token, len(c.Token), mirrorShown(c.Mirror))
}

// roomyClient has memory behind its mirror's rows, which no call may write to.
func roomyClient(c impl.Client) (roomy impl.Client, lists func() string) {
	mirror, lists := roomyMirror(c.Mirror)
	c.Mirror = mirror
	return c, lists
}

// clientWith has the token of its mirror's Number.
func clientWith(key string, id int, window string, m impl.Mirror) impl.Client {
	return impl.Client{Id: id, Window: window, Token: modelToken(key, id, window, m.Number), Mirror: m}
}

func newClient(key string, id int, window string) impl.Client {
	return clientWith(key, id, window, impl.Mirror{Number: -1})
}

func modelClientOK(key string, c impl.Client) bool {
	return modelTokenCode(key, c.Id, c.Window, -1) == impl.OK && modelMirrorOK(c.Mirror) && c.Token == modelToken(key, c.Id, c.Window, c.Mirror.Number)
}

// notEmpty are what a node knows to be committed, without empty ones.
func notEmpty(n impl.Node) []string {
	var list []string
	for _, entry := range n.Log[:n.Commit] {
		if entry.Data != "" {
			list = append(list, entry.Data)
		}
	}
	return list
}

// modelPicture is what a window shows behind commands, and the multiplexer; without rows it is not there.
func modelPicture(w, h int, list []string, window string) (impl.Mux, []string) {
	m, _ := modelFold(emptyMux(w, h), list)
	at := slices.IndexFunc(m.Windows, func(other impl.Window) bool { return other.Name == window })
	if at < 0 {
		return m, nil
	}
	return m, modelWindowRows(m, m.Windows[at])
}

func modelServe(key string, w, h int, n impl.Node, token string) (impl.View, string, int) {
	refused := func(code int) (impl.View, string, int) { return impl.View{}, "", code }
	switch {
	case len(key) > 65536 || len(token) > 65536:
		return refused(impl.ErrLong)
	case !modelNodeOK(n):
		return refused(impl.ErrBad)
	case !modelSizeOK(w, h):
		return refused(impl.ErrRange)
	case !n.Up:
		return refused(impl.ErrDown)
	}
	read := modelReadToken(key, token)
	if read.code != impl.OK {
		return refused(read.code)
	}
	list := notEmpty(n)
	if len(list) < read.number {
		return refused(impl.ErrLate)
	}
	if len(list) == read.number {
		return refused(impl.ErrAgain)
	}
	now, rows := modelPicture(w, h, list, read.window)
	if rows == nil {
		return refused(impl.ErrNone)
	}
	next := modelToken(key, read.client, read.window, len(list))
	if read.number >= 0 {
		was, old := modelPicture(w, h, list[:read.number], read.window)
		if old != nil && was.W == now.W && was.H == now.H {
			v, code := modelDiffView(read.number, len(list), now.W, now.H, old, rows)
			return v, next, code
		}
	}
	v, code := modelFullView(len(list), now.W, now.H, rows)
	return v, next, code
}

func modelClientAccept(key string, c impl.Client, v impl.View, token string) (impl.Client, int) {
	switch {
	case len(key) > 65536 || len(token) > 65536:
		return impl.Client{}, impl.ErrLong
	case !modelClientOK(key, c) || !modelViewOK(v):
		return impl.Client{}, impl.ErrBad
	case token != modelToken(key, c.Id, c.Window, v.Number):
		return c, impl.ErrToken
	}
	m, code := modelAccept(c.Mirror, v)
	if code != impl.OK {
		return c, code
	}
	return impl.Client{Id: c.Id, Window: c.Window, Token: token, Mirror: m}, impl.OK
}

// wantClient holds ClientOK against the model.
func wantClient(t *testing.T, key string, base impl.Client) bool {
	t.Helper()
	c, lists := roomyClient(base)
	was := lists()
	right := modelClientOK(key, base)
	if got := impl.ClientOK(key, c); got != right {
		t.Fatalf("ClientOK(%.9q, %s) = %v", key, clientShown(base), got)
	}
	if lists() != was || !sameClients(c, base) {
		t.Fatal("ClientOK writes into the client, or behind it:", clientShown(base))
	}
	return right
}

// wantClientIs is for what is written out by hand.
func wantClientIs(t *testing.T, what, key string, c impl.Client, want bool) {
	t.Helper()
	if got := wantClient(t, key, c); got != want {
		t.Errorf("%s: %s is right: %v", what, clientShown(c), got)
	}
}

func wantNewClient(t *testing.T, key string, id int, window string, wantCode int) {
	t.Helper()
	var want impl.Client
	if wantCode == impl.OK {
		want = newClient(key, id, window)
	}
	got, code := impl.NewClient(key, id, window)
	if code != wantCode || !sameClients(got, want) {
		t.Fatalf("NewClient(%.9q of %d bytes, %d, %.15q of %d bytes) = %s, %d\nnot %s, %d", key, len(key), id, window, len(window), clientShown(got), code, clientShown(want), wantCode)
	}
	if model := modelTokenCode(key, id, window, -1); model != wantCode {
		t.Fatalf("the model's code of a client %d of %.15q is %d, not %d", id, window, model, wantCode)
	}
	if code == impl.OK {
		wantClientIs(t, "a new client", key, got, true)
	}
	wantClient(t, key, got)
}

// wantServed holds what a node shows against the model, and asks that the node is left alone, and the answer new memory.
func wantServed(t *testing.T, key string, w, h int, base impl.Node, token string) (impl.View, string, int) {
	t.Helper()
	n, lists := roomyNode(base)
	was := lists()
	got, next, code := impl.ServeView(key, w, h, n, token)
	again, nextAgain, codeAgain := impl.ServeView(key, w, h, n, token)
	what := fmt.Sprintf("ServeView(%.9q, %d, %d, %.300s, %.90q of %d bytes)", key, w, h, nodeShown(base), token, len(token))
	want, wantNext, wantCode := modelServe(key, w, h, base, token)
	if code != wantCode || next != wantNext || !sameViews(got, want) {
		t.Fatalf("%s = %s, %q, %d\nnot %s, %q, %d", what, viewShown(got), next, code, viewShown(want), wantNext, wantCode)
	}
	if codeAgain != code || nextAgain != next || !sameViews(again, got) {
		t.Fatal(what, "answers otherwise when it comes again")
	}
	if impl.ViewOK(got) != (code == impl.OK) {
		t.Fatalf("%s, %d: ViewOK of %s", what, code, viewShown(got))
	}
	if lists() != was || !sameNodes(n, base) {
		t.Fatal(what, "writes into its node, or behind its lists")
	}
	wantApart(t, what, n, got, again)
	return got, next, code
}

// wantServeCode is for codes that are written out by hand.
func wantServeCode(t *testing.T, what, key string, w, h int, n impl.Node, token string, want int) {
	t.Helper()
	if v, next, code := wantServed(t, key, w, h, n, token); code != want || want != impl.OK && (next != "" || !sameViews(v, impl.View{})) {
		t.Errorf("%s: %s, %q, %d, not %d", what, viewShown(v), next, code, want)
	}
}

// wantClientAccepted holds what a client becomes against the model, and asks that nothing that it was given is changed or kept.
func wantClientAccepted(t *testing.T, key string, base impl.Client, baseView impl.View, token string) (impl.Client, int) {
	t.Helper()
	c, clientLists := roomyClient(base)
	v, viewLists := roomyView(baseView)
	wasClient, wasView := clientLists(), viewLists()
	got, code := impl.ClientAccept(key, c, v, token)
	again, codeAgain := impl.ClientAccept(key, c, v, token)
	what := fmt.Sprintf("ClientAccept(%.9q, %s, %s, %.90q of %d bytes)", key, clientShown(base), viewShown(baseView), token, len(token))
	want, wantCode := modelClientAccept(key, base, baseView, token)
	if code != wantCode || !sameClients(got, want) {
		t.Fatalf("%s = %s, %d\nnot %s, %d", what, clientShown(got), code, clientShown(want), wantCode)
	}
	if codeAgain != code || !sameClients(again, got) {
		t.Fatal(what, "answers otherwise when it comes again")
	}
	if zero := code == impl.ErrLong || code == impl.ErrBad; impl.ClientOK(key, got) == zero || zero != sameClients(got, impl.Client{}) {
		t.Fatalf("%s, %d: ClientOK of %s", what, code, clientShown(got))
	}
	if clientLists() != wasClient || viewLists() != wasView || !sameClients(c, base) || !sameViews(v, baseView) {
		t.Fatal(what, "writes into its arguments, or behind them")
	}
	wantApart(t, what, c, v, got, again)
	return got, code
}

// wantAcceptCode is for codes that are written out by hand; with one other than ErrLong and ErrBad the client is as it was.
func wantAcceptCode(t *testing.T, what, key string, c impl.Client, v impl.View, token string, want int) {
	t.Helper()
	got, code := wantClientAccepted(t, key, c, v, token)
	if code != want {
		t.Errorf("%s: %d, not %d", what, code, want)
	}
	if want != impl.OK && want != impl.ErrLong && want != impl.ErrBad && !sameClients(got, c) {
		t.Errorf("%s: with %d the client is %s, not %s", what, code, clientShown(got), clientShown(c))
	}
}

func TestNewClientsAtEachBoundOfTheId(t *testing.T) {
	for _, id := range []int{0, 1, 100, 199, 200} {
		wantNewClient(t, "key", id, "main", impl.OK)
	}
	for _, id := range []int{-1, 201, 1000, 1 << 32, 1<<32 + 5, math.MinInt, math.MaxInt} {
		wantNewClient(t, "key", id, "main", impl.ErrBad)
	}
}

func TestTheWindowsOfNewClients(t *testing.T) {
	for _, window := range []string{"a", "_", "main", "logs", "token", nameOfLength(11), nameOfLength(12)} {
		wantNewClient(t, "key", 1, window, impl.OK)
	}
	for _, window := range []string{"", "9", "9a", " ", "ma in", "main ", "main\n", "m-n", "\xff", nameOfLength(13), strings.Repeat("a", 40), strings.Repeat("a", 41), strings.Repeat("a", impl.MaxText)} {
		wantNewClient(t, "key", 1, window, impl.ErrBad)
	}
}

func TestNewClientsOfLongTexts(t *testing.T) {
	for _, n := range []int{0, 1, 64, 65, impl.MaxText - 1, impl.MaxText} {
		wantNewClient(t, string(sampleBytes(n)), 1, "main", impl.OK)
		wantNewClient(t, string(sampleBytes(n)), 201, "main", impl.ErrBad)
	}
	long := strings.Repeat("a", impl.MaxText+1)
	wantNewClient(t, long, 1, "main", impl.ErrLong)
	wantNewClient(t, "key", 1, long, impl.ErrLong)
	wantNewClient(t, long, -1, "", impl.ErrLong)
	wantNewClient(t, "key", 201, long, impl.ErrLong)
	wantNewClient(t, long, 1, long, impl.ErrLong)
	wantNewClient(t, long[1:], 1, long[1:], impl.ErrBad)
}

func TestNewClientsWrittenOut(t *testing.T) {
	for i, c := range []struct {
		key, window, token string
		id                 int
	}{
		{"world key", "main", "token 0 main -1 ca1e286801618f4d2fc777c4d9c6bed8", 0},
		{"", "a", "token 0 a -1 3d6900a87fdd49ae02e0e92aa53e36fb", 0},
	} {
		want := impl.Client{Id: c.id, Window: c.window, Token: c.token, Mirror: impl.Mirror{Number: -1}}
		if got, code := impl.NewClient(c.key, c.id, c.window); code != impl.OK || !sameClients(got, want) {
			t.Errorf("NewClient %d: %s, %d", i, clientShown(got), code)
		}
	}
}

// someClients are right under the key: new ones, and such as have accepted views.
func someClients(key string) []impl.Client {
	list := []impl.Client{newClient(key, 0, "a"), newClient(key, 200, nameOfLength(12)), newClient(key, 1, "main")}
	for i, m := range someMirrors() {
		list = append(list, clientWith(key, i*5%201, []string{"main", "logs", "_"}[i%3], m))
	}
	return list
}

// wrongClients have but one thing wrong each, under that key.
func wrongClients(key string) []impl.Client {
	rows := motleyRows(4, 3, 0)
	list := []impl.Client{{}, {Mirror: impl.Mirror{Number: -1}}, {Window: "main", Mirror: impl.Mirror{Number: -1}}, clientWith(key+"x", 1, "main", impl.Mirror{Number: -1})}
	for _, base := range []impl.Client{newClient(key, 1, "main"), clientWith(key, 1, "main", mirrorOf(7, 4, 3, rows))} {
		for _, id := range []int{-1, 0, 2, 201, math.MinInt, math.MaxInt} {
			c := cloneClient(base)
			c.Id = id
			list = append(list, c)
		}
		for _, window := range []string{"", "9", "Main", "mai", "mainx", "logs", nameOfLength(13), strings.Repeat("a", impl.MaxText+1)} {
			c := cloneClient(base)
			c.Window = window
			list = append(list, c)
		}
		for _, number := range []int{-2, -1, 0, 6, 7, 8, 61} {
			if number != base.Mirror.Number {
				c := cloneClient(base)
				c.Token = modelToken(key, 1, "main", number)
				list = append(list, c)
			}
		}
		good := base.Token
		for _, token := range []string{
			"", "x", good[:len(good)-1], good[:len(good)-33], good + "0", good + " ", " " + good, strings.ToUpper(good), good + good, strings.Repeat("0", impl.MaxText+1), good + strings.Repeat("0", impl.MaxText),
			modelToken(key, 2, "main", base.Mirror.Number), modelToken(key, 1, "logs", base.Mirror.Number), modelToken(key+"y", 1, "main", base.Mirror.Number),
		} {
			c := cloneClient(base)
			c.Token = token
			list = append(list, c)
		}
	}
	for _, id := range []int{-1, 201} {
		list = append(list, newClient(key, id, "main"))
	}
	for _, window := range []string{"", "9", "ma in", nameOfLength(13)} {
		list = append(list, newClient(key, 1, window))
	}
	for _, m := range wrongMirrors() {
		list = append(list, clientWith(key, 1, "main", m))
	}
	return list
}

func TestClientsThatAreRightAndNot(t *testing.T) {
	long := strings.Repeat("k", impl.MaxText+1)
	for _, key := range []string{"", "key", string(sampleBytes(65)), long[1:]} {
		for _, c := range someClients(key) {
			wantClientIs(t, "a right client", key, c, true)
			wantClientIs(t, "under another key", key+"x", c, false)
			wantClientIs(t, "under another key", "other", c, false)
		}
		for _, c := range wrongClients(key) {
			wantClientIs(t, "a wrong client", key, c, false)
		}
	}
	for _, c := range append(someClients("key"), someClients(long)...) {
		wantClientIs(t, "under a key that is too long", long, c, false)
	}
}

func TestClientsWithOnePartChanged(t *testing.T) {
	rows := motleyRows(4, 3, 0)
	c, _ := impl.NewClient("key", 1, "main")
	next, code := wantClientAccepted(t, "key", c, fullOf(7, 4, 3, rows), modelToken("key", 1, "main", 7))
	if code != impl.OK {
		t.Fatal("ClientAccept", code)
	}
	for _, base := range []impl.Client{c, next} {
		wantClientIs(t, "what was told", "key", base, true)
		for i := range base.Token {
			other := cloneClient(base)
			other.Token = base.Token[:i] + "_" + base.Token[i+1:]
			wantClientIs(t, "a byte of the token changed", "key", other, false)
			other.Token = base.Token[:i] + base.Token[i+1:]
			wantClientIs(t, "a byte of the token gone", "key", other, false)
		}
		for number := -3; number <= 62; number++ {
			other := cloneClient(base)
			other.Mirror.Number = number
			wantClientIs(t, "another Number", "key", other, number == base.Mirror.Number)
			other = clientWith("key", 1, "main", mirrorOf(number, 4, 3, rows))
			wantClientIs(t, "a mirror of any Number", "key", other, inBounds(number, 0, 60))
		}
		for id := -2; id <= 202; id++ {
			other := cloneClient(base)
			other.Id = id
			wantClientIs(t, "another Id", "key", other, id == 1)
			wantClientIs(t, "the token of any Id", "key", clientWith("key", id, "main", base.Mirror), inBounds(id, 0, 200))
		}
	}
	// Of a right mirror's rows a client keeps any: its token tells the Number alone.
	next.Mirror = mirrorOf(7, 2, 2, motleyRows(2, 2, 5))
	wantClientIs(t, "another mirror of that Number", "key", next, true)
}

// saga are commands of windows that come, go and change their names, in a multiplexer that is resized there and back, with data that are none.
func saga() []string {
	return slices.Concat(
		[]string{""},
		dataIn(at(1, windowCommand("main")), at(2, outputCommand(1, 1, "one\r\ntwo"))), // 1, 2
		[]string{"junk", ""}, // 3
		dataIn(at(3, windowCommand("logs")), at(4, outputCommand(2, 1, "log"))),                           // 4, 5
		dataIn(at(5, outputCommand(1, 1, "\x1b[1;4Hmore")), at(5, outputCommand(1, 1, "again"))),          // 6, 7
		dataIn(at(6, resizeCommand(16, 5)), at(7, outputCommand(1, 1, "X")), at(8, resizeCommand(20, 8))), // 8, 9, 10
		dataIn(at(9, renameCommand("main", "old")), at(10, windowCommand("main"))),                        // 11, 12
		[]string{"", ""},
		dataIn(at(11, outputCommand(3, 1, "new")), at(12, killCommand(3)), at(13, renameCommand("logs", "main"))), // 13, 14, 15
		dataIn(at(14, splitCommand(2, false)), at(15, outputCommand(4, 1, "right")), at(16, killCommand(4))),      // 16, 17, 18
		[]string{""},
	)
}

// nodeKnowing knows the first so many of the data that are not empty to be committed, and has them all.
func nodeKnowing(list []string, count int) impl.Node {
	n := committedNode(list, 0)
	for len(notEmpty(n)) < count {
		n.Commit++
	}
	return n
}

// viewTold is a view in few words: of a full one without the rows that are blank.
func viewTold(v impl.View) string {
	words := []string{fmt.Sprintf("from %d", v.From)}
	if v.Full {
		words[0] = fmt.Sprintf("full %dx%d", v.W, v.H)
	}
	for _, row := range v.Rows {
		text := strings.TrimRight(rowTexts([]string{row.Cells})[0], " ")
		if text != "" || !v.Full {
			words = append(words, fmt.Sprintf("%d:%s", row.Y, text))
		}
	}
	return strings.Join(words, " ")
}

func TestViewsOfWindowsWrittenOut(t *testing.T) {
	for _, c := range []struct {
		window      string
		from, count int
		want        string
	}{
		{"main", -1, 0, "none"}, {"main", 0, 0, "again"}, {"main", 1, 0, "late"}, {"main", 60, 0, "late"},
		{"main", -1, 1, "full 20x8"}, {"main", 0, 1, "full 20x8"}, {"main", 1, 1, "again"}, {"main", 2, 1, "late"},
		{"main", -1, 2, "full 20x8 0:one 1:two"}, {"main", 0, 2, "full 20x8 0:one 1:two"}, {"main", 1, 2, "from 1 0:one 1:two"}, {"main", 2, 2, "again"}, {"main", 3, 2, "late"},
		{"main", 2, 3, "from 2"}, {"main", 3, 4, "from 3"}, {"main", 2, 5, "from 2"}, {"main", -1, 5, "full 20x8 0:one 1:two"}, {"main", 5, 5, "again"}, {"main", 6, 5, "late"},
		{"main", 2, 6, "from 2 0:onemore"}, {"main", 1, 6, "from 1 0:onemore 1:two"}, {"main", 6, 7, "from 6"}, {"main", 7, 6, "late"}, {"main", 0, 6, "full 20x8 0:onemore 1:two"},
		// of another size, and resized there and back
		{"main", 7, 8, "full 16x5 0:onemore 1:two"}, {"main", 8, 9, "from 8 0:onemoreX"}, {"main", 7, 9, "full 16x5 0:onemoreX 1:two"}, {"main", 9, 10, "full 20x8 0:onemoreX 1:two"},
		{"main", 7, 10, "from 7 0:onemoreX"}, {"main", 1, 10, "from 1 0:onemoreX 1:two"}, {"main", -1, 9, "full 16x5 0:onemoreX 1:two"}, {"logs", 5, 10, "from 5"}, {"logs", 5, 8, "full 16x5 0:log"},
		// renamed, made again, killed, and another one of that name
		{"main", 10, 11, "none"}, {"main", -1, 11, "none"}, {"main", 0, 11, "none"}, {"main", 11, 11, "again"}, {"main", 12, 11, "late"}, {"old", 10, 11, "full 20x8 0:onemoreX 1:two"}, {"old", 11, 18, "from 11"}, {"old", 0, 11, "full 20x8 0:onemoreX 1:two"},
		{"main", 11, 12, "full 20x8"}, {"main", 10, 12, "from 10 0: 1:"}, {"main", 12, 13, "from 12 0:new"}, {"main", 2, 13, "from 2 0:new 1:"}, {"main", 8, 13, "full 20x8 0:new"}, {"main", 13, 14, "none"}, {"main", -1, 14, "none"},
		{"main", 13, 15, "from 13 0:log"}, {"main", 14, 15, "full 20x8 0:log"}, {"main", 3, 15, "from 3 0:log 1:"}, {"logs", 14, 15, "none"}, {"logs", 4, 14, "from 4 0:log"},
		// windows that are not there yet, or never
		{"logs", -1, 3, "none"}, {"logs", 2, 3, "none"}, {"logs", 3, 3, "again"}, {"logs", 3, 4, "full 20x8"}, {"logs", 0, 5, "full 20x8 0:log"}, {"logs", 4, 5, "from 4 0:log"}, {"logs", 5, 7, "from 5"},
		{"never", -1, 18, "none"}, {"never", 0, 18, "none"}, {"never", 17, 18, "none"}, {"never", 18, 18, "again"}, {"never", 19, 18, "late"}, {"Main", 2, 6, "none"},
		// panes that come and go
		{"main", 15, 16, "from 15"}, {"main", 15, 17, "from 15 0:log       right"}, {"main", 16, 18, "from 16"}, {"main", 17, 18, "from 17 0:log"}, {"main", -1, 17, "full 20x8 0:log       right"},
	} {
		token := modelToken("key", 3, c.window, c.from)
		v, next, code := wantServed(t, "key", 20, 8, nodeKnowing(saga(), c.count), token)
		got := impl.CodeWord(code)
		if code == impl.OK {
			got = viewTold(v)
		}
		if got != c.want {
			t.Errorf("%s from %d to %d: %q, not %q", c.window, c.from, c.count, got, c.want)
		}
		if want := modelToken("key", 3, c.window, c.count); code == impl.OK && (next != want || v.Number != c.count) {
			t.Errorf("%s from %d to %d: the view of %d has the token %q", c.window, c.from, c.count, v.Number, next)
		}
	}
}

func TestViewsOfOtherSizesWrittenOut(t *testing.T) {
	for _, c := range []struct {
		w, h int
		want string
	}{
		{20, 8, "from 2 0:xy"}, {19, 8, "full 19x8 0:xy"}, {21, 8, "full 21x8 0:xy"}, {20, 7, "full 20x7 0:xy"}, {20, 9, "full 20x9 0:xy"}, {8, 8, "full 8x8 0:xy"}, {2, 2, "full 2x2 0:xy"}, {24, 10, "full 24x10 0:xy"},
	} {
		list := dataIn(at(1, windowCommand("main")), at(2, outputCommand(1, 1, "x")), at(3, resizeCommand(c.w, c.h)), at(4, outputCommand(1, 1, "y")))
		v, _, code := wantServed(t, "key", 20, 8, nodeKnowing(list, 4), modelToken("key", 1, "main", 2))
		if got := viewTold(v); code != impl.OK || got != c.want || v.W != c.w || v.H != c.h {
			t.Errorf("resized to %d by %d: %q, %d, not %q", c.w, c.h, got, code, c.want)
		}
		v, _, code = wantServed(t, "key", 20, 8, nodeKnowing(list, 4), modelToken("key", 1, "main", 3))
		if got := viewTold(v); code != impl.OK || got != "from 3 0:xy" || v.W != c.w || v.H != c.h {
			t.Errorf("behind the resize to %d by %d: %q, %d", c.w, c.h, got, code)
		}
	}
}

// A view from each number to each count is what changed, or full where the window was not there or the size another.
func TestViewsFromEveryNumber(t *testing.T) {
	t.Parallel()
	counts := map[string]int{}
	for _, list := range [][]string{saga(), story(), slices.Concat(saga()[:4], []string{"", ""}, story()[6:])} {
		for commit := range len(list) + 1 {
			n := committedNode(list, commit)
			for number := -1; number <= len(list)+1; number++ {
				for i, window := range []string{"main", "logs", "old", "log", "never"} {
					token := modelToken("key", i*40, window, number)
					v, _, code := wantServed(t, "key", 20, 8, n, token)
					kind := impl.CodeWord(code)
					if code == impl.OK {
						kind = fmt.Sprintf("full %v", v.Full)
					}
					counts[kind]++
				}
			}
		}
	}
	wantKinds(t, counts, 100, "none", "again", "late", "full true", "full false")
}

// The client goes on from what its token tells, whoever it is; entries that are empty are not counted, those that are no commands are.
func TestCountsOfViews(t *testing.T) {
	open := dataIn(at(1, windowCommand("main")))[0]
	write := dataIn(at(2, outputCommand(1, 1, "x")))[0]
	for _, c := range []struct {
		list  []string
		count int
		want  string
	}{
		{[]string{open}, 1, "full 20x8"}, {[]string{"", open}, 1, "full 20x8"}, {[]string{open, "", ""}, 1, "full 20x8"}, {[]string{"junk", open}, 2, "full 20x8"}, {[]string{open, "junk", "junk"}, 3, "from 1"},
		{[]string{"", open, "", write, ""}, 2, "from 1 0:x"}, {[]string{"junk", open, "", write}, 3, "full 20x8 0:x"}, {[]string{open, "junk", "", write}, 3, "from 1 0:x"}, {[]string{open, open, write}, 3, "from 1 0:x"},
		{append([]string{open}, make([]string, 59)...), 1, "full 20x8"}, {append(slices.Repeat([]string{"junk"}, 59), open), 60, "full 20x8"}, {append([]string{open, write}, slices.Repeat([]string{"junk"}, 58)...), 60, "from 1 0:x"},
	} {
		n := committedNode(c.list, len(c.list))
		number := 1
		if strings.HasPrefix(c.want, "full") {
			number = 0
		}
		v, token, code := wantServed(t, "key", 20, 8, n, modelToken("key", 200, "main", number))
		if code != impl.OK || v.Number != c.count || viewTold(v) != c.want || token != modelToken("key", 200, "main", c.count) {
			t.Errorf("of %.60q: %s of %d, %q, %d, not %s", c.list, viewTold(v), v.Number, token, code, c.want)
		}
		wantServeCode(t, "just as many", "key", 20, 8, n, modelToken("key", 1, "main", c.count), impl.ErrAgain)
		for number := c.count + 1; number <= 60; number++ {
			wantServeCode(t, "fewer than the token tells", "key", 20, 8, n, modelToken("key", 1, "main", number), impl.ErrLate)
		}
	}
}

func TestServeViewOfEverySize(t *testing.T) {
	list := dataIn(at(1, windowCommand("main")), at(2, outputCommand(1, 1, "x")))
	n := committedNode(list, 2)
	sides := slices.Clone(strayNumbers)
	for side := -1; side < 28; side++ {
		sides = append(sides, side)
	}
	for _, w := range sides {
		for _, h := range sides {
			for _, number := range []int{-1, 1} {
				v, _, code := wantServed(t, "key", w, h, n, modelToken("key", 1, "main", number))
				right := inBounds(w, 2, 24) && inBounds(h, 2, 10)
				if right && (code != impl.OK || v.W != w || v.H != h || v.Full != (number < 0)) || !right && code != impl.ErrRange {
					t.Errorf("ServeView for %d by %d: %s, %d", w, h, viewShown(v), code)
				}
			}
		}
	}
}

func TestServeViewOfNodes(t *testing.T) {
	first := modelToken("key", 1, "main", -1)
	for _, n := range wrongNodes() {
		wantServeCode(t, "a node that is not right", "key", 20, 8, n, first, impl.ErrBad)
		wantServeCode(t, "a node that is not right", "key", 1, 11, n, "", impl.ErrBad)
	}
	for _, n := range sampleNodes() {
		if want := impl.ErrNone; n.Up {
			wantServeCode(t, "a node without windows", "key", 20, 8, n, first, want)
		} else {
			wantServeCode(t, "a node that is down", "key", 20, 8, n, first, impl.ErrDown)
		}
	}
	up := nodeKnowing(saga(), 6)
	for role := range 3 {
		up.Role = role
		wantServeCode(t, "a node of any role", "key", 20, 8, up, first, impl.OK)
		wantServeCode(t, "a node that is down", "key", 20, 8, downNode(up), first, impl.ErrDown)
		wantServeCode(t, "a node behind a crash", "key", 20, 8, withLog(newNode(1, 3), nil), modelToken("key", 1, "main", 0), impl.ErrAgain)
	}
	up.Nodes, up.Next, up.Match = 5, []int{1, 1, 1, 1, 1}, make([]int, 5)
	wantServeCode(t, "a node of five", "key", 20, 8, withElapsed(up, 1000, 100), first, impl.OK)
}

func TestTokensThatServeNothing(t *testing.T) {
	n := nodeKnowing(saga(), 6)
	good := modelToken("key", 1, "main", 2)
	head := modelHead(1, "main", 2)
	for _, token := range []string{
		"", " ", "token", "x", head, head[:4], " " + good, good + " ", good[1:], strings.Replace(good, " ", "  ", 1), strings.Replace(good, " ", "\t", 1), strings.ToUpper(good),
		modelToken("key", -1, "main", 2), modelToken("key", 201, "main", 2), modelToken("key", 1, "", 2), modelToken("key", 1, "9", 2), modelToken("key", 1, nameOfLength(13), 2), modelToken("key", 1, "main", -2), modelToken("key", 1, "main", 61), strings.Repeat(" ", impl.MaxText), strings.Repeat("t", impl.MaxText),
	} {
		wantServeCode(t, "no token", "key", 20, 8, n, token, impl.ErrForm)
	}
	for _, token := range []string{
		good[:len(good)-1], good + "0", head + " ", head + " " + strings.Repeat("0", 32), head + strings.ToUpper(good[len(head):]), modelHead(2, "main", 2) + good[len(head):], modelHead(1, "logs", 2) + good[len(head):], modelHead(1, "main", 3) + good[len(head):],
		modelToken("other", 1, "main", 2), modelToken("", 1, "main", 2), modelToken("key", 1, "main", 2) + "\n", good + strings.Repeat("0", impl.MaxText-len(good)),
	} {
		wantServeCode(t, "another mark", "key", 20, 8, n, token, impl.ErrToken)
	}
	for _, key := range []string{"", "other", "keys", "ke", strings.Repeat("k", impl.MaxText)} {
		wantServeCode(t, "another key", key, 20, 8, n, good, impl.ErrToken)
		wantServeCode(t, "that key's own", key, 20, 8, n, modelToken(key, 1, "main", 2), impl.OK)
	}
	long := strings.Repeat("t", impl.MaxText+1)
	wantServeCode(t, "a text that is too long", "key", 20, 8, n, long, impl.ErrLong)
	wantServeCode(t, "a text that is too long", "key", 20, 8, n, good+strings.Repeat("0", impl.MaxText), impl.ErrLong)
	wantServeCode(t, "a key that is too long", long, 20, 8, n, good, impl.ErrLong)
	wantServeCode(t, "a key that is too long", long, 20, 8, n, modelToken(long, 1, "main", 2), impl.ErrLong)
}

func TestWhichCodeOfServeViewComesFirst(t *testing.T) {
	n := nodeKnowing(saga(), 11)
	down, wrong, both := downNode(n), cloneNode(n), downNode(n)
	wrong.Elapsed, both.Vote = -1, 7
	long := strings.Repeat("t", impl.MaxText+1)
	none, others := "token 1 main", modelToken("other", 1, "main", 60)
	late, again, missing := modelToken("key", 1, "never", 12), modelToken("key", 1, "never", 11), modelToken("key", 1, "never", 10)
	for _, node := range []impl.Node{n, down, wrong, both, {}} {
		for _, size := range [][2]int{{20, 8}, {1, 8}, {20, 11}, {math.MinInt, math.MaxInt}} {
			wantServeCode(t, "a long token and more", "key", size[0], size[1], node, long, impl.ErrLong)
			wantServeCode(t, "a long key and more", long, size[0], size[1], node, none, impl.ErrLong)
			wantServeCode(t, "a long key and token", long, size[0], size[1], node, long, impl.ErrLong)
		}
	}
	for _, token := range []string{none, others, late, again, missing, ""} {
		for _, node := range []impl.Node{wrong, both, {}} {
			wantServeCode(t, "a wrong node and more", "key", 1, 8, node, token, impl.ErrBad)
			wantServeCode(t, "a wrong node and a token", "key", 20, 8, node, token, impl.ErrBad)
		}
		for _, node := range []impl.Node{n, down} {
			wantServeCode(t, "a wrong size and more", "key", 25, 8, node, token, impl.ErrRange)
			wantServeCode(t, "a wrong size and more", "key", 20, 1, node, token, impl.ErrRange)
		}
		wantServeCode(t, "a node that is down, and a token", "key", 20, 8, down, token, impl.ErrDown)
	}
	wantServeCode(t, "no token", "key", 20, 8, n, none, impl.ErrForm)
	wantServeCode(t, "no token, under another key", "other", 20, 8, n, none+" 061 "+others[len(others)-32:], impl.ErrForm)
	wantServeCode(t, "another's, ahead of what the node knows", "key", 20, 8, n, others, impl.ErrToken)
	wantServeCode(t, "another's, of just as many", "key", 20, 8, n, modelToken("other", 1, "main", 11), impl.ErrToken)
	wantServeCode(t, "another's, of no window", "key", 20, 8, n, modelToken("other", 1, "never", 2), impl.ErrToken)
	wantServeCode(t, "late, of no window", "key", 20, 8, n, late, impl.ErrLate)
	wantServeCode(t, "again, of no window", "key", 20, 8, n, again, impl.ErrAgain)
	wantServeCode(t, "of no window", "key", 20, 8, n, missing, impl.ErrNone)
	wantServeCode(t, "of no window, of a node that knows none", "key", 20, 8, newNode(0, 1), modelToken("key", 1, "main", -1), impl.ErrNone)
}

// acceptBase is a client of Number 7 and a view that goes on from there, with its token.
func acceptBase() (c impl.Client, v impl.View, token string) {
	c = clientWith("key", 1, "main", mirrorOf(7, 4, 3, motleyRows(4, 3, 0)))
	return c, someOf(7, 9, 4, 3, motleyRows(4, 3, 1), 0, 2), modelToken("key", 1, "main", 9)
}

func TestClientAcceptWrittenOut(t *testing.T) {
	c, v, token := acceptBase()
	old, rows := motleyRows(4, 3, 0), motleyRows(4, 3, 1)
	want := impl.Client{Id: 1, Window: "main", Token: token, Mirror: mirrorOf(9, 4, 3, []string{rows[0], old[1], rows[2]})}
	if got, code := wantClientAccepted(t, "key", c, v, token); code != impl.OK || !sameClients(got, want) {
		t.Errorf("what changed: %s, %d", clientShown(got), code)
	}
	full := fullOf(8, 2, 2, motleyRows(2, 2, 3))
	want = impl.Client{Id: 1, Window: "main", Token: modelToken("key", 1, "main", 8), Mirror: mirrorOf(8, 2, 2, motleyRows(2, 2, 3))}
	if got, code := wantClientAccepted(t, "key", c, full, want.Token); code != impl.OK || !sameClients(got, want) {
		t.Errorf("a full one of another size: %s, %d", clientShown(got), code)
	}
	want = clientWith("key", 1, "main", mirrorOf(9, 4, 3, old))
	if got, code := wantClientAccepted(t, "key", c, someOf(7, 9, 4, 3, nil), token); code != impl.OK || !sameClients(got, want) {
		t.Errorf("nothing changed: %s, %d", clientShown(got), code)
	}
	want = clientWith("key", 1, "main", mirrorOf(0, 4, 3, rows))
	if got, code := wantClientAccepted(t, "key", newClient("key", 1, "main"), fullOf(0, 4, 3, rows), want.Token); code != impl.OK || !sameClients(got, want) {
		t.Errorf("the first one, of Number 0: %s, %d", clientShown(got), code)
	}
	wantAcceptCode(t, "an earlier one", "key", c, fullOf(6, 4, 3, rows), modelToken("key", 1, "main", 6), impl.ErrLate)
	wantAcceptCode(t, "of the same Number", "key", c, fullOf(7, 4, 3, rows), c.Token, impl.ErrLate)
	wantAcceptCode(t, "what changed of the same Number", "key", c, someOf(6, 7, 4, 3, rows, 1), c.Token, impl.ErrLate)
	for from := range 9 {
		if from != 7 {
			wantAcceptCode(t, "from another Number", "key", c, someOf(from, 9, 4, 3, rows, 1), token, impl.ErrView)
		}
	}
	wantAcceptCode(t, "of another width", "key", c, someOf(7, 9, 5, 3, motleyRows(5, 3, 1), 1), token, impl.ErrView)
	wantAcceptCode(t, "of another height", "key", c, someOf(7, 9, 4, 4, motleyRows(4, 4, 1), 1), token, impl.ErrView)
	wantAcceptCode(t, "what changed, to a new one", "key", newClient("key", 1, "main"), someOf(0, 9, 4, 3, rows, 1), token, impl.ErrView)
}

func TestTokensThatAClientDoesNotAccept(t *testing.T) {
	c, v, token := acceptBase()
	for _, base := range []impl.Client{c, newClient("key", 1, "main")} {
		for _, view := range []impl.View{v, fullOf(9, 4, 3, motleyRows(4, 3, 1)), fullOf(9, 24, 10, motleyRows(24, 10, 1))} {
			for id := -1; id <= 201; id++ {
				if id != 1 {
					wantAcceptCode(t, "a token of another Id", "key", base, view, modelToken("key", id, "main", 9), impl.ErrToken)
				}
			}
			for _, window := range []string{"", "9", "Main", "mai", "mainx", "logs", "ma in", nameOfLength(12), nameOfLength(13)} {
				wantAcceptCode(t, "a token of another Window", "key", base, view, modelToken("key", 1, window, 9), impl.ErrToken)
			}
			for number := -2; number <= 61; number++ {
				if number != 9 {
					wantAcceptCode(t, "a token of another Number", "key", base, view, modelToken("key", 1, "main", number), impl.ErrToken)
				}
			}
			for _, other := range []string{
				"", " ", "x", "token", token[:len(token)-1], token[:len(token)-33], token + "0", token + " ", " " + token, token + "\n", strings.ToUpper(token), token + token, strings.Replace(token, " ", "  ", 1), strings.Replace(token, " ", "\t", 1),
				modelHead(1, "main", 9) + " " + strings.Repeat("0", 32), modelToken("other", 1, "main", 9), modelToken("", 1, "main", 9), strings.Repeat("t", impl.MaxText), token + strings.Repeat("0", impl.MaxText-len(token)),
			} {
				wantAcceptCode(t, "none, or another's", "key", base, view, other, impl.ErrToken)
			}
			for _, other := range []string{strings.Repeat("t", impl.MaxText+1), token + strings.Repeat("0", impl.MaxText)} {
				wantAcceptCode(t, "one that is too long", "key", base, view, other, impl.ErrLong)
			}
		}
	}
}

func TestClientsAndViewsThatAreNotAccepted(t *testing.T) {
	base, v, token := acceptBase()
	for _, c := range wrongClients("key") {
		for _, view := range append(wrongViews()[:3], v, fullOf(9, 4, 3, motleyRows(4, 3, 1))) {
			wantAcceptCode(t, "a client that is not right", "key", c, view, token, impl.ErrBad)
			wantAcceptCode(t, "a client that is not right, and no token", "key", c, view, "", impl.ErrBad)
		}
	}
	for _, view := range wrongViews() {
		for _, c := range []impl.Client{base, newClient("key", 1, "main"), {}} {
			for _, other := range []string{token, c.Token, modelToken("key", 1, "main", view.Number), ""} {
				wantAcceptCode(t, "a view that is not right", "key", c, view, other, impl.ErrBad)
			}
		}
	}
	for _, key := range []string{"", "other", "keys"} {
		wantAcceptCode(t, "under another key", key, base, v, token, impl.ErrBad)
		wantAcceptCode(t, "under another key, with its token", key, base, v, modelToken(key, 1, "main", 9), impl.ErrBad)
	}
}

func TestWhichCodeOfClientAcceptComesFirst(t *testing.T) {
	c, v, token := acceptBase()
	long := strings.Repeat("t", impl.MaxText+1)
	rows := motleyRows(4, 3, 1)
	wrong, wrongView := cloneClient(c), cloneView(v)
	wrong.Id, wrongView.W = 2, 5
	late, other := fullOf(7, 4, 3, rows), someOf(6, 9, 4, 3, rows, 1)
	for _, client := range []impl.Client{c, wrong, clientWith(long, 1, "main", c.Mirror)} {
		for _, view := range []impl.View{v, wrongView, late, other} {
			wantAcceptCode(t, "a long token and more", "key", client, view, long, impl.ErrLong)
			wantAcceptCode(t, "a long key and more", long, client, view, "", impl.ErrLong)
			wantAcceptCode(t, "a long key and token", long, client, view, long, impl.ErrLong)
			wantAcceptCode(t, "a long key with its token", long, client, view, modelToken(long, 1, "main", 9), impl.ErrLong)
		}
	}
	wantAcceptCode(t, "a wrong client and another token", "key", wrong, v, "", impl.ErrBad)
	wantAcceptCode(t, "a wrong view and another token", "key", c, wrongView, "", impl.ErrBad)
	wantAcceptCode(t, "a wrong client and a late view", "key", wrong, late, c.Token, impl.ErrBad)
	wantAcceptCode(t, "another token of a late view", "key", c, late, token, impl.ErrToken)
	wantAcceptCode(t, "another token of a view from elsewhere", "key", c, other, c.Token, impl.ErrToken)
	wantAcceptCode(t, "a late view from elsewhere", "key", c, someOf(3, 6, 5, 4, motleyRows(5, 4, 1), 1), modelToken("key", 1, "main", 6), impl.ErrLate)
	wantAcceptCode(t, "a view from elsewhere of another size", "key", c, someOf(6, 9, 5, 4, motleyRows(5, 4, 1), 1), token, impl.ErrView)
}

func TestEveryViewToEveryClient(t *testing.T) {
	codes := map[int]int{}
	for _, c := range someClients("key") {
		for _, v := range someViews() {
			_, code := wantClientAccepted(t, "key", c, v, modelToken("key", c.Id, c.Window, v.Number))
			codes[code]++
		}
	}
	for _, code := range []int{impl.OK, impl.ErrLate, impl.ErrView} {
		if codes[code] < 50 {
			t.Error("told too seldom:", impl.CodeWord(code), codes[code])
		}
	}
}

// told is a view with its token, on its way to a client.
type told struct {
	v     impl.View
	token string
}

// guest is a client that polls nodes, beside all that it was told.
type guest struct {
	t     *testing.T
	w, h  int
	list  []string
	c     impl.Client
	told  []told
	codes map[string]int
}

func newGuest(t *testing.T, w, h int, list []string, id int, window string) *guest {
	t.Helper()
	c, code := impl.NewClient("key", id, window)
	if code != impl.OK {
		t.Fatal("NewClient", code)
	}
	return &guest{t: t, w: w, h: h, list: list, c: c, codes: map[string]int{}}
}

// poll asks a node, and takes what it shows.
func (g *guest) poll(n impl.Node) {
	g.t.Helper()
	v, token, code := wantServed(g.t, "key", g.w, g.h, n, g.c.Token)
	g.codes["serve "+impl.CodeWord(code)]++
	if code != impl.OK {
		return
	}
	g.told = append(g.told, told{v, token})
	if code := g.accept(told{v, token}); code != impl.OK {
		g.t.Fatalf("%s does not take %s: %d", clientShown(g.c), viewShown(v), code)
	}
	if v.Full {
		g.codes["full"]++
	}
}

// accept takes what some node told, and asks that the mirror shows just what the window showed behind its Number of commands, and does not go back.
func (g *guest) accept(what told) int {
	g.t.Helper()
	was := g.c
	next, code := wantClientAccepted(g.t, "key", was, what.v, what.token)
	g.codes["accept "+impl.CodeWord(code)]++
	if g.c = next; code != impl.OK && !sameClients(next, was) {
		g.t.Fatalf("with %d the client is %s, not %s", code, clientShown(next), clientShown(was))
	}
	if next.Mirror.Number < was.Mirror.Number || code == impl.OK && next.Mirror.Number == was.Mirror.Number {
		g.t.Fatalf("the Number goes from %d to %d", was.Mirror.Number, next.Mirror.Number)
	}
	g.wantShown()
	return code
}

func (g *guest) wantShown() {
	g.t.Helper()
	m := g.c.Mirror
	if !impl.ClientOK("key", g.c) || g.c.Token != modelToken("key", g.c.Id, g.c.Window, m.Number) {
		g.t.Fatal("not right:", clientShown(g.c))
	}
	if m.Number < 0 {
		return
	}
	mux, rows := modelPicture(g.w, g.h, g.list[:m.Number], g.c.Window)
	if rows == nil || !sameMirrors(m, mirrorOf(m.Number, mux.W, mux.H, rows)) {
		g.t.Fatalf("behind %d commands the mirror is %s, not %dx%d %q", m.Number, mirrorShown(m), mux.W, mux.H, modelRowTexts(rows))
	}
}

// wantKinds asks that each was told so often.
func wantKinds(t *testing.T, codes map[string]int, least int, kinds ...string) {
	t.Helper()
	for _, kind := range kinds {
		if codes[kind] < least {
			t.Errorf("told too seldom: %s, %d times", kind, codes[kind])
		}
	}
}

// drawnNode is one of a cluster that knows the first so many to be committed.
func drawnNode(draw *rand.Rand, list []string, commit int) impl.Node {
	n := committedNode(list, commit)
	n.Id, n.Role = draw.Intn(3), draw.Intn(3)
	if draw.Intn(20) == 0 {
		return downNode(n)
	}
	if draw.Intn(2) == 0 {
		n.Log = n.Log[:commit]
	}
	return n
}

func TestClientsThatPollNodesThatKnowMoreAndLess(t *testing.T) {
	t.Parallel()
	codes := map[string]int{}
	for seed := range int64(30) {
		draw := rand.New(rand.NewSource(seed))
		lists := drawnLists(t, 130+seed, 1)
		list := lists[len(lists)-1]
		known := slices.DeleteFunc(slices.Clone(list), func(data string) bool { return data == "" })
		var guests []*guest
		for id, window := range []string{"a", "b", "c", "main", "d"} {
			g := newGuest(t, 20, 8, known, id*50, window)
			g.codes = codes
			guests = append(guests, g)
		}
		for commit := 0; commit <= len(list); commit += draw.Intn(4) {
			for _, g := range guests {
				// Mostly of a node that knows more than the last one, now and then of one that knows less.
				at := commit
				if draw.Intn(3) == 0 {
					at = draw.Intn(commit + 1)
				}
				g.poll(drawnNode(draw, list, at))
				if len(g.told) > 0 && draw.Intn(4) == 0 {
					g.accept(g.told[draw.Intn(len(g.told))])
				}
				if other := guests[draw.Intn(len(guests))]; other != g && len(other.told) > 0 && draw.Intn(8) == 0 {
					g.accept(other.told[len(other.told)-1])
				}
			}
		}
	}
	wantKinds(t, codes, 50, "serve ok", "serve again", "serve late", "serve none", "serve down", "full", "accept ok", "accept late", "accept token")
}

// lastingData are commands, drawn one by one, behind which there is always a window main.
func lastingData(draw *rand.Rand, n int) []string {
	m := muxModelOf(emptyMux(20, 8))
	c := at(1, windowCommand("main"))
	var list []string
	for len(list) < n {
		m.come(c)
		list = append(list, dataIn(c)...)
		c = drawnCommand(draw, m.mux())
		for c.Kind == impl.MxRename || c.Kind == impl.MxKill && len(modelPanes(m.layouts["main"])) == 1 {
			c = drawnCommand(draw, m.mux())
		}
	}
	return list
}

// A view that comes behind a later one, or that the one ahead of did not come, leaves the client as it was; a poll leads it on all the same.
func TestViewsThatComeOutOfOrderOrNever(t *testing.T) {
	t.Parallel()
	codes := map[string]int{}
	for seed := range int64(8) {
		draw := rand.New(rand.NewSource(1000 + seed))
		list := lastingData(draw, 60)
		g := newGuest(t, 20, 8, list, 7, "main")
		g.codes = codes
		// what nodes tell clients of one number or the other
		var all []told
		for number := -1; number < len(list); number += 1 + draw.Intn(3) {
			for count := max(number+1, 1); count <= min(number+12, len(list)); count += 1 + draw.Intn(3) {
				v, token, _ := wantServed(t, "key", 20, 8, nodeKnowing(list, count), modelToken("key", 7, "main", number))
				all = append(all, told{v, token})
			}
		}
		for g.c.Mirror.Number < len(list) {
			near := min(g.c.Mirror.Number+1+draw.Intn(3), len(list))
			if draw.Intn(4) == 0 {
				g.poll(nodeKnowing(list, near))
			}
			g.accept(all[draw.Intn(len(all))])
			for _, other := range all {
				if other.v.Number == near && draw.Intn(6) == 0 {
					g.accept(other)
				}
			}
		}
	}
	wantKinds(t, codes, 20, "accept ok", "accept late", "accept view")
}

// Clients of a cluster that crashes and breaks are shown by its nodes just what the first so many of what is done make.
func TestClientsOfTheNodesOfACluster(t *testing.T) {
	r := newRack(t, 3)
	r.stand(0)
	codes := map[string]int{}
	guests := []*guest{newGuest(t, 20, 8, nil, 0, "main"), newGuest(t, 20, 8, nil, 1, "logs"), newGuest(t, 20, 8, nil, 2, "log")}
	visit := func() {
		done, _ := impl.LongestDone(r.c)
		for i, g := range guests {
			g.list, g.codes = done, codes
			g.poll(r.c.Nodes[(len(r.acts)+i)%3])
		}
	}
	for i, data := range story() {
		if data == "" {
			continue
		}
		if i%7 == 5 {
			r.act(crashAct(r.leader()))
			visit()
		}
		leader := r.elect()
		r.act(proposeAct(leader, data))
		for range 8 {
			if len(r.c.Wire) > 0 {
				r.act(giveAct(0))
			}
			visit()
		}
		r.settle()
		for range 2 {
			r.act(tickAct(leader, 0))
		}
		visit()
		r.settle()
		visit()
	}
	for _, g := range guests {
		if g.c.Mirror.Number < 0 {
			t.Error("never shown anything:", clientShown(g.c))
		}
	}
	wantKinds(t, codes, 5, "serve ok", "serve again", "serve late", "serve none", "full", "accept ok")
}

// What is written into an answer changes no argument; what is written into an argument later changes no answer.
func TestAnswersOfClientsAreTheirOwn(t *testing.T) {
	base, v, token := acceptBase()
	rows := motleyRows(4, 3, 1)
	for _, c := range []struct {
		v     impl.View
		token string
		code  int
	}{
		{v, token, impl.OK}, {fullOf(9, 4, 3, rows), token, impl.OK}, {someOf(7, 9, 4, 3, nil), token, impl.OK}, {fullOf(9, 5, 4, motleyRows(5, 4, 1)), token, impl.OK},
		{v, "", impl.ErrToken}, {fullOf(7, 4, 3, rows), base.Token, impl.ErrLate}, {someOf(6, 9, 4, 3, rows, 1), token, impl.ErrView},
	} {
		client, view := cloneClient(base), cloneView(c.v)
		got, code := impl.ClientAccept("key", client, view, c.token)
		kept := cloneClient(got)
		if spoiltMirror(got.Mirror); code != c.code || !sameClients(client, base) || !sameViews(view, c.v) {
			t.Errorf("ClientAccept of %s shares memory with its arguments, %d", viewShown(c.v), code)
		}
		got, _ = impl.ClientAccept("key", client, view, c.token)
		spoiltMirror(client.Mirror)
		if spoiltView(view); !sameClients(got, kept) {
			t.Errorf("ClientAccept of %s keeps its arguments", viewShown(c.v))
		}
	}
	for number := -1; number < 6; number++ {
		n := nodeKnowing(saga(), 6)
		was := cloneNode(n)
		token := modelToken("key", 1, "main", number)
		got, _, _ := impl.ServeView("key", 20, 8, n, token)
		kept := cloneView(got)
		if spoiltView(got); !sameNodes(n, was) {
			t.Error("ServeView shares memory with its node")
		}
		got, _, _ = impl.ServeView("key", 20, 8, n, token)
		for i := range n.Log {
			n.Log[i] = impl.Entry{Term: 1, Data: "spoilt"}
		}
		if !sameViews(got, kept) {
			t.Error("ServeView keeps its node")
		}
	}
}
