package tests

import (
	"bytes"
	"cmp"
	"encoding/binary"
	"fmt"
	"maps"
	"math"
	"math/rand"
	"reflect"
	"regexp"
	"slices"
	"strings"
	"testing"

	"loop.example/g00308/impl"
)

func samePane(a, b impl.Pane) bool {
	return a.Id == b.Id && a.Owner == b.Owner && a.Epoch == b.Epoch && sameScreens(a.Screen, b.Screen) && sameParser(a.Parser, b.Parser)
}

func sameWindow(a, b impl.Window) bool { return a.Name == b.Name && sameLayout(a.Layout, b.Layout) }

// sameButSeens holds two multiplexers against each other part by part, whether they are right or not.
func sameButSeens(a, b impl.Mux) bool {
	return a.W == b.W && a.H == b.H && a.Next == b.Next && slices.EqualFunc(a.Windows, b.Windows, sameWindow) && slices.EqualFunc(a.Panes, b.Panes, samePane)
}

func sameMuxes(a, b impl.Mux) bool { return sameButSeens(a, b) && slices.Equal(a.Seens, b.Seens) }

func clonePane(p impl.Pane) impl.Pane {
	p.Screen, p.Parser.Args = cloneScreen(p.Screen), slices.Clone(p.Parser.Args)
	return p
}

func cloneMux(m impl.Mux) impl.Mux {
	m.Windows, m.Panes, m.Seens = slices.Clone(m.Windows), slices.Clone(m.Panes), slices.Clone(m.Seens)
	for i := range m.Windows {
		m.Windows[i].Layout = cloneLayout(m.Windows[i].Layout)
	}
	for i := range m.Panes {
		m.Panes[i] = clonePane(m.Panes[i])
	}
	return m
}

func muxShown(m impl.Mux) string {
	text := fmt.Sprintf("%dx%d next %d", m.W, m.H, m.Next)
	for _, window := range m.Windows {
		text += fmt.Sprintf(" %.20q %.300s", window.Name, fmt.Sprintf("%+v", window.Layout.Parts))
	}
	for _, p := range m.Panes {
		text += fmt.Sprintf("\n pane %d of %d, epoch %d: %s %.100s", p.Id, p.Owner, p.Epoch, screenShown(p.Screen), fmt.Sprintf("%+v", p.Parser))
	}
	return text + fmt.Sprintf("\n seens %v", m.Seens)
}

func layoutTexts(m impl.Mux) string {
	text := ""
	for _, window := range m.Windows {
		text += window.Name + modelLayoutText(window.Layout) + " "
	}
	return strings.TrimSuffix(text, " ")
}

// muxOf has a window of each layout, named a, b and c; its panes differ in all that a pane has, their Owners are 0 to 2, their Epochs their Ids.
func muxOf(t *testing.T, w, h int, texts ...string) impl.Mux {
	t.Helper()
	m := impl.Mux{W: w, H: h, Next: 1}
	parsers := someParsers()
	for i, text := range texts {
		l := layoutOf(text)
		m.Windows = append(m.Windows, impl.Window{Name: "abc"[i : i+1], Layout: l})
		for _, area := range modelAreas(l, w, h) {
			p := impl.Pane{Id: area.Pane, Owner: area.Pane % 3, Epoch: area.Pane, Screen: motleyScreen(t, area.W, area.H)}
			p.Screen.Title, p.Screen.Cells[0].Rune, p.Screen.Cells[len(p.Screen.Cells)-1].Rune = fmt.Sprint("pane ", p.Id), 'A'+p.Id%26, 'a'+p.Id%26
			p.Screen.X, p.Screen.Y = p.Id%(area.W+1), p.Id%area.H
			p.Parser = parsers[p.Id*7%len(parsers)]
			m.Panes = append(m.Panes, p)
			m.Next = max(m.Next, min(p.Id+1, 1000))
		}
	}
	slices.SortFunc(m.Panes, func(a, b impl.Pane) int { return a.Id - b.Id })
	if !modelMuxOK(m) || !impl.MuxOK(m) {
		t.Fatal("not right:", muxShown(m))
	}
	return m
}

// seenBy has a Seen of each client, of Seq 10 and a reply that no other has.
func seenBy(m impl.Mux, clients ...int) impl.Mux {
	m.Seens = nil
	for _, client := range clients {
		m.Seens = append(m.Seens, impl.Seen{Client: client, Seq: 10, Reply: impl.Reply{Code: client % 20, Number: 100 + client}})
	}
	return m
}

// muxModel keeps windows and panes by their names and numbers, and does the chapter's words with the models of layouts, screens and parsers.
type muxModel struct {
	w, h, next int
	names      []string
	layouts    map[string]impl.Layout
	panes      map[int]impl.Pane
	seens      map[int]impl.Seen
}

func muxModelOf(m impl.Mux) *muxModel {
	out := &muxModel{m.W, m.H, m.Next, nil, map[string]impl.Layout{}, map[int]impl.Pane{}, map[int]impl.Seen{}}
	m = cloneMux(m)
	for _, window := range m.Windows {
		out.names = append(out.names, window.Name)
		out.layouts[window.Name] = window.Layout
	}
	for _, p := range m.Panes {
		out.panes[p.Id] = p
	}
	for _, seen := range m.Seens {
		out.seens[seen.Client] = seen
	}
	return out
}

func (m *muxModel) mux() impl.Mux {
	out := impl.Mux{W: m.w, H: m.h, Next: m.next}
	for _, name := range m.names {
		out.Windows = append(out.Windows, impl.Window{Name: name, Layout: m.layouts[name]})
	}
	for _, id := range slices.Sorted(maps.Keys(m.panes)) {
		out.Panes = append(out.Panes, m.panes[id])
	}
	for _, client := range slices.Sorted(maps.Keys(m.seens)) {
		out.Seens = append(out.Seens, m.seens[client])
	}
	return out
}

// home is the name of the pane's window.
func (m *muxModel) home(pane int) string {
	for name, l := range m.layouts {
		if modelIndex(l, pane) >= 0 {
			return name
		}
	}
	return ""
}

func (m *muxModel) come(c impl.Command) impl.Reply {
	seen, known := m.seens[c.Client]
	if known && c.Seq == seen.Seq {
		return seen.Reply
	}
	if known && c.Seq < seen.Seq {
		return impl.Reply{Code: impl.ErrLate}
	}
	if !known && len(m.seens) >= 4 {
		return impl.Reply{Code: impl.ErrFull}
	}
	reply := m.do(c)
	m.seens[c.Client] = impl.Seen{Client: c.Client, Seq: c.Seq, Reply: reply}
	return reply
}

func (m *muxModel) do(c impl.Command) impl.Reply {
	if (c.Kind == impl.MxWindow || c.Kind == impl.MxSplit) && m.next == 1000 {
		return impl.Reply{Code: impl.ErrMany}
	}
	if _, here := m.panes[c.Pane]; !here && c.Kind >= impl.MxSplit && c.Kind <= impl.MxOwn {
		return impl.Reply{Code: impl.ErrNone}
	}
	name := m.home(c.Pane)
	l, code := m.layouts[name], 0
	switch c.Kind {
	case impl.MxWindow:
		return m.open(c)
	case impl.MxSplit:
		if l, code = modelSplit(l, m.w, m.h, c.Pane, m.next, c.Rows); code == impl.OK {
			return m.lay(name, l, m.fresh(c.Client))
		}
	case impl.MxKill:
		delete(m.panes, c.Pane)
		if l, code = modelKill(l, m.w, m.h, c.Pane); code == impl.OK {
			return m.lay(name, l, 0)
		}
		delete(m.layouts, name)
		m.names = slices.DeleteFunc(m.names, func(n string) bool { return n == name })
		code = impl.OK
	case impl.MxMove:
		if l, code = modelMove(l, m.w, m.h, c.Pane, c.N); code == impl.OK {
			return m.lay(name, l, 0)
		}
	case impl.MxOutput, impl.MxOwn:
		return m.toPane(c, m.panes[c.Pane])
	case impl.MxResize:
		return m.resize(c)
	case impl.MxRename:
		return m.rename(c)
	}
	return impl.Reply{Code: code}
}

// fresh is a pane without a screen: lay gives it one.
func (m *muxModel) fresh(owner int) int {
	m.panes[m.next] = impl.Pane{Id: m.next, Owner: owner, Epoch: 1}
	m.next++
	return m.next - 1
}

func (m *muxModel) lay(name string, l impl.Layout, number int) impl.Reply {
	m.layouts[name] = l
	for _, area := range modelAreas(l, m.w, m.h) {
		p := m.panes[area.Pane]
		if p.Screen.W == 0 {
			p.Screen = impl.Screen{W: area.W, H: area.H, Bottom: area.H - 1, Cells: blankRow(area.W * area.H)}
		}
		if p.Screen.W != area.W || p.Screen.H != area.H {
			p.Screen = modelResize(p.Screen, area.W, area.H)
		}
		m.panes[area.Pane] = p
	}
	return impl.Reply{Number: number}
}

func (m *muxModel) open(c impl.Command) impl.Reply {
	if slices.Contains(m.names, c.Name) {
		return impl.Reply{Code: impl.ErrTwice}
	}
	if len(m.names) == 3 {
		return impl.Reply{Code: impl.ErrFull}
	}
	m.names = append(m.names, c.Name)
	return m.lay(c.Name, impl.Layout{Parts: []impl.Part{partOf(m.next)}}, m.fresh(c.Client))
}

func (m *muxModel) toPane(c impl.Command, p impl.Pane) impl.Reply {
	number := 0
	if c.Kind == impl.MxOutput {
		if c.Client != p.Owner || c.Epoch != p.Epoch {
			return impl.Reply{Code: impl.ErrStale}
		}
		parser, told := modelBytes(p.Parser, []byte(c.Data))
		p.Screen, p.Parser = modelApply(p.Screen, told...), parser
	} else {
		if p.Epoch == 60000 {
			return impl.Reply{Code: impl.ErrMany}
		}
		p.Owner, p.Epoch = c.N, p.Epoch+1
		number = p.Epoch
	}
	m.panes[c.Pane] = p
	return impl.Reply{Number: number}
}

func (m *muxModel) resize(c impl.Command) impl.Reply {
	for _, l := range m.layouts {
		if !modelFits(l, c.N, c.Epoch) {
			return impl.Reply{Code: impl.ErrSmall}
		}
	}
	m.w, m.h = c.N, c.Epoch
	for _, name := range m.names {
		m.lay(name, modelFit(m.layouts[name], m.w, m.h), 0)
	}
	return impl.Reply{}
}

func (m *muxModel) rename(c impl.Command) impl.Reply {
	i := slices.Index(m.names, c.Name)
	if i < 0 {
		return impl.Reply{Code: impl.ErrNone}
	}
	if slices.Contains(m.names, c.Data) {
		return impl.Reply{Code: impl.ErrTwice}
	}
	m.names[i] = c.Data
	m.layouts[c.Data] = m.layouts[c.Name]
	delete(m.layouts, c.Name)
	return impl.Reply{}
}

func inBounds(n, least, most int) bool { return n >= least && n <= most }

var windowNames = regexp.MustCompile(`^[A-Za-z_][A-Za-z_0-9]{0,11}$`)

func modelWindowName(name string) bool { return windowNames.MatchString(name) }

// modelMuxOK asks the chapter's rules one by one.
func modelMuxOK(m impl.Mux) bool {
	if !modelScreenSize(m.W, m.H) || !inBounds(m.Next, 1, 1000) || len(m.Windows) > 3 || len(m.Seens) > 4 {
		return false
	}
	names, areas := map[string]bool{}, map[int]impl.Area{}
	for _, window := range m.Windows {
		if names[window.Name] || !modelWindowName(window.Name) || !modelLayoutOK(window.Layout, m.W, m.H) {
			return false
		}
		names[window.Name] = true
		for _, area := range modelAreas(window.Layout, m.W, m.H) {
			if _, twice := areas[area.Pane]; twice {
				return false
			}
			areas[area.Pane] = area
		}
	}
	if len(areas) != len(m.Panes) {
		return false
	}
	for i, p := range m.Panes {
		area, here := areas[p.Id]
		if !here || p.Id >= m.Next || i > 0 && p.Id <= m.Panes[i-1].Id || p.Screen.W != area.W || p.Screen.H != area.H {
			return false
		}
		if !inBounds(p.Owner, 0, 200) || !inBounds(p.Epoch, 1, 60000) || !modelScreenOK(p.Screen) || !impl.ParserOK(p.Parser) {
			return false
		}
	}
	for i, seen := range m.Seens {
		if i > 0 && seen.Client <= m.Seens[i-1].Client || !inBounds(seen.Client, 0, 200) || !inBounds(seen.Seq, 1, 60000) || !inBounds(seen.Reply.Code, 0, 19) || !inBounds(seen.Reply.Number, 0, 60000) {
			return false
		}
	}
	return true
}

// modelCommandOK names of each kind what it must not have, and the bounds of what it has.
func modelCommandOK(c impl.Command) bool {
	if !inBounds(c.Client, 0, 200) || !inBounds(c.Seq, 1, 60000) {
		return false
	}
	noPane, noN, noEpoch, noName, noData := c.Pane == 0, c.N == 0, c.Epoch == 0, c.Name == "", c.Data == ""
	pane := inBounds(c.Pane, 1, 1000)
	switch c.Kind {
	case 1:
		return noPane && noN && noEpoch && !c.Rows && noData && modelWindowName(c.Name)
	case 2:
		return pane && noN && noEpoch && noName && noData
	case 3:
		return pane && noN && noEpoch && !c.Rows && noName && noData
	case 4:
		return pane && inBounds(c.N, -100, 100) && noEpoch && !c.Rows && noName && noData
	case 5:
		return pane && noN && inBounds(c.Epoch, 1, 60000) && !c.Rows && noName && inBounds(len(c.Data), 1, 200)
	case 6:
		return pane && inBounds(c.N, 0, 200) && noEpoch && !c.Rows && noName && noData
	case 7:
		return noPane && inBounds(c.N, 2, 24) && inBounds(c.Epoch, 2, 10) && !c.Rows && noName && noData
	case 8:
		return noPane && noN && noEpoch && !c.Rows && modelWindowName(c.Name) && modelWindowName(c.Data)
	}
	return false
}

func modelNumbers(list ...int) string {
	text := ""
	for _, n := range list {
		text += string(binary.BigEndian.AppendUint32(nil, uint32(n+1))[1:])
	}
	return text
}

func oneIf(b bool) int {
	if b {
		return 1
	}
	return 0
}

func modelCommandBytes(c impl.Command) []byte {
	return fieldsOf([]string{modelNumbers(c.Kind, c.Client, c.Seq, c.Pane, c.N+1000, c.Epoch, oneIf(c.Rows)), c.Name, c.Data})
}

func modelPaneField(p impl.Pane) string {
	parser := fieldsOf([]string{modelNumbers(p.Parser.State, oneIf(p.Parser.Private)), modelNumbers(p.Parser.Args...), p.Parser.Text, p.Parser.Utf})
	return string(fieldsOf([]string{modelNumbers(p.Id, p.Owner, p.Epoch), string(modelScreenBytes(p.Screen)), string(parser)}))
}

func modelWindowField(window impl.Window) string {
	field := window.Name + " "
	for _, part := range window.Layout.Parts {
		field += modelNumbers(part.Pane, oneIf(part.Rows), part.Size, part.Left, part.Right)
	}
	return field
}

func modelMuxFields(m impl.Mux) []string {
	fields := []string{modelNumbers(m.W, m.H, m.Next, len(m.Windows), len(m.Panes), len(m.Seens))}
	for _, window := range m.Windows {
		fields = append(fields, modelWindowField(window))
	}
	for _, p := range m.Panes {
		fields = append(fields, modelPaneField(p))
	}
	last := ""
	for _, seen := range m.Seens {
		last += modelNumbers(seen.Client, seen.Seq, seen.Reply.Code, seen.Reply.Number)
	}
	return append(fields, last)
}

func modelMuxBytes(m impl.Mux) []byte { return fieldsOf(modelMuxFields(m)) }

// wantCommand holds what a command does against the model, and tells what is behind it.
func wantCommand(t *testing.T, m impl.Mux, c impl.Command) (impl.Mux, impl.Reply) {
	t.Helper()
	if !modelCommandOK(c) {
		t.Fatalf("not right: %+v", c)
	}
	was := cloneMux(m)
	model := muxModelOf(m)
	wantReply := model.come(c)
	want := model.mux()
	got, reply, code := impl.ApplyCommand(m, c)
	if code != impl.OK || reply != wantReply || !sameMuxes(got, want) {
		t.Fatalf("%+v on %s\nanswers %+v, %d and %s\nnot %+v and %s", c, muxShown(m), reply, code, muxShown(got), wantReply, muxShown(want))
	}
	if !impl.MuxOK(got) || !modelMuxOK(got) {
		t.Fatalf("%+v on %s is not right: %s", c, muxShown(m), muxShown(got))
	}
	if reply.Code != impl.OK && !sameButSeens(got, m) {
		t.Fatalf("%+v fails with %d, and changes %s", c, reply.Code, muxShown(m))
	}
	if !sameMuxes(m, was) {
		t.Fatalf("%+v changes its argument %s", c, muxShown(was))
	}
	return got, reply
}

// desk is a multiplexer that commands come to, each of the next Seq of all.
type desk struct {
	t   *testing.T
	m   impl.Mux
	seq int
}

func newDesk(t *testing.T, w, h int) *desk {
	t.Helper()
	m, code := impl.NewMux(w, h)
	if code != impl.OK {
		t.Fatal("NewMux", code)
	}
	return &desk{t: t, m: m}
}

func (d *desk) do(c impl.Command, wantCode, wantNumber int) {
	d.t.Helper()
	d.seq++
	c.Seq = d.seq
	m, reply := wantCommand(d.t, d.m, c)
	if reply != (impl.Reply{Code: wantCode, Number: wantNumber}) {
		d.t.Fatalf("%+v answers %+v, not %d, %d", c, reply, wantCode, wantNumber)
	}
	d.m = m
}

func (d *desk) shows(want string) {
	d.t.Helper()
	if got := layoutTexts(d.m); got != want {
		d.t.Errorf("the windows are %q, not %q", got, want)
	}
}

func (d *desk) pane(id int) impl.Pane {
	d.t.Helper()
	p, code := impl.PaneAt(d.m, id)
	if code != impl.OK {
		d.t.Fatal("PaneAt", id, code)
	}
	return p
}

func windowCommand(name string) impl.Command { return impl.Command{Kind: impl.MxWindow, Name: name} }

func splitCommand(pane int, rows bool) impl.Command {
	return impl.Command{Kind: impl.MxSplit, Pane: pane, Rows: rows}
}

func killCommand(pane int) impl.Command { return impl.Command{Kind: impl.MxKill, Pane: pane} }

func moveCommand(pane, n int) impl.Command {
	return impl.Command{Kind: impl.MxMove, Pane: pane, N: n}
}

func outputCommand(pane, epoch int, data string) impl.Command {
	return impl.Command{Kind: impl.MxOutput, Pane: pane, Epoch: epoch, Data: data}
}

func ownCommand(pane, n int) impl.Command { return impl.Command{Kind: impl.MxOwn, Pane: pane, N: n} }

func resizeCommand(w, h int) impl.Command {
	return impl.Command{Kind: impl.MxResize, N: w, Epoch: h}
}

func renameCommand(name, data string) impl.Command {
	return impl.Command{Kind: impl.MxRename, Name: name, Data: data}
}

func from(client int, c impl.Command) impl.Command {
	c.Client = client
	return c
}

func at(seq int, c impl.Command) impl.Command {
	c.Seq = seq
	return c
}

func TestMuxConstants(t *testing.T) {
	got := []int{impl.MaxWindows, impl.MaxClients, impl.MaxOutput, impl.MxWindow, impl.MxSplit, impl.MxKill, impl.MxMove, impl.MxOutput, impl.MxOwn, impl.MxResize, impl.MxRename}
	if !slices.Equal(got, []int{3, 4, 200, 1, 2, 3, 4, 5, 6, 7, 8}) {
		t.Error(got)
	}
}

func TestNewMuxOfEverySize(t *testing.T) {
	sides := []int{math.MinInt, -24, 1<<32 + 5, math.MaxInt}
	for n := -2; n < 30; n++ {
		sides = append(sides, n)
	}
	for _, w := range sides {
		for _, h := range sides {
			m, code := impl.NewMux(w, h)
			want, wantCode := impl.Mux{W: w, H: h, Next: 1}, impl.OK
			if !modelScreenSize(w, h) {
				want, wantCode = impl.Mux{}, impl.ErrRange
			}
			if code != wantCode || !sameMuxes(m, want) || impl.MuxOK(m) != (code == impl.OK) {
				t.Errorf("NewMux(%d, %d) = %s, %d", w, h, muxShown(m), code)
			}
		}
	}
}

func TestWindowsOpened(t *testing.T) {
	d := newDesk(t, 20, 8)
	for i, name := range []string{"main", "_12345678901", "X"} {
		d.do(from(i, windowCommand(name)), impl.OK, i+1)
		p := d.pane(i + 1)
		want := impl.Pane{Id: i + 1, Owner: i, Epoch: 1, Screen: impl.Screen{W: 20, H: 8, Bottom: 7, Cells: blankRow(160)}}
		if !samePane(p, want) || d.m.Next != i+2 || len(d.m.Windows) != i+1 || d.m.Windows[i].Name != name {
			t.Errorf("window %s: %s", name, muxShown(d.m))
		}
	}
	d.shows("main1 _123456789012 X3")
	d.do(windowCommand("main"), impl.ErrTwice, 0)
	d.do(windowCommand("X"), impl.ErrTwice, 0)
	d.do(windowCommand("other"), impl.ErrFull, 0)
	d.do(killCommand(2), impl.OK, 0)
	d.do(windowCommand("other"), impl.OK, 4)
	d.shows("main1 X3 other4")
}

func TestPanesSplit(t *testing.T) {
	d := newDesk(t, 20, 8)
	d.do(from(7, windowCommand("main")), impl.OK, 1)
	d.do(splitCommand(1, false), impl.OK, 2)
	d.shows("main(1|10|2)")
	d.do(from(9, splitCommand(2, true)), impl.OK, 3)
	d.shows("main(1|10|(2-4-3))")
	d.do(splitCommand(1, true), impl.OK, 4)
	d.shows("main((1-4-4)|10|(2-4-3))")
	d.do(splitCommand(4, false), impl.OK, 5)
	d.do(splitCommand(3, false), impl.OK, 6)
	d.shows("main((1-4-(4|5|5))|10|(2-4-(3|5|6)))")
	for i, owner := range []int{7, 0, 9, 0, 0, 0} {
		if p := d.pane(i + 1); p.Owner != owner || p.Epoch != 1 || p.Parser.State != impl.PsGround {
			t.Errorf("pane %d is of %d, epoch %d", p.Id, p.Owner, p.Epoch)
		}
	}
	d.do(splitCommand(1, false), impl.ErrFull, 0)
	d.do(killCommand(6), impl.OK, 0)
	d.do(splitCommand(5, true), impl.OK, 7)
	d.do(killCommand(7), impl.OK, 0)
	d.do(splitCommand(5, false), impl.OK, 8)
	d.do(killCommand(8), impl.OK, 0)
	d.do(resizeCommand(15, 8), impl.OK, 0)
	d.shows("main((1-4-(4|5|5))|10|(2-4-3))")
	d.do(resizeCommand(13, 5), impl.OK, 0)
	d.shows("main((1-3-(4|5|5))|10|(2-3-3))")
	d.do(splitCommand(2, false), impl.ErrSmall, 0)
	d.do(splitCommand(2, true), impl.ErrSmall, 0)
	d.do(splitCommand(7, true), impl.ErrNone, 0)
	d.do(splitCommand(9, true), impl.ErrNone, 0)
	d.do(splitCommand(4, false), impl.OK, 9)
	if d.m.Next != 10 {
		t.Error("Next is", d.m.Next)
	}
}

func TestPanesKilled(t *testing.T) {
	d := newDesk(t, 20, 8)
	d.do(windowCommand("a"), impl.OK, 1)
	d.do(windowCommand("b"), impl.OK, 2)
	d.do(windowCommand("c"), impl.OK, 3)
	d.do(splitCommand(2, false), impl.OK, 4)
	d.do(splitCommand(2, true), impl.OK, 5)
	d.shows("a1 b((2-4-5)|10|4) c3")
	d.do(killCommand(4), impl.OK, 0)
	d.shows("a1 b(2-4-5) c3")
	d.do(killCommand(4), impl.ErrNone, 0)
	d.do(killCommand(2), impl.OK, 0)
	d.shows("a1 b5 c3")
	d.do(killCommand(5), impl.OK, 0)
	d.shows("a1 c3")
	d.do(killCommand(1), impl.OK, 0)
	d.shows("c3")
	d.do(killCommand(1000), impl.ErrNone, 0)
	d.do(killCommand(3), impl.OK, 0)
	if len(d.m.Windows) != 0 || len(d.m.Panes) != 0 || d.m.Next != 6 {
		t.Error("behind the last one:", muxShown(d.m))
	}
	d.do(killCommand(3), impl.ErrNone, 0)
	d.do(windowCommand("a"), impl.OK, 6)
}

func TestSplitsMoved(t *testing.T) {
	d := newDesk(t, 20, 8)
	d.do(windowCommand("a"), impl.OK, 1)
	d.do(moveCommand(1, 1), impl.ErrLast, 0)
	d.do(splitCommand(1, false), impl.OK, 2)
	d.do(splitCommand(2, true), impl.OK, 3)
	d.do(windowCommand("b"), impl.OK, 4)
	d.do(moveCommand(1, 3), impl.OK, 0)
	d.shows("a(1|13|(2-4-3)) b4")
	d.do(moveCommand(3, -1), impl.OK, 0)
	d.shows("a(1|13|(2-3-3)) b4")
	d.do(moveCommand(1, 100), impl.OK, 0)
	d.shows("a(1|18|(2-3-3)) b4")
	d.do(moveCommand(1, -100), impl.OK, 0)
	d.shows("a(1|2|(2-3-3)) b4")
	d.do(moveCommand(2, 0), impl.OK, 0)
	d.do(moveCommand(5, 1), impl.ErrNone, 0)
	d.do(moveCommand(4, 1), impl.ErrLast, 0)
	d.shows("a(1|2|(2-3-3)) b4")
	for id, size := range map[int][2]int{1: {2, 8}, 2: {18, 3}, 3: {18, 5}, 4: {20, 8}} {
		if p := d.pane(id); p.Screen.W != size[0] || p.Screen.H != size[1] {
			t.Errorf("pane %d is %d by %d, not %v", id, p.Screen.W, p.Screen.H, size)
		}
	}
}

func TestOwnersAndEpochs(t *testing.T) {
	d := newDesk(t, 20, 8)
	d.do(from(5, windowCommand("a")), impl.OK, 1)
	d.do(from(5, outputCommand(1, 1, "five")), impl.OK, 0)
	d.do(from(6, outputCommand(1, 1, "no")), impl.ErrStale, 0)
	d.do(from(5, outputCommand(1, 2, "no")), impl.ErrStale, 0)
	d.do(from(6, ownCommand(1, 7)), impl.OK, 2)
	d.do(from(5, outputCommand(1, 1, "no")), impl.ErrStale, 0)
	d.do(from(7, outputCommand(1, 1, "no")), impl.ErrStale, 0)
	d.do(from(7, outputCommand(1, 3, "no")), impl.ErrStale, 0)
	d.do(from(7, outputCommand(1, 2, " seven")), impl.OK, 0)
	d.do(from(7, ownCommand(1, 7)), impl.OK, 3)
	d.do(from(7, outputCommand(1, 2, "no")), impl.ErrStale, 0)
	d.do(from(7, outputCommand(1, 3, "!")), impl.OK, 0)
	d.do(ownCommand(1, 0), impl.OK, 4)
	d.do(ownCommand(1, 200), impl.OK, 5)
	d.do(ownCommand(2, 0), impl.ErrNone, 0)
	d.do(outputCommand(2, 1, "no"), impl.ErrNone, 0)
	p := d.pane(1)
	if text, _ := impl.RowText(p.Screen, 0); p.Owner != 200 || p.Epoch != 5 || text != "five seven!" {
		t.Errorf("pane of %d, epoch %d: %q", p.Owner, p.Epoch, text)
	}
}

func TestWindowsResized(t *testing.T) {
	d := newDesk(t, 20, 8)
	d.do(resizeCommand(2, 2), impl.OK, 0)
	d.do(resizeCommand(20, 8), impl.OK, 0)
	d.do(windowCommand("a"), impl.OK, 1)
	d.do(windowCommand("b"), impl.OK, 2)
	d.do(windowCommand("c"), impl.OK, 3)
	d.do(splitCommand(2, false), impl.OK, 4)
	d.do(splitCommand(3, true), impl.OK, 5)
	d.do(resizeCommand(3, 8), impl.ErrSmall, 0)
	d.do(resizeCommand(20, 3), impl.ErrSmall, 0)
	d.do(resizeCommand(3, 3), impl.ErrSmall, 0)
	d.do(resizeCommand(20, 8), impl.OK, 0)
	d.shows("a1 b(2|10|4) c(3-4-5)")
	d.do(resizeCommand(11, 5), impl.OK, 0)
	d.shows("a1 b(2|9|4) c(3-3-5)")
	d.do(resizeCommand(4, 4), impl.OK, 0)
	d.shows("a1 b(2|2|4) c(3-2-5)")
	d.do(resizeCommand(24, 10), impl.OK, 0)
	d.shows("a1 b(2|2|4) c(3-2-5)")
	for id, size := range map[int][2]int{1: {24, 10}, 2: {2, 10}, 4: {22, 10}, 3: {24, 2}, 5: {24, 8}} {
		if p := d.pane(id); p.Screen.W != size[0] || p.Screen.H != size[1] {
			t.Errorf("pane %d is %d by %d, not %v", id, p.Screen.W, p.Screen.H, size)
		}
	}
	if d.m.W != 24 || d.m.H != 10 {
		t.Error("the whole is", d.m.W, d.m.H)
	}
}

func TestAWindowThatDoesNotFitStopsAll(t *testing.T) {
	for _, texts := range [][]string{{"(1|10|2)", "3", "4"}, {"1", "(2|10|3)", "4"}, {"1", "2", "(3|10|4)"}, {"(1|10|5)", "2", "(3|10|4)"}, {"(1|10|2)"}} {
		m := muxOf(t, 20, 8, texts...)
		if got, reply := wantCommand(t, m, at(1, resizeCommand(3, 10))); reply.Code != impl.ErrSmall || !sameButSeens(got, m) {
			t.Errorf("%v to 3 by 10: %+v", texts, reply)
		}
		if _, reply := wantCommand(t, m, at(1, resizeCommand(4, 2))); reply.Code != impl.OK {
			t.Errorf("%v to 4 by 2: %+v", texts, reply)
		}
	}
}

func TestWindowsRenamed(t *testing.T) {
	d := newDesk(t, 20, 8)
	d.do(renameCommand("a", "b"), impl.ErrNone, 0)
	d.do(windowCommand("a"), impl.OK, 1)
	d.do(windowCommand("b"), impl.OK, 2)
	d.do(renameCommand("a", "c"), impl.OK, 0)
	d.shows("c1 b2")
	d.do(renameCommand("a", "c"), impl.ErrNone, 0)
	d.do(renameCommand("a", "a"), impl.ErrNone, 0)
	d.do(renameCommand("c", "b"), impl.ErrTwice, 0)
	d.do(renameCommand("c", "c"), impl.ErrTwice, 0)
	d.do(renameCommand("b", "A"), impl.OK, 0)
	d.do(renameCommand("b", "A"), impl.ErrNone, 0)
	d.do(renameCommand("A", "twelve_bytes"), impl.OK, 0)
	d.do(renameCommand("twelve_bytes", "b"), impl.OK, 0)
	d.shows("c1 b2")
}

func TestOutputInOnePieceAndInSeveral(t *testing.T) {
	text := "one\r\n\x1b[1;31mtwo\x1b]title\a\u20ac\x1b[2;3r\x1b[2;1H\n\n\n\x1b[?25lx\xe2\x82y\x1b[5;1"
	for size := 1; size <= len(text); size++ {
		whole, pieces := newDesk(t, 12, 6), newDesk(t, 12, 6)
		for _, d := range []*desk{whole, pieces} {
			d.do(windowCommand("a"), impl.OK, 1)
			d.do(splitCommand(1, true), impl.OK, 2)
		}
		whole.do(outputCommand(1, 1, text), impl.OK, 0)
		for rest := text; rest != ""; {
			piece := rest[:min(size, len(rest))]
			pieces.do(outputCommand(1, 1, piece), impl.OK, 0)
			rest = rest[len(piece):]
		}
		if a, b := whole.pane(1), pieces.pane(1); !samePane(a, b) || a.Parser.State != impl.PsCsi || a.Screen.Title != "title" {
			t.Errorf("pieces of %d: %s, not %s", size, screenShown(b.Screen), screenShown(a.Screen))
		}
		if p := pieces.pane(2); !sameScreens(p.Screen, newScreen(t, 12, 3)) || !sameParser(p.Parser, impl.Parser{}) {
			t.Error("output reaches another pane:", screenShown(p.Screen))
		}
	}
}

func TestOutputOfEveryLength(t *testing.T) {
	for n := 1; n <= 200; n++ {
		d := newDesk(t, 24, 10)
		d.do(windowCommand("a"), impl.OK, 1)
		d.do(outputCommand(1, 1, strings.Repeat("x", n)), impl.OK, 0)
		if p := d.pane(1); strings.Count(strings.Join(modelTexts(p.Screen), ""), "x") != n {
			t.Errorf("output of %d bytes: %s", n, screenShown(p.Screen))
		}
	}
}

// TestOutputOnResizedScreens goes on with what a parser kept, behind each way in which a screen gets another size.
func TestOutputOnResizedScreens(t *testing.T) {
	for what, change := range map[string]impl.Command{
		"split by columns": splitCommand(1, false), "split by rows": splitCommand(1, true), "kill": killCommand(2), "move": moveCommand(1, -3),
		"resize": resizeCommand(9, 4), "resize to more": resizeCommand(24, 10), "move by nothing": moveCommand(1, 0), "rename": renameCommand("a", "b"), "own": ownCommand(2, 5),
	} {
		d := newDesk(t, 20, 8)
		d.do(windowCommand("a"), impl.OK, 1)
		d.do(splitCommand(1, false), impl.OK, 2)
		d.do(outputCommand(1, 1, "abcdefghij\r\nsecond\x1b[2;3r\x1b[8;10H\x1b7\x1b[7"), impl.OK, 0)
		before := d.pane(1)
		d.do(change, impl.OK, map[string]int{"split by columns": 3, "split by rows": 3, "own": 2}[what])
		p := d.pane(1)
		if !sameParser(p.Parser, before.Parser) || p.Parser.State != impl.PsCsi {
			t.Errorf("%s: the parser is %+v", what, p.Parser)
		}
		want := before.Screen
		if p.Screen.W != want.W || p.Screen.H != want.H {
			want = modelResize(want, p.Screen.W, p.Screen.H)
		} else if p.Screen.Top != 1 || p.Screen.Bottom != 2 {
			t.Errorf("%s: a screen that keeps its size loses its area: %s", what, screenShown(p.Screen))
		}
		if !sameScreens(p.Screen, want) {
			t.Errorf("%s: %s, not %s", what, screenShown(p.Screen), screenShown(want))
		}
		d.do(outputCommand(1, 1, "mX\r\n\n\n\n\x1b8Y"), impl.OK, 0)
		if d.pane(1).Parser.State != impl.PsGround {
			t.Errorf("%s: the parser goes on as %+v", what, d.pane(1).Parser)
		}
	}
}

// TestScreensThatKeepTheirSize are left alone whatever becomes of the others: resized, they would lose their area.
func TestScreensThatKeepTheirSize(t *testing.T) {
	m := muxOf(t, 24, 10, "((1|4|2)-5-(3|12|4))", "(5-5-6)", "7")
	for i := range m.Panes {
		m.Panes[i].Screen.Top, m.Panes[i].Screen.Bottom = 1, 2
	}
	for _, c := range []struct {
		command impl.Command
		resized []int
	}{
		{splitCommand(3, false), []int{3}}, {splitCommand(7, true), []int{7}}, {killCommand(1), []int{2}}, {killCommand(7), nil}, {killCommand(5), []int{6}},
		{moveCommand(2, 1), []int{1, 2}}, {moveCommand(2, 0), nil}, {moveCommand(3, -100), []int{3, 4}}, {moveCommand(5, -1), []int{5, 6}},
		{windowCommand("a"), nil}, {renameCommand("a", "d"), nil}, {ownCommand(1, 5), nil}, {resizeCommand(24, 10), nil},
		{resizeCommand(24, 9), []int{3, 4, 6, 7}}, {resizeCommand(23, 10), []int{2, 4, 5, 6, 7}}, {from(1, outputCommand(1, 1, "\a")), nil},
	} {
		got, _ := wantCommand(t, m, at(1, c.command))
		for _, p := range got.Panes {
			if p.Id > 7 {
				continue
			}
			whole := p.Screen.Top == 0 && p.Screen.Bottom == p.Screen.H-1
			if whole != slices.Contains(c.resized, p.Id) {
				t.Errorf("%+v: pane %d has the area %d to %d", c.command, p.Id, p.Screen.Top, p.Screen.Bottom)
			}
		}
	}
}

// withNext, withEpoch and bare change one thing of a multiplexer.
func withNext(m impl.Mux, next int) impl.Mux {
	m = cloneMux(m)
	m.Next = next
	return m
}

func withEpoch(m impl.Mux, epoch int) impl.Mux {
	m = cloneMux(m)
	for i := range m.Panes {
		m.Panes[i].Epoch = epoch
	}
	return m
}

func TestCodesInTheirOrder(t *testing.T) {
	three := muxOf(t, 24, 10, "(1|12|2)", "3", "4")
	two := muxOf(t, 24, 10, "(1|12|2)", "3")
	none := muxOf(t, 24, 10)
	full := muxOf(t, 24, 10, "(1|2|(2|2|(3|2|(4|2|(5|2|6)))))", "(7|2|(8|2|(9|2|(10|2|11))))")
	tiny := muxOf(t, 3, 3, "1", "2")
	for i, c := range []struct {
		m            impl.Mux
		c            impl.Command
		code, number int
	}{
		{withNext(three, 1000), windowCommand("a"), impl.ErrMany, 0},
		{withNext(three, 1000), windowCommand("d"), impl.ErrMany, 0},
		{withNext(two, 1000), windowCommand("b"), impl.ErrMany, 0},
		{withNext(two, 1000), windowCommand("d"), impl.ErrMany, 0},
		{withNext(none, 1000), windowCommand("d"), impl.ErrMany, 0},
		{withNext(three, 999), windowCommand("c"), impl.ErrTwice, 0},
		{three, windowCommand("a"), impl.ErrTwice, 0},
		{two, windowCommand("b"), impl.ErrTwice, 0},
		{withNext(three, 999), windowCommand("d"), impl.ErrFull, 0},
		{three, windowCommand("A"), impl.ErrFull, 0},
		{withNext(two, 999), windowCommand("d"), impl.OK, 999},
		{withNext(none, 999), windowCommand("a"), impl.OK, 999},
		{withNext(none, 998), windowCommand("a"), impl.OK, 998},

		{withNext(full, 1000), splitCommand(12, false), impl.ErrMany, 0},
		{withNext(full, 1000), splitCommand(1000, true), impl.ErrMany, 0},
		{withNext(full, 1000), splitCommand(1, false), impl.ErrMany, 0},
		{withNext(tiny, 1000), splitCommand(1, false), impl.ErrMany, 0},
		{withNext(three, 1000), splitCommand(1, false), impl.ErrMany, 0},
		{withNext(none, 1000), splitCommand(1, false), impl.ErrMany, 0},
		{withNext(full, 999), splitCommand(12, false), impl.ErrNone, 0},
		{withNext(full, 999), splitCommand(999, false), impl.ErrNone, 0},
		{full, splitCommand(12, true), impl.ErrNone, 0},
		{full, splitCommand(1000, true), impl.ErrNone, 0},
		{none, splitCommand(1, true), impl.ErrNone, 0},
		{full, splitCommand(1, false), impl.ErrFull, 0},
		{full, splitCommand(6, true), impl.ErrFull, 0},
		{full, splitCommand(7, false), impl.ErrSmall, 0},
		{full, splitCommand(7, true), impl.OK, 12},
		{full, splitCommand(11, false), impl.OK, 12},
		{tiny, splitCommand(1, false), impl.ErrSmall, 0},
		{tiny, splitCommand(2, true), impl.ErrSmall, 0},
		{withNext(three, 999), splitCommand(2, true), impl.OK, 999},

		{withNext(three, 1000), killCommand(5), impl.ErrNone, 0},
		{withNext(three, 1000), killCommand(1000), impl.ErrNone, 0},
		{none, killCommand(1), impl.ErrNone, 0},
		{withNext(three, 1000), killCommand(4), impl.OK, 0},

		{three, moveCommand(5, 1), impl.ErrNone, 0},
		{none, moveCommand(1, -100), impl.ErrNone, 0},
		{three, moveCommand(3, 0), impl.ErrLast, 0},
		{tiny, moveCommand(1, 100), impl.ErrLast, 0},
		{three, moveCommand(1, -100), impl.OK, 0},
		{three, moveCommand(2, 100), impl.OK, 0},

		{three, from(1, outputCommand(5, 1, "x")), impl.ErrNone, 0},
		{none, outputCommand(1, 1, "x"), impl.ErrNone, 0},
		{three, from(2, outputCommand(1, 1, "x")), impl.ErrStale, 0},
		{three, from(1, outputCommand(1, 2, "x")), impl.ErrStale, 0},
		{three, from(2, outputCommand(1, 2, "x")), impl.ErrStale, 0},
		{three, from(2, outputCommand(2, 1, "x")), impl.ErrStale, 0},
		{three, from(2, outputCommand(2, 60000, "x")), impl.ErrStale, 0},
		{three, from(1, outputCommand(4, 4, "x")), impl.OK, 0},
		{withEpoch(three, 60000), from(1, outputCommand(4, 60000, "x")), impl.OK, 0},

		{withEpoch(three, 60000), ownCommand(5, 1), impl.ErrNone, 0},
		{none, ownCommand(1, 1), impl.ErrNone, 0},
		{withEpoch(three, 60000), ownCommand(1, 1), impl.ErrMany, 0},
		{withEpoch(three, 60000), ownCommand(1, 200), impl.ErrMany, 0},
		{withEpoch(three, 59999), ownCommand(1, 200), impl.OK, 60000},
		{three, ownCommand(3, 0), impl.OK, 4},

		{full, resizeCommand(11, 10), impl.ErrSmall, 0},
		{full, resizeCommand(12, 2), impl.OK, 0},
		{tiny, resizeCommand(2, 2), impl.OK, 0},
		{none, resizeCommand(24, 2), impl.OK, 0},

		{three, renameCommand("d", "a"), impl.ErrNone, 0},
		{three, renameCommand("d", "d"), impl.ErrNone, 0},
		{none, renameCommand("a", "b"), impl.ErrNone, 0},
		{three, renameCommand("a", "b"), impl.ErrTwice, 0},
		{three, renameCommand("c", "a"), impl.ErrTwice, 0},
		{three, renameCommand("b", "b"), impl.ErrTwice, 0},
		{three, renameCommand("b", "B"), impl.OK, 0},
	} {
		m := seenBy(c.m, 3, 4, 5)
		got, reply := wantCommand(t, m, at(1, c.c))
		if reply != (impl.Reply{Code: c.code, Number: c.number}) {
			t.Errorf("%d: %+v answers %+v, not %d, %d", i, c.c, reply, c.code, c.number)
		}
		seen := impl.Seen{Client: c.c.Client, Seq: 1, Reply: reply}
		if want := append([]impl.Seen{seen}, m.Seens...); !slices.Equal(got.Seens, want) {
			t.Errorf("%d: %+v leaves the Seens %v", i, c.c, got.Seens)
		}
	}
}

func TestNextEndsAtOneThousand(t *testing.T) {
	m := withNext(muxOf(t, 24, 10, "1"), 998)
	for seq, c := range []struct {
		c            impl.Command
		code, number int
	}{
		{splitCommand(1, false), impl.OK, 998}, {windowCommand("b"), impl.OK, 999}, {windowCommand("c"), impl.ErrMany, 0}, {splitCommand(1, true), impl.ErrMany, 0},
		{killCommand(999), impl.OK, 0}, {windowCommand("c"), impl.ErrMany, 0}, {splitCommand(998, true), impl.ErrMany, 0}, {killCommand(998), impl.OK, 0}, {killCommand(1), impl.OK, 0}, {windowCommand("c"), impl.ErrMany, 0},
	} {
		next, reply := wantCommand(t, m, at(seq+1, c.c))
		if reply != (impl.Reply{Code: c.code, Number: c.number}) {
			t.Errorf("%+v answers %+v", c.c, reply)
		}
		m = next
	}
	if m.Next != 1000 || len(m.Panes) != 0 || len(m.Windows) != 0 {
		t.Error(muxShown(m))
	}
}

// someCommands are one of each kind that is done on a multiplexer of windows a and b with panes 1 to 3, the last one of client 0.
func someCommands() []impl.Command {
	return []impl.Command{
		windowCommand("c"), splitCommand(3, true), killCommand(1), moveCommand(1, 2), outputCommand(3, 3, "output"), ownCommand(2, 9), resizeCommand(10, 5), renameCommand("a", "new"),
		windowCommand("a"), splitCommand(9, false), killCommand(9), moveCommand(3, 1), outputCommand(3, 1, "output"), ownCommand(9, 9), resizeCommand(2, 2), renameCommand("b", "a"),
	}
}

func TestACommandThatComesAgainDoesNothing(t *testing.T) {
	m := seenBy(muxOf(t, 24, 10, "(1|12|2)", "3"), 1, 200)
	for _, c := range someCommands() {
		c.Seq = 5
		once, reply := wantCommand(t, m, c)
		for _, again := range someCommands() {
			got, told := wantCommand(t, once, at(5, again))
			if told != reply || !sameMuxes(got, once) {
				t.Errorf("%+v comes behind %+v: %+v, not %+v", again, c, told, reply)
			}
			for seq := 1; seq < 5; seq++ {
				got, told = wantCommand(t, once, at(seq, again))
				if told != (impl.Reply{Code: impl.ErrLate}) || !sameMuxes(got, once) {
					t.Errorf("%+v comes late: %+v", again, told)
				}
			}
			got, _ = wantCommand(t, once, at(6, again))
			if len(got.Seens) != 3 || got.Seens[0].Seq != 6 || !slices.Equal(got.Seens[1:], m.Seens) {
				t.Errorf("%+v comes next: %v", again, got.Seens)
			}
		}
		got, _ := wantCommand(t, once, from(150, c))
		if len(got.Seens) != 4 || got.Seens[2].Client != 150 || got.Seens[2].Seq != 5 {
			t.Errorf("%+v of another client: %v", c, got.Seens)
		}
	}
}

func TestSeqsMaySkip(t *testing.T) {
	m := seenBy(muxOf(t, 24, 10, "(1|12|2)", "3"), 7)
	for _, seq := range []int{1, 2, 9, 10, 11, 12, 500, 59999, 60000} {
		c := from(7, at(seq, windowCommand("c")))
		got, reply := wantCommand(t, m, c)
		want := impl.Reply{Number: 4}
		if seq == 10 {
			want = m.Seens[0].Reply
		} else if seq < 10 {
			want = impl.Reply{Code: impl.ErrLate}
		}
		if reply != want || seq <= 10 && !sameMuxes(got, m) {
			t.Errorf("Seq %d: %+v, %s", seq, reply, muxShown(got))
		}
	}
	last := seenBy(muxOf(t, 24, 10, "1"), 7)
	last.Seens[0].Seq = 60000
	for _, seq := range []int{1, 59999} {
		if _, reply := wantCommand(t, last, from(7, at(seq, killCommand(1)))); reply.Code != impl.ErrLate {
			t.Error("behind the last Seq", reply)
		}
	}
	if _, reply := wantCommand(t, last, from(7, at(60000, killCommand(1)))); reply != last.Seens[0].Reply {
		t.Error("the last Seq again", reply)
	}
}

func TestClientsBeyondThoseThereMayBe(t *testing.T) {
	base := muxOf(t, 24, 10, "(1|12|2)", "3")
	for _, clients := range [][]int{{}, {100}, {50, 100}, {50, 100, 150}, {0, 100, 200}, {1, 2, 3, 200}, {50, 100, 150, 200}, {0, 1, 2, 3}, {197, 198, 199, 200}} {
		m := seenBy(base, clients...)
		for _, client := range []int{0, 1, 2, 4, 49, 50, 51, 100, 149, 151, 196, 199, 200} {
			for _, c := range someCommands() {
				for _, seq := range []int{1, 9, 10, 11, 60000} {
					got, reply := wantCommand(t, m, from(client, at(seq, c)))
					if len(clients) == 4 && !slices.Contains(clients, client) && (reply != impl.Reply{Code: impl.ErrFull} || !sameMuxes(got, m)) {
						t.Errorf("client %d with %v: %+v, %v", client, clients, reply, got.Seens)
					}
					if len(clients) < 4 && !slices.Contains(clients, client) && len(got.Seens) != len(clients)+1 {
						t.Errorf("client %d with %v: %v", client, clients, got.Seens)
					}
				}
			}
		}
	}
}

// drawnCommand is mostly one that may be done: of a pane that is there, of the next Seq.
func drawnCommand(draw *rand.Rand, m impl.Mux) impl.Command {
	kinds := []int{1, 1, 2, 2, 2, 2, 2, 2, 3, 4, 4, 5, 5, 5, 5, 6, 7, 8}
	c := impl.Command{Kind: kinds[draw.Intn(len(kinds))], Client: draw.Intn(5)}
	name := func() string { return []string{"a", "b", "c", "main", "d"}[draw.Intn(5)] }
	p := impl.Pane{Id: 1 + draw.Intn(min(m.Next+1, 1000)), Epoch: 1}
	if len(m.Panes) > 0 && draw.Intn(12) > 0 {
		p = m.Panes[draw.Intn(len(m.Panes))]
	}
	switch c.Kind {
	case impl.MxWindow:
		c.Name = name()
	case impl.MxSplit:
		c.Pane, c.Rows = p.Id, draw.Intn(2) == 0
	case impl.MxKill:
		c.Pane = p.Id
	case impl.MxMove:
		c.Pane, c.N = p.Id, draw.Intn(21)-10
	case impl.MxOutput:
		c.Pane, c.Epoch, c.Data = p.Id, p.Epoch, drawnOutput(draw, 1+draw.Intn(12))
		if draw.Intn(8) > 0 {
			c.Client = p.Owner
		}
		c.Data = c.Data[:min(len(c.Data), 200)]
	case impl.MxOwn:
		c.Pane, c.N = p.Id, draw.Intn(5)
	case impl.MxResize:
		c.N, c.Epoch = 24-draw.Intn(14)*draw.Intn(2), 10-draw.Intn(6)*draw.Intn(2)
	case impl.MxRename:
		c.Name, c.Data = name(), name()
	}
	c.Seq = 1
	for _, seen := range m.Seens {
		if seen.Client == c.Client {
			c.Seq = max(1, seen.Seq+1-draw.Intn(12)/9)
		}
	}
	return c
}

// drawnStart is a new multiplexer, or one near the ends of Next and the Epochs.
func drawnStart(t *testing.T, draw *rand.Rand) impl.Mux {
	t.Helper()
	switch draw.Intn(4) {
	case 0:
		return withNext(withEpoch(muxOf(t, 24, 10, "(1|12|2)", "(3-5-4)"), 59999), 994)
	case 1:
		return muxOf(t, 24, 10, "((1|8|(2|8|3))-5-(4|8|(5|8|6)))", "((7|8|(8|8|9))-5-(10|8|(11|8|12)))", "(13|12|(14-5-15))")
	}
	m, _ := impl.NewMux(24, 10)
	return m
}

func TestDrawnCommands(t *testing.T) {
	t.Parallel()
	draw := rand.New(rand.NewSource(7))
	panes, codes := map[[2]int]int{}, map[[2]int]int{}
	for range 400 {
		m := drawnStart(t, draw)
		for range 60 {
			c := drawnCommand(draw, m)
			known := slices.ContainsFunc(m.Seens, func(s impl.Seen) bool { return s.Client == c.Client && s.Seq == c.Seq })
			next, reply := wantCommand(t, m, c)
			if m = next; !known {
				codes[[2]int{c.Kind, reply.Code}]++
			}
			for _, window := range m.Windows {
				panes[[2]int{len(m.Windows), len(modelPanes(window.Layout))}]++
			}
		}
		wantMuxBytes(t, m)
		wantRendered(t, m)
	}
	for windows := 1; windows <= 3; windows++ {
		for count := 1; count <= 6; count++ {
			if panes[[2]int{windows, count}] < 20 {
				t.Errorf("only %d windows of %d had %d panes", panes[[2]int{windows, count}], windows, count)
			}
		}
	}
	for kind, list := range [][]int{
		1: {impl.OK, impl.ErrMany, impl.ErrTwice, impl.ErrFull}, 2: {impl.OK, impl.ErrMany, impl.ErrNone, impl.ErrFull, impl.ErrSmall}, 3: {impl.OK, impl.ErrNone}, 4: {impl.OK, impl.ErrNone, impl.ErrLast},
		5: {impl.OK, impl.ErrNone, impl.ErrStale}, 6: {impl.OK, impl.ErrNone, impl.ErrMany}, 7: {impl.OK, impl.ErrSmall}, 8: {impl.OK, impl.ErrNone, impl.ErrTwice},
	} {
		for _, code := range append(list, impl.ErrFull) {
			if kind > 0 && codes[[2]int{kind, code}] < 3 {
				t.Errorf("kind %d answered %s only %d times", kind, impl.CodeWord(code), codes[[2]int{kind, code}])
			}
		}
	}
}

// rightCommands are of each kind, at the edges of what it names.
func rightCommands() []impl.Command {
	list := []impl.Command{
		windowCommand("a"), windowCommand("_"), windowCommand("Z9_"), windowCommand("twelve_bytes"), splitCommand(1, false), splitCommand(1000, true), killCommand(1), killCommand(1000),
		moveCommand(1, -100), moveCommand(1000, 100), moveCommand(5, 0), outputCommand(1, 1, "x"), outputCommand(1000, 60000, strings.Repeat("\xff", 200)), outputCommand(3, 7, "\x00"),
		ownCommand(1, 0), ownCommand(1000, 200), resizeCommand(2, 2), resizeCommand(24, 10), renameCommand("a", "b"), renameCommand("twelve_bytes", "Twelve_byte2"), renameCommand("a", "a"),
	}
	for i := range list {
		list[i].Client, list[i].Seq = []int{0, 1, 200, 199}[i%4], []int{1, 60000, 59999, 2, 10}[i%5]
	}
	return list
}

// withNumber sets one of the numbers of a command.
func withNumber(c impl.Command, field, n int) impl.Command {
	*[]*int{&c.Kind, &c.Client, &c.Seq, &c.Pane, &c.N, &c.Epoch}[field] = n
	return c
}

// otherCommands are such as differ from c in one of its parts: right ones, and such as are not.
func otherCommands(c impl.Command) []impl.Command {
	var list []impl.Command
	for field := range 6 {
		for _, n := range []int{math.MinInt, -1 << 32, -1001, -1000, -999, -101, -100, -99, -1, 0, 1, 2, 3, 4, 5, 6, 7, 8, 9, 10, 11, 23, 24, 25, 100, 101, 199, 200, 201, 255, 256, 999, 1000, 1001, 59999, 60000, 60001, 1<<24 - 1001, 1<<32 + 1, math.MaxInt - 999, math.MaxInt} {
			list = append(list, withNumber(c, field, n))
		}
	}
	other := c
	other.Rows = !c.Rows
	list = append(list, other)
	for _, text := range []string{
		"", "a", "9", "a9", "_", " ", "a ", " a", "a b", "-", "a-", "a\x00", "\x00", "\u00e4", "a\n", "\xff", "A_z09", "eleven_byte", "twelve_bytes", "thirteenbytes", "9welve_bytes", "twelve_byte\xff",
		strings.Repeat("a", 40), strings.Repeat("a", 199), strings.Repeat("a", 200), strings.Repeat("a", 201), strings.Repeat("a", 20001), strings.Repeat("a", impl.MaxText+1),
	} {
		other = c
		other.Name = text
		list = append(list, other)
		other = c
		other.Data = text
		list = append(list, other)
	}
	return list
}

// wantCommandCalls holds the calls of a command against the model, whether it is right or not.
func wantCommandCalls(t *testing.T, m impl.Mux, c impl.Command) {
	t.Helper()
	ok := modelCommandOK(c)
	if impl.CommandOK(c) != ok {
		t.Fatalf("CommandOK(%.300s) is not %v", fmt.Sprintf("%+v", c), ok)
	}
	b, code := impl.CommandBytes(c)
	if ok {
		if code != impl.OK || !bytes.Equal(b, modelCommandBytes(c)) {
			t.Errorf("CommandBytes(%+v) = %q, %d", c, b, code)
		}
		if back, code := impl.ReadCommand(b); back != c || code != impl.OK {
			t.Errorf("ReadCommand of %+v = %+v, %d", c, back, code)
		}
		return
	}
	if len(b) != 0 || code != impl.ErrBad {
		t.Errorf("CommandBytes(%.300s) = %q, %d", fmt.Sprintf("%+v", c), b, code)
	}
	if got, reply, code := impl.ApplyCommand(m, c); !sameMuxes(got, impl.Mux{}) || reply != (impl.Reply{}) || code != impl.ErrBad {
		t.Errorf("ApplyCommand(%.300s) = %+v, %d", fmt.Sprintf("%+v", c), reply, code)
	}
	first := at(1, windowCommand("a"))
	for _, list := range [][]impl.Command{{c}, {first, c}, {c, first}, {first, c, first}} {
		if got, replies, code := impl.RunCommands(24, 10, list); !sameMuxes(got, impl.Mux{}) || len(replies) != 0 || code != impl.ErrBad {
			t.Errorf("RunCommands with %.300s = %v, %d", fmt.Sprintf("%+v", c), replies, code)
		}
	}
}

func TestCommandsThatAreRightAndNot(t *testing.T) {
	m := muxOf(t, 24, 10, "1")
	right, wrong := 0, 0
	for _, c := range rightCommands() {
		if !modelCommandOK(c) {
			t.Fatalf("not right: %+v", c)
		}
		for _, other := range append(otherCommands(c), c) {
			wantCommandCalls(t, m, other)
			if modelCommandOK(other) {
				right++
			} else {
				wrong++
			}
		}
	}
	if right < 500 || wrong < 3000 {
		t.Error("only", right, "right commands and", wrong, "others")
	}
	wantCommandCalls(t, m, impl.Command{})
}

// TestFieldsThatAKindDoesNotName sets one of them in each kind, which has none of them then.
func TestFieldsThatAKindDoesNotName(t *testing.T) {
	set := map[string]func(c *impl.Command){
		"Pane": func(c *impl.Command) { c.Pane = 5 }, "N": func(c *impl.Command) { c.N = 5 }, "Epoch": func(c *impl.Command) { c.Epoch = 5 },
		"Rows": func(c *impl.Command) { c.Rows = true }, "Name": func(c *impl.Command) { c.Name = "n" }, "Data": func(c *impl.Command) { c.Data = "d" },
	}
	names := map[int]string{1: "Name", 2: "Pane Rows", 3: "Pane", 4: "Pane N", 5: "Pane Epoch Data", 6: "Pane N", 7: "N Epoch", 8: "Name Data"}
	for _, c := range someCommands() {
		c.Seq = 1
		if !impl.CommandOK(c) {
			t.Errorf("CommandOK(%+v)", c)
		}
		for field, change := range set {
			other := c
			change(&other)
			if want := slices.Contains(strings.Fields(names[c.Kind]), field); impl.CommandOK(other) != want {
				t.Errorf("CommandOK of kind %d with %s is not %v", c.Kind, field, want)
			}
		}
	}
}

func TestKindsThatAreNone(t *testing.T) {
	for _, c := range rightCommands() {
		for _, kind := range []int{math.MinInt, -1, 0, 9, 10, 256, 257, 1<<32 + 1, math.MaxInt} {
			c.Kind = kind
			if impl.CommandOK(c) {
				t.Errorf("CommandOK(%+v)", c)
			}
		}
	}
}

func TestCommandBytesWrittenOut(t *testing.T) {
	for _, c := range []struct {
		c    impl.Command
		want string
	}{
		{impl.Command{Kind: impl.MxWindow, Client: 200, Seq: 60000, Name: "main"}, "\x03\x00\x15\x00\x00\x02\x00\x00\xc9\x00\xea\x61\x00\x00\x01\x00\x03\xe9\x00\x00\x01\x00\x00\x01\x00\x04main\x00\x00"},
		{impl.Command{Kind: impl.MxSplit, Seq: 1, Pane: 1000, Rows: true}, "\x03\x00\x15\x00\x00\x03\x00\x00\x01\x00\x00\x02\x00\x03\xe9\x00\x03\xe9\x00\x00\x01\x00\x00\x02\x00\x00\x00\x00"},
		{impl.Command{Kind: impl.MxMove, Client: 1, Seq: 2, Pane: 3, N: -100}, "\x03\x00\x15\x00\x00\x05\x00\x00\x02\x00\x00\x03\x00\x00\x04\x00\x03\x85\x00\x00\x01\x00\x00\x01\x00\x00\x00\x00"},
		{impl.Command{Kind: impl.MxOutput, Seq: 7, Pane: 1, Epoch: 60000, Data: "\x00\xffx"}, "\x03\x00\x15\x00\x00\x06\x00\x00\x01\x00\x00\x08\x00\x00\x02\x00\x03\xe9\x00\xea\x61\x00\x00\x01\x00\x00\x00\x03\x00\xffx"},
		{impl.Command{Kind: impl.MxRename, Seq: 1, Name: "a", Data: "bc"}, "\x03\x00\x15\x00\x00\x09\x00\x00\x01\x00\x00\x02\x00\x00\x01\x00\x03\xe9\x00\x00\x01\x00\x00\x01\x00\x01a\x00\x02bc"},
	} {
		if b, code := impl.CommandBytes(c.c); string(b) != c.want || code != impl.OK {
			t.Errorf("CommandBytes(%+v) = %q, %d, not %q", c.c, b, code, c.want)
		}
		if back, code := impl.ReadCommand([]byte(c.want)); back != c.c || code != impl.OK {
			t.Errorf("ReadCommand(%q) = %+v, %d", c.want, back, code)
		}
	}
}

// modelReadNumbers answers nil unless the text is just so many numbers; any of them if count is -1.
func modelReadNumbers(text string, count int) []int {
	if len(text)%3 != 0 || count >= 0 && len(text) != 3*count {
		return nil
	}
	list := []int{}
	for ; text != ""; text = text[3:] {
		list = append(list, int(text[0])<<16+int(text[1])<<8+int(text[2])-1)
	}
	return list
}

func modelReadCommand(b []byte) (impl.Command, bool) {
	fields, ok := modelFields(b)
	if !ok || len(fields) != 3 {
		return impl.Command{}, false
	}
	n := modelReadNumbers(fields[0], 7)
	if n == nil || !inBounds(n[6], 0, 1) {
		return impl.Command{}, false
	}
	c := impl.Command{Kind: n[0], Client: n[1], Seq: n[2], Pane: n[3], N: n[4] - 1000, Epoch: n[5], Rows: n[6] == 1, Name: fields[1], Data: fields[2]}
	return c, modelCommandOK(c)
}

func wantReadCommand(t *testing.T, b []byte) bool {
	t.Helper()
	want, ok := modelReadCommand(b)
	wantCode := impl.OK
	if !ok {
		want, wantCode = impl.Command{}, impl.ErrForm
	}
	was := bytes.Clone(b)
	if got, code := impl.ReadCommand(b); got != want || code != wantCode || !bytes.Equal(b, was) {
		t.Fatalf("ReadCommand(%.300q) = %+v, %d, not %+v, %d", b, got, code, want, wantCode)
	}
	return ok
}

func TestBytesThatAreNoCommands(t *testing.T) {
	read := 0
	for _, c := range rightCommands() {
		b := modelCommandBytes(c)
		for place := range b {
			wantReadCommand(t, b[:place])
			wantReadCommand(t, b[place+1:])
			wantReadCommand(t, slices.Delete(bytes.Clone(b), place, place+1))
			for value := range 256 {
				changed := bytes.Clone(b)
				if changed[place] = byte(value); wantReadCommand(t, changed) {
					read++
				}
			}
		}
		for place := range len(b) + 1 {
			for _, value := range []byte{0, 1, 2, 3, 'a', 255} {
				wantReadCommand(t, slices.Insert(bytes.Clone(b), place, value))
			}
		}
		for _, other := range otherCommands(c) {
			if len(other.Name) <= 20000 && len(other.Data) <= 20000 {
				wantReadCommand(t, modelCommandBytes(other))
			}
		}
		fields, _ := modelFields(b)
		for i := range fields {
			wantReadCommand(t, fieldsOf(fields[:i]))
			wantReadCommand(t, fieldsOf(slices.Insert(slices.Clone(fields), i, fields[i])))
			wantReadCommand(t, fieldsOf(slices.Insert(slices.Clone(fields), i, "")))
		}
		wantReadCommand(t, fieldsOf([]string{fields[0] + modelNumbers(0), fields[1], fields[2]}))
		wantReadCommand(t, fieldsOf([]string{fields[0][3:], fields[1], fields[2]}))
		for _, rows := range []int{-1, 2, 255, 256, 65536} {
			wantReadCommand(t, fieldsOf([]string{fields[0][:18] + modelNumbers(rows), fields[1], fields[2]}))
		}
	}
	if read < 3000 {
		t.Error("only", read, "of those with a byte changed were right")
	}
	for _, b := range someBytes() {
		if len(b) <= impl.MaxText {
			wantReadCommand(t, b)
		}
	}
}

func TestReadingBeyondTheLimit(t *testing.T) {
	for _, b := range [][]byte{make([]byte, impl.MaxText+1), append(modelCommandBytes(rightCommands()[0]), make([]byte, impl.MaxText)...), fieldsOf(fullFields(1))} {
		if c, code := impl.ReadCommand(b); c != (impl.Command{}) || code != impl.ErrLong {
			t.Error("ReadCommand", c, code)
		}
		if m, code := impl.ReadMux(b); !sameMuxes(m, impl.Mux{}) || code != impl.ErrLong {
			t.Error("ReadMux", muxShown(m), code)
		}
	}
	for _, b := range [][]byte{make([]byte, impl.MaxText), fieldsOf(fullFields(0)), nil, {}} {
		if c, code := impl.ReadCommand(b); c != (impl.Command{}) || code != impl.ErrForm {
			t.Error("ReadCommand", c, code)
		}
		if m, code := impl.ReadMux(b); !sameMuxes(m, impl.Mux{}) || code != impl.ErrForm {
			t.Error("ReadMux", muxShown(m), code)
		}
	}
}

// someMuxes are right ones: without windows, of one pane and of several in each shape, and as full as may be.
func someMuxes(t *testing.T) []impl.Mux {
	t.Helper()
	six := func(first int) string {
		return fmt.Sprintf("((%d|8|(%d|8|%d))-5-(%d|8|(%d|8|%d)))", first, first+1, first+2, first+3, first+4, first+5)
	}
	list := []impl.Mux{
		muxOf(t, 2, 2), muxOf(t, 24, 10), muxOf(t, 2, 2, "1"), muxOf(t, 24, 10, "999"), muxOf(t, 4, 2, "(2|2|1)"), muxOf(t, 2, 4, "(5-2-9)"),
		muxOf(t, 20, 8, "(1|10|2)", "(4-4-3)"), muxOf(t, 20, 8, "7", "(5|3|(6-4-2))", "((1-2-3)|6|4)"), muxOf(t, 24, 10, six(1), six(13), six(7)),
		withNext(muxOf(t, 5, 5, "3"), 1000), withEpoch(muxOf(t, 5, 5, "3", "1"), 60000), withNext(muxOf(t, 5, 5), 1000),
	}
	for i := range list {
		list[i] = seenBy(list[i], [][]int{nil, {0}, {200}, {0, 1, 199, 200}, {5, 6, 7}}[i%5]...)
	}
	most := cloneMux(list[8])
	most.Seens = []impl.Seen{{Client: 197, Seq: 60000, Reply: impl.Reply{Code: 19, Number: 60000}}, {Client: 198, Seq: 1}, {Client: 199, Seq: 5, Reply: impl.Reply{Code: 19}}, {Client: 200, Seq: 60000, Reply: impl.Reply{Number: 60000}}}
	for i := range most.Panes {
		p := &most.Panes[i]
		p.Owner, p.Epoch, p.Parser = 200, 60000, impl.Parser{State: impl.PsCsi, Private: true, Args: slices.Repeat([]int{9999}, 8)}
		p.Screen.Title, p.Screen.History = strings.Repeat("~", 40), slices.Repeat([]string{strings.Repeat("\xff", 96)}, 6)
	}
	for i, name := range []string{"twelve_bytes", "Twelve_bytes", "_WELVE_BYTES"} {
		most.Windows[i].Name = name
	}
	return append(list, most)
}

func wantMuxBytes(t *testing.T, m impl.Mux) {
	t.Helper()
	b, code := impl.MuxBytes(m)
	if code != impl.OK || !bytes.Equal(b, modelMuxBytes(m)) {
		t.Fatalf("MuxBytes of %s: %d", muxShown(m), code)
	}
	back, code := impl.ReadMux(b)
	if code != impl.OK || !sameMuxes(back, m) {
		t.Fatalf("ReadMux of %s: %d, %s", muxShown(m), code, muxShown(back))
	}
	if same, code := impl.SameMux(back, m); !same || code != impl.OK {
		t.Fatalf("SameMux of %s as it was read: %v, %d", muxShown(m), same, code)
	}
}

func TestMuxesAreReadBack(t *testing.T) {
	for _, m := range someMuxes(t) {
		if !impl.MuxOK(m) || !modelMuxOK(m) {
			t.Fatal("not right:", muxShown(m))
		}
		wantMuxBytes(t, m)
	}
	m := muxOf(t, 2, 2, "1")
	for _, p := range someParsers() {
		m.Panes[0].Parser = p
		wantMuxBytes(t, m)
	}
	for _, s := range rightScreens(t) {
		m := muxOf(t, s.W, s.H, "1")
		m.Panes[0].Screen = s
		wantMuxBytes(t, m)
	}
	for i, a := range laidOut(6) {
		if i%17 == 0 {
			wantMuxBytes(t, muxWith(t, a))
		}
	}
}

// muxWith has one window of a layout, whose panes may be 1 to 1000.
func muxWith(t *testing.T, a laid) impl.Mux {
	t.Helper()
	if i := modelIndex(a.l, 1000); i >= 0 {
		a.l = renamed(a.l, 1000, 500)
	}
	return muxOf(t, a.w, a.h, modelLayoutText(a.l))
}

func TestMuxBytesWrittenOut(t *testing.T) {
	m, _ := impl.NewMux(24, 10)
	if b, code := impl.MuxBytes(m); string(b) != "\x02\x00\x12\x00\x00\x19\x00\x00\x0b\x00\x00\x02\x00\x00\x01\x00\x00\x01\x00\x00\x01\x00\x00" || code != impl.OK {
		t.Errorf("MuxBytes of a new one: %q, %d", b, code)
	}
	s := newScreen(t, 2, 2)
	s.Title = "t"
	m = impl.Mux{W: 4, H: 2, Next: 3, Windows: []impl.Window{{Name: "ab", Layout: layoutOf("(2|2|1)")}}, Seens: []impl.Seen{{Client: 3, Seq: 256, Reply: impl.Reply{Code: 5}}, {Client: 9, Seq: 1, Reply: impl.Reply{Number: 2}}}}
	m.Panes = []impl.Pane{{Id: 1, Owner: 200, Epoch: 60000, Screen: s, Parser: impl.Parser{State: impl.PsCsi, Private: true, Args: []int{-1, 7}}}, {Id: 2, Epoch: 1, Screen: s, Parser: impl.Parser{State: impl.PsUtf, Utf: "\xe2"}}}
	screen := string(modelScreenBytes(s))
	field := func(text string) string { return string([]byte{byte(len(text) >> 8), byte(len(text))}) + text }
	one := "\x03\x00\x09\x00\x00\x02\x00\x00\xc9\x00\xea\x61" + field(screen) + field("\x04\x00\x06\x00\x00\x03\x00\x00\x02\x00\x06\x00\x00\x00\x00\x00\x08\x00\x00\x00\x00")
	two := "\x03\x00\x09\x00\x00\x03\x00\x00\x01\x00\x00\x02" + field(screen) + field("\x04\x00\x06\x00\x00\x07\x00\x00\x01\x00\x00\x00\x00\x00\x01\xe2")
	want := "\x05\x00\x12\x00\x00\x05\x00\x00\x03\x00\x00\x04\x00\x00\x02\x00\x00\x03\x00\x00\x03" +
		field("ab \x00\x00\x01\x00\x00\x01\x00\x00\x03\x00\x00\x02\x00\x00\x03"+"\x00\x00\x03\x00\x00\x01\x00\x00\x01\x00\x00\x00\x00\x00\x00"+"\x00\x00\x02\x00\x00\x01\x00\x00\x01\x00\x00\x00\x00\x00\x00") + field(one) + field(two) +
		field("\x00\x00\x04\x00\x01\x01\x00\x00\x06\x00\x00\x01"+"\x00\x00\x0a\x00\x00\x02\x00\x00\x01\x00\x00\x03")
	if b, code := impl.MuxBytes(m); string(b) != want || code != impl.OK {
		t.Errorf("MuxBytes = %q, %d, not %q", b, code, want)
	}
	if back, code := impl.ReadMux([]byte(want)); code != impl.OK || !sameMuxes(back, m) {
		t.Errorf("ReadMux: %s, %d", muxShown(back), code)
	}
}

func modelReadWindow(field string) (impl.Window, bool) {
	name, numbers, blank := strings.Cut(field, " ")
	n := modelReadNumbers(numbers, -1)
	if !blank || n == nil || len(n)%5 != 0 {
		return impl.Window{}, false
	}
	window := impl.Window{Name: name}
	for ; len(n) > 0; n = n[5:] {
		if !inBounds(n[1], 0, 1) {
			return impl.Window{}, false
		}
		window.Layout.Parts = append(window.Layout.Parts, impl.Part{Pane: n[0], Rows: n[1] == 1, Size: n[2], Left: n[3], Right: n[4]})
	}
	return window, true
}

func modelReadPane(field string) (impl.Pane, bool) {
	fields, ok := modelFields([]byte(field))
	if !ok || len(fields) != 3 {
		return impl.Pane{}, false
	}
	n := modelReadNumbers(fields[0], 3)
	screen, ok := modelReadScreen([]byte(fields[1]))
	of, also := modelFields([]byte(fields[2]))
	if n == nil || !ok || !also || len(of) != 4 {
		return impl.Pane{}, false
	}
	m, args := modelReadNumbers(of[0], 2), modelReadNumbers(of[1], -1)
	if m == nil || args == nil || !inBounds(m[1], 0, 1) {
		return impl.Pane{}, false
	}
	return impl.Pane{Id: n[0], Owner: n[1], Epoch: n[2], Screen: screen, Parser: impl.Parser{State: m[0], Private: m[1] == 1, Args: args, Text: of[2], Utf: of[3]}}, true
}

func modelReadMux(b []byte) (impl.Mux, bool) {
	fields, ok := modelFields(b)
	if !ok || len(fields) < 2 {
		return impl.Mux{}, false
	}
	n, last := modelReadNumbers(fields[0], 6), modelReadNumbers(fields[len(fields)-1], -1)
	if n == nil || last == nil || n[3] < 0 || n[4] < 0 || len(fields) != 2+n[3]+n[4] || len(last) != 4*n[5] {
		return impl.Mux{}, false
	}
	m := impl.Mux{W: n[0], H: n[1], Next: n[2]}
	for i, field := range fields[1 : len(fields)-1] {
		if i < n[3] {
			window, ok := modelReadWindow(field)
			if !ok {
				return impl.Mux{}, false
			}
			m.Windows = append(m.Windows, window)
			continue
		}
		p, ok := modelReadPane(field)
		if !ok {
			return impl.Mux{}, false
		}
		m.Panes = append(m.Panes, p)
	}
	for ; len(last) > 0; last = last[4:] {
		m.Seens = append(m.Seens, impl.Seen{Client: last[0], Seq: last[1], Reply: impl.Reply{Code: last[2], Number: last[3]}})
	}
	return m, modelMuxOK(m)
}

func wantReadMux(t *testing.T, b []byte) bool {
	t.Helper()
	want, ok := modelReadMux(b)
	wantCode := impl.OK
	if !ok {
		want, wantCode = impl.Mux{}, impl.ErrForm
	}
	was := bytes.Clone(b)
	got, code := impl.ReadMux(b)
	if code != wantCode || !sameMuxes(got, want) || !bytes.Equal(b, was) {
		t.Fatalf("ReadMux(%.600q) = %s, %d, not %s, %d", b, muxShown(got), code, muxShown(want), wantCode)
	}
	return ok
}

func TestBytesThatAreNoMuxes(t *testing.T) {
	t.Parallel()
	read := 0
	for _, m := range someMuxes(t) {
		b := modelMuxBytes(m)
		step, few := 1+len(b)/150, 25
		if len(b) < 400 {
			step, few = 1, 1
		}
		for place := 0; place < len(b); place += step {
			wantReadMux(t, b[:place])
			wantReadMux(t, b[place+1:])
			wantReadMux(t, slices.Delete(bytes.Clone(b), place, place+1))
			wantReadMux(t, slices.Insert(bytes.Clone(b), place, 0))
			wantReadMux(t, slices.Insert(bytes.Clone(b), place, b[place]))
			for value := 0; value < 256; value += few {
				changed := bytes.Clone(b)
				if changed[place] += byte(value); wantReadMux(t, changed) {
					read++
				}
			}
		}
		wantReadMux(t, append(bytes.Clone(b), 0))
		wantReadMux(t, append(bytes.Clone(b), b...))
		if !wantReadMux(t, b) {
			t.Error("a right one's bytes:", muxShown(m))
		}
	}
	if read < 2000 {
		t.Error("only", read, "of those with a byte changed were right")
	}
	for _, b := range someBytes() {
		if len(b) <= impl.MaxText {
			wantReadMux(t, b)
		}
	}
}

func TestFieldsThatAreNoMux(t *testing.T) {
	m := seenBy(muxOf(t, 4, 4, "(2|2|1)", "(3-2-4)"), 1, 2)
	fields := modelMuxFields(m)
	if !wantReadMux(t, fieldsOf(fields)) {
		t.Fatal("a right one's bytes")
	}
	hold := func(list []string) {
		t.Helper()
		if wantReadMux(t, fieldsOf(list)) {
			t.Errorf("read: %.100q", list)
		}
	}
	for i := range fields {
		hold(fields[:i])
		hold(slices.Delete(slices.Clone(fields), i, i+1))
		hold(slices.Insert(slices.Clone(fields), i, fields[i]))
		hold(slices.Insert(slices.Clone(fields), i, ""))
		for j := range fields {
			if changed := slices.Clone(fields); i != j && (i == 0 || i > 2 || j > 2) {
				changed[i], changed[j] = changed[j], changed[i]
				hold(changed)
			}
		}
		for _, other := range []string{"\x00", " ", "\x3d", fields[0] + "\x00\x00\x01", strings.Repeat("\x00\x00\x03", 4097), strings.Repeat("\x00\x00\x03", 5), "a " + strings.Repeat("\x00\x00\x03", 4100)} {
			changed := slices.Clone(fields)
			changed[i] = other
			hold(changed)
		}
	}
	hold(append(slices.Clone(fields), ""))
	for i := range 6 {
		for _, n := range []int{-1, 0, 1, 2, 3, 4, 5, 6, 7, 10, 11, 24, 25, 60, 255, 999, 1000, 1001, 65535, 65536, 16777214} {
			numbers := modelReadNumbers(fields[0], 6)
			numbers[i] = n
			changed := slices.Clone(fields)
			changed[0] = modelNumbers(numbers...)
			wantReadMux(t, fieldsOf(changed))
		}
	}
}

// TestFieldsOfPanesThatAreNone changes the fields within a pane's, and within its parser's.
func TestFieldsOfPanesThatAreNone(t *testing.T) {
	m := muxOf(t, 2, 2, "1")
	m.Panes[0].Parser = impl.Parser{State: impl.PsCsi, Args: []int{1, 2}}
	fields := modelMuxFields(m)
	inner, _ := modelFields([]byte(fields[2]))
	parser, _ := modelFields([]byte(inner[2]))
	read, refused := 0, 0
	hold := func(pane []string) {
		t.Helper()
		if wantReadMux(t, fieldsOf([]string{fields[0], fields[1], string(fieldsOf(pane)), fields[3]})) {
			read++
		} else {
			refused++
		}
	}
	others := func(list []string, hold func([]string)) {
		for i := range list {
			hold(list[:i])
			hold(slices.Insert(slices.Clone(list), i, ""))
			for _, other := range []string{"", "\x00", list[i] + "\x00", list[i] + "\x00\x00\x01", list[i] + list[i], "\x00\x00\x03\x00\x00\x03", strings.Repeat("\x00\x00\x03", 4097)} {
				changed := slices.Clone(list)
				changed[i] = other
				hold(changed)
			}
		}
		hold(append(slices.Clone(list), ""))
	}
	others(inner, hold)
	others(parser, func(list []string) { hold([]string{inner[0], inner[1], string(fieldsOf(list))}) })
	// Three are other Args that a parser may have, four leave an empty text as it was.
	if read != 7 || refused < 50 {
		t.Error(read, "were read,", refused, "were not")
	}
	for _, private := range []int{-1, 2, 255, 256, 65536} {
		hold([]string{inner[0], inner[1], string(fieldsOf([]string{modelNumbers(2, private), parser[1], "", ""}))})
	}
	for _, p := range wrongParsers() {
		if len(p.Text) < 100 && len(p.Utf) < 100 && len(p.Args) < 100 {
			list := []string{modelNumbers(p.State, oneIf(p.Private)), modelNumbers(p.Args...), p.Text, p.Utf}
			wantReadMux(t, fieldsOf([]string{fields[0], fields[1], string(fieldsOf([]string{inner[0], inner[1], string(fieldsOf(list))})), fields[3]}))
		}
	}
}

// changedMuxes are m with one part changed each, by every change of its kind.
func changedMuxes(t *testing.T, m impl.Mux) []impl.Mux {
	t.Helper()
	var list []impl.Mux
	add := func(change func(m *impl.Mux)) {
		other := cloneMux(m)
		change(&other)
		list = append(list, other)
	}
	numbers := []int{math.MinInt, -1, 0, 1, 2, 3, 4, 5, 7, 8, 9, 10, 11, 19, 20, 21, 24, 25, 199, 200, 201, 999, 1000, 1001, 59999, 60000, 60001, 1<<32 + 1, math.MaxInt}
	for _, n := range numbers {
		add(func(m *impl.Mux) { m.W = n })
		add(func(m *impl.Mux) { m.H = n })
		add(func(m *impl.Mux) { m.Next = n })
		for i := range m.Panes {
			add(func(m *impl.Mux) { m.Panes[i].Id = n })
			add(func(m *impl.Mux) { m.Panes[i].Owner = n })
			add(func(m *impl.Mux) { m.Panes[i].Epoch = n })
		}
		for i := range m.Seens {
			add(func(m *impl.Mux) { m.Seens[i].Client = n })
			add(func(m *impl.Mux) { m.Seens[i].Seq = n })
			add(func(m *impl.Mux) { m.Seens[i].Reply.Code = n })
			add(func(m *impl.Mux) { m.Seens[i].Reply.Number = n })
		}
		for i, window := range m.Windows {
			for j := range window.Layout.Parts {
				add(func(m *impl.Mux) { m.Windows[i].Layout.Parts[j].Pane = n })
				add(func(m *impl.Mux) { m.Windows[i].Layout.Parts[j].Size = n })
				add(func(m *impl.Mux) { m.Windows[i].Layout.Parts[j].Left = n })
				add(func(m *impl.Mux) { m.Windows[i].Layout.Parts[j].Right = n })
			}
		}
	}
	for i, window := range m.Windows {
		for _, name := range []string{"", "a", "b", "c", "d", "9", "a b", "a ", "\xff", "_9", "twelve_bytes", "thirteenbytes", strings.Repeat("a", 40), strings.Repeat("a", impl.MaxText+1)} {
			add(func(m *impl.Mux) { m.Windows[i].Name = name })
		}
		add(func(m *impl.Mux) { m.Windows = slices.Delete(m.Windows, i, i+1) })
		add(func(m *impl.Mux) { m.Windows = append(m.Windows, m.Windows[i]) })
		add(func(m *impl.Mux) { m.Windows[i].Layout = impl.Layout{} })
		for j := range window.Layout.Parts {
			add(func(m *impl.Mux) { m.Windows[i].Layout.Parts[j].Rows = !m.Windows[i].Layout.Parts[j].Rows })
		}
	}
	for i := range m.Panes {
		add(func(m *impl.Mux) { m.Panes = slices.Delete(m.Panes, i, i+1) })
		add(func(m *impl.Mux) { m.Panes = slices.Insert(m.Panes, i, clonePane(m.Panes[i])) })
		add(func(m *impl.Mux) { m.Panes[i], m.Panes[0] = m.Panes[0], m.Panes[i] })
		add(func(m *impl.Mux) {
			m.Panes[i].Screen = modelResize(m.Panes[i].Screen, m.Panes[i].Screen.W+1, m.Panes[i].Screen.H)
		})
		add(func(m *impl.Mux) {
			m.Panes[i].Screen = modelResize(m.Panes[i].Screen, m.Panes[i].Screen.W, m.Panes[i].Screen.H+1)
		})
		add(func(m *impl.Mux) { m.Panes[i].Screen = impl.Screen{} })
	}
	for i := range m.Seens {
		add(func(m *impl.Mux) { m.Seens = slices.Delete(m.Seens, i, i+1) })
		add(func(m *impl.Mux) { m.Seens = slices.Insert(m.Seens, i, m.Seens[i]) })
		add(func(m *impl.Mux) { m.Seens[i], m.Seens[0] = m.Seens[0], m.Seens[i] })
	}
	return list
}

func TestMuxesWithOnePartChanged(t *testing.T) {
	right, wrong := 0, 0
	for _, m := range someMuxes(t)[:8] {
		for _, other := range changedMuxes(t, m) {
			want := modelMuxOK(other)
			if impl.MuxOK(other) != want {
				t.Fatalf("MuxOK of %s is not %v", muxShown(other), want)
			}
			if want {
				right++
			} else if wrong++; wrong%5 == 0 {
				wantBadMux(t, other)
			}
		}
	}
	if right < 200 || wrong < 2000 {
		t.Error("only", right, "right ones and", wrong, "others")
	}
}

// wrongMuxes are such as the chapter names, one by one.
func wrongMuxes(t *testing.T) []impl.Mux {
	t.Helper()
	base := seenBy(muxOf(t, 20, 8, "(1|10|2)", "(4-4-3)"), 1, 2, 3)
	list := []impl.Mux{{}, {W: 20, H: 8}, {W: 20, H: 8, Next: 1001}, {W: 1, H: 8, Next: 1}, {W: 20, H: 11, Next: 1}}
	add := func(change func(m *impl.Mux)) {
		other := cloneMux(base)
		change(&other)
		list = append(list, other)
	}
	for _, n := range []int{math.MinInt, -1, 0, 1, 4, 1001, math.MaxInt} {
		add(func(m *impl.Mux) { m.Next = n })
	}
	for _, n := range []int{math.MinInt, -1, 1, 19, 21, 25, math.MaxInt} {
		add(func(m *impl.Mux) { m.W = n })
	}
	for _, n := range []int{math.MinInt, -1, 1, 7, 9, 11, math.MaxInt} {
		add(func(m *impl.Mux) { m.H = n })
	}
	add(func(m *impl.Mux) { m.Windows[1].Name = m.Windows[0].Name })
	for _, name := range []string{"", "9", "a b", "\u00e4", "thirteenbytes"} {
		add(func(m *impl.Mux) { m.Windows[0].Name = name })
	}
	// Windows without panes, or of panes that another one has.
	add(func(m *impl.Mux) { m.Windows = append(m.Windows, impl.Window{Name: "c"}) })
	add(func(m *impl.Mux) { m.Windows = append(m.Windows, impl.Window{Name: "c", Layout: layoutOf("1")}) })
	add(func(m *impl.Mux) { m.Windows = append(m.Windows, impl.Window{Name: "c", Layout: layoutOf("9")}) })
	add(func(m *impl.Mux) { m.Windows[1].Layout = layoutOf("(2-4-3)") })
	add(func(m *impl.Mux) { m.Windows[1].Layout = cloneLayout(m.Windows[0].Layout) })
	add(func(m *impl.Mux) { m.Windows = m.Windows[:1] })
	add(func(m *impl.Mux) { m.Windows = nil })
	add(func(m *impl.Mux) { m.Windows[0].Layout = layoutOf("(1|19|2)") })
	add(func(m *impl.Mux) { m.Windows[0].Layout = layoutOf("(1|10|1)") })
	add(func(m *impl.Mux) { m.Windows[0].Layout = layoutOf("(1|9|2)") })
	add(func(m *impl.Mux) { m.Windows[0].Layout = layoutOf("(2|9|1)") })
	for _, l := range wrongLayouts()[:40] {
		add(func(m *impl.Mux) { m.Windows[0].Layout = l })
	}
	four := muxOf(t, 20, 8, "1", "2", "3")
	four.Windows = append(four.Windows, impl.Window{Name: "d", Layout: layoutOf("4")})
	four.Panes, four.Next = append(four.Panes, impl.Pane{Id: 4, Epoch: 1, Screen: newScreen(t, 20, 8)}), 5
	list = append(list, four)
	// A pane of two windows that stands among the panes for each of them.
	both := muxOf(t, 20, 8, "1", "2")
	both.Windows[1].Layout, both.Panes[1].Id = layoutOf("1"), 1
	list = append(list, both)
	// A pane of an Id of Next, and of none that a layout has.
	add(func(m *impl.Mux) { m.Panes[3].Id = 5 })
	add(func(m *impl.Mux) { m.Panes[3].Id, m.Windows[1].Layout = 5, layoutOf("(5-4-3)") })
	add(func(m *impl.Mux) { m.Panes[3].Id, m.Windows[1].Layout, m.Next = 1000, layoutOf("(1000-4-3)"), 1000 })
	add(func(m *impl.Mux) { m.Panes = m.Panes[:3] })
	add(func(m *impl.Mux) { m.Panes = m.Panes[1:] })
	add(func(m *impl.Mux) { m.Panes = nil })
	add(func(m *impl.Mux) { m.Panes = append(m.Panes, clonePane(m.Panes[3])) })
	add(func(m *impl.Mux) { m.Panes = make([]impl.Pane, 100000) })
	add(func(m *impl.Mux) { m.Panes[0], m.Panes[1] = m.Panes[1], m.Panes[0] })
	add(func(m *impl.Mux) { m.Panes[2], m.Panes[3] = m.Panes[3], m.Panes[2] })
	for i := range base.Panes {
		for _, n := range []int{math.MinInt, -1, 201, math.MaxInt} {
			add(func(m *impl.Mux) { m.Panes[i].Owner = n })
		}
		for _, n := range []int{math.MinInt, -1, 0, 60001, math.MaxInt} {
			add(func(m *impl.Mux) { m.Panes[i].Epoch = n })
		}
		for _, s := range []impl.Screen{newScreen(t, 9, 8), newScreen(t, 11, 8), newScreen(t, 10, 7), newScreen(t, 20, 5), newScreen(t, 21, 4), newScreen(t, 8, 10)} {
			add(func(m *impl.Mux) { m.Panes[i].Screen = s })
		}
		add(func(m *impl.Mux) { m.Panes[i].Screen.Look = 128 })
		add(func(m *impl.Mux) { m.Panes[i].Screen.X = m.Panes[i].Screen.W + 1 })
		add(func(m *impl.Mux) { m.Panes[i].Screen.Cells[3].Rune = 127 })
		add(func(m *impl.Mux) { m.Panes[i].Screen.Cells = m.Panes[i].Screen.Cells[1:] })
		add(func(m *impl.Mux) { m.Panes[i].Screen.History = make([]string, 7) })
	}
	for _, p := range wrongParsers() {
		add(func(m *impl.Mux) { m.Panes[2].Parser = p })
	}
	return append(list, wrongSeens(base)...)
}

func wrongSeens(base impl.Mux) []impl.Mux {
	var list []impl.Mux
	add := func(seens ...impl.Seen) {
		other := cloneMux(base)
		other.Seens = seens
		list = append(list, other)
	}
	of := func(client int) impl.Seen { return impl.Seen{Client: client, Seq: 1} }
	add(of(0), of(1), of(2), of(3), of(4))
	add(of(2), of(1))
	add(of(1), of(1))
	add(of(1), of(3), of(2))
	add(of(1), of(2), of(2))
	add(make([]impl.Seen, 100000)...)
	for _, n := range []int{math.MinInt, -1, 201, 1 << 32, math.MaxInt} {
		add(of(n))
	}
	add(of(1), of(201))
	for _, n := range []int{math.MinInt, -1, 0, 60001, 1<<32 + 1, math.MaxInt} {
		add(impl.Seen{Client: 1, Seq: n})
	}
	for _, n := range []int{math.MinInt, -1, 20, 256, 1 << 32, math.MaxInt} {
		add(of(0), impl.Seen{Client: 1, Seq: 1, Reply: impl.Reply{Code: n}})
	}
	for _, n := range []int{math.MinInt, -1, 60001, 1 << 32, math.MaxInt} {
		add(of(0), impl.Seen{Client: 1, Seq: 1, Reply: impl.Reply{Number: n}})
	}
	return list
}

// wantBadMux holds every call against ErrBad with nothing else, whatever other faults there are.
func wantBadMux(t *testing.T, m impl.Mux) {
	t.Helper()
	if impl.MuxOK(m) {
		t.Fatalf("MuxOK of %.2000s", muxShown(m))
	}
	for _, c := range []impl.Command{at(1, windowCommand("z")), at(1, killCommand(1)), at(10, killCommand(9)), {}} {
		if got, reply, code := impl.ApplyCommand(m, c); !sameMuxes(got, impl.Mux{}) || reply != (impl.Reply{}) || code != impl.ErrBad {
			t.Errorf("ApplyCommand(%+v) = %+v, %d on %.2000s", c, reply, code, muxShown(m))
		}
	}
	for _, id := range []int{-1, 0, 1, 9} {
		if p, code := impl.PaneAt(m, id); !samePane(p, impl.Pane{}) || code != impl.ErrBad {
			t.Errorf("PaneAt(%d) = %d of %.2000s", id, code, muxShown(m))
		}
	}
	for _, name := range []string{"a", "none", "", "9"} {
		if rows, code := impl.RenderWindow(m, name); len(rows) != 0 || code != impl.ErrBad {
			t.Errorf("RenderWindow(%q) = %d of %.2000s", name, code, muxShown(m))
		}
	}
	if b, code := impl.MuxBytes(m); len(b) != 0 || code != impl.ErrBad {
		t.Errorf("MuxBytes = %d of %.2000s", code, muxShown(m))
	}
	right, _ := impl.NewMux(2, 2)
	for _, pair := range [][2]impl.Mux{{m, right}, {right, m}, {m, m}} {
		if same, code := impl.SameMux(pair[0], pair[1]); same || code != impl.ErrBad {
			t.Errorf("SameMux = %v, %d with %.2000s", same, code, muxShown(m))
		}
	}
}

func TestMuxesThatAreNotRight(t *testing.T) {
	for _, m := range wrongMuxes(t) {
		if modelMuxOK(m) {
			t.Fatalf("the model takes %.2000s", muxShown(m))
		}
		wantBadMux(t, m)
		if len(m.Windows)+len(m.Panes)+2 <= 60 && writable(m) {
			wantReadMux(t, modelMuxBytes(m))
		}
	}
}

// writable says that what is not right may be written out all the same.
func writable(m impl.Mux) bool {
	numbers := []int{m.W, m.H, m.Next}
	for _, seen := range m.Seens {
		numbers = append(numbers, seen.Client, seen.Seq, seen.Reply.Code, seen.Reply.Number)
	}
	for _, window := range m.Windows {
		for _, part := range window.Layout.Parts {
			numbers = append(numbers, part.Pane, part.Size, part.Left, part.Right)
		}
	}
	for _, p := range m.Panes {
		if len(p.Screen.Cells) != p.Screen.W*p.Screen.H || len(p.Parser.Args) > 100 || len(p.Parser.Text)+len(p.Parser.Utf) > 200 {
			return false
		}
		numbers = append(append(numbers, p.Id, p.Owner, p.Epoch, p.Parser.State), p.Parser.Args...)
	}
	return len(numbers) < 4000 && slices.Min(numbers) >= -1 && slices.Max(numbers) < 1<<24-1
}

func TestMuxesAtTheirEdges(t *testing.T) {
	hold := func(what string, m impl.Mux, want bool) {
		t.Helper()
		if impl.MuxOK(m) != want || modelMuxOK(m) != want {
			t.Errorf("MuxOK of %s is not %v", what, want)
		}
	}
	empty := impl.Mux{W: 5, H: 5}
	for next, want := range map[int]bool{0: false, 1: true, 2: true, 999: true, 1000: true, 1001: false} {
		hold(fmt.Sprint("Next ", next), withNext(empty, next), want)
	}
	one := muxOf(t, 5, 5, "999")
	hold("pane 999", one, true)
	hold("Next of the pane", withNext(one, 999), false)
	for epoch, want := range map[int]bool{0: false, 1: true, 60000: true, 60001: false} {
		hold(fmt.Sprint("Epoch ", epoch), withEpoch(one, epoch), want)
	}
	for owner, want := range map[int]bool{-1: false, 0: true, 200: true, 201: false} {
		m := cloneMux(one)
		m.Panes[0].Owner = owner
		hold(fmt.Sprint("Owner ", owner), m, want)
	}
	for _, c := range []struct {
		seen impl.Seen
		want bool
	}{
		{impl.Seen{Client: 0, Seq: 1}, true}, {impl.Seen{Client: 200, Seq: 60000}, true}, {impl.Seen{Client: 201, Seq: 1}, false}, {impl.Seen{Client: -1, Seq: 1}, false}, {impl.Seen{Client: 0, Seq: 0}, false}, {impl.Seen{Client: 0, Seq: 60001}, false},
		{impl.Seen{Seq: 1, Reply: impl.Reply{Code: 19, Number: 60000}}, true}, {impl.Seen{Seq: 1, Reply: impl.Reply{Code: 20}}, false}, {impl.Seen{Seq: 1, Reply: impl.Reply{Code: -1}}, false}, {impl.Seen{Seq: 1, Reply: impl.Reply{Number: 60001}}, false}, {impl.Seen{Seq: 1, Reply: impl.Reply{Number: -1}}, false},
	} {
		m := cloneMux(one)
		m.Seens = []impl.Seen{c.seen}
		hold(fmt.Sprintf("%+v", c.seen), m, c.want)
	}
	for n := range 7 {
		hold(fmt.Sprint(n, " Seens"), seenBy(one, []int{0, 1, 2, 3, 4, 5}[:min(n, 6)]...), n <= 4)
	}
}

func TestRunCommands(t *testing.T) {
	draw := rand.New(rand.NewSource(8))
	for range 40 {
		m, _ := impl.NewMux(24, 10)
		model := muxModelOf(m)
		var list []impl.Command
		var want []impl.Reply
		for range draw.Intn(201) {
			c := drawnCommand(draw, model.mux())
			list, want = append(list, c), append(want, model.come(c))
		}
		was := slices.Clone(list)
		got, replies, code := impl.RunCommands(24, 10, list)
		if code != impl.OK || !slices.Equal(replies, want) || !sameMuxes(got, model.mux()) || !impl.MuxOK(got) || !slices.Equal(list, was) {
			t.Fatalf("RunCommands of %d: %v, %d, not %v", len(list), replies, code, want)
		}
		for _, c := range list {
			m, _, _ = impl.ApplyCommand(m, c)
		}
		if same, code := impl.SameMux(m, got); !same || code != impl.OK {
			t.Fatal("one by one they do something else")
		}
	}
}

func TestRunCommandsOfSoMany(t *testing.T) {
	command := func(seq int) impl.Command { return at(seq, ownCommand(1, 0)) }
	wrong := impl.Command{Kind: 9, Seq: 1}
	for _, n := range []int{0, 1, 199, 200, 201, impl.MaxList, impl.MaxList + 1} {
		list := make([]impl.Command, n)
		for i := range list {
			list[i] = command(i + 1)
		}
		if n > 0 {
			list[0] = at(1, windowCommand("a"))
		}
		wantCode := impl.OK
		if n > impl.MaxList {
			wantCode = impl.ErrLong
		} else if n > 200 {
			wantCode = impl.ErrMany
		}
		m, replies, code := impl.RunCommands(24, 10, list)
		if code != wantCode || code == impl.OK && (len(replies) != n || m.W != 24 || m.H != 10) || code != impl.OK && (len(replies) != 0 || !sameMuxes(m, impl.Mux{})) {
			t.Errorf("RunCommands of %d: %d, %d replies, %s", n, code, len(replies), muxShown(m))
		}
		if code == impl.OK && n > 1 && (replies[n-1] != impl.Reply{Number: n} || m.Panes[0].Epoch != n) {
			t.Errorf("RunCommands of %d: the last reply is %+v", n, replies[n-1])
		}
		for _, place := range []int{0, n / 2, n - 1} {
			if n == 0 {
				continue
			}
			changed := slices.Clone(list)
			changed[place] = wrong
			m, replies, code := impl.RunCommands(24, 10, changed)
			if want := max(wantCode, impl.ErrBad); code != want || len(replies) != 0 || !sameMuxes(m, impl.Mux{}) {
				t.Errorf("RunCommands of %d with a wrong one at %d: %d", n, place, code)
			}
			for _, size := range [][2]int{{1, 10}, {25, 10}, {24, 1}, {24, 11}, {math.MinInt, math.MaxInt}} {
				want := impl.ErrRange
				if n > impl.MaxList {
					want = impl.ErrLong
				}
				if m, replies, code := impl.RunCommands(size[0], size[1], changed); code != want || len(replies) != 0 || !sameMuxes(m, impl.Mux{}) {
					t.Errorf("RunCommands of %d for %v: %d", n, size, code)
				}
			}
		}
	}
	for _, list := range [][]impl.Command{nil, {}} {
		if m, replies, code := impl.RunCommands(2, 2, list); code != impl.OK || len(replies) != 0 || !sameMuxes(m, impl.Mux{W: 2, H: 2, Next: 1}) {
			t.Errorf("RunCommands of none: %v, %d", replies, code)
		}
		if _, _, code := impl.RunCommands(1, 2, list); code != impl.ErrRange {
			t.Error("RunCommands of none for 1 by 2:", code)
		}
	}
}

func TestPaneAtOfEachAndOfNone(t *testing.T) {
	for _, m := range someMuxes(t) {
		for _, p := range m.Panes {
			if got, code := impl.PaneAt(m, p.Id); code != impl.OK || !samePane(got, p) {
				t.Errorf("PaneAt(%d) = %d of %s", p.Id, code, muxShown(m))
			}
		}
		for _, id := range []int{math.MinInt, -1, 0, 1, 2, 3, 8, m.Next, m.Next + 1, 1000, 1001, 1<<32 + 1, math.MaxInt} {
			if slices.ContainsFunc(m.Panes, func(p impl.Pane) bool { return p.Id == id }) {
				continue
			}
			if got, code := impl.PaneAt(m, id); code != impl.ErrNone || !samePane(got, impl.Pane{}) {
				t.Errorf("PaneAt(%d) = %d of %s", id, code, muxShown(m))
			}
		}
	}
}

// modelWindowRows asks of each place of a window which pane's area has it.
func modelWindowRows(m impl.Mux, window impl.Window) []string {
	areas := modelAreas(window.Layout, m.W, m.H)
	var rows []string
	for y := range m.H {
		row := ""
		for x := range m.W {
			i := slices.IndexFunc(areas, func(a impl.Area) bool { return x >= a.X && x < a.X+a.W && y >= a.Y && y < a.Y+a.H })
			p := m.Panes[slices.IndexFunc(m.Panes, func(p impl.Pane) bool { return p.Id == areas[i].Pane })]
			cell := p.Screen.Cells[(y-areas[i].Y)*p.Screen.W+x-areas[i].X]
			row += string(binary.BigEndian.AppendUint32(nil, uint32(cell.Rune<<8|cell.Look)))
		}
		rows = append(rows, row)
	}
	return rows
}

// wantRendered holds the rows of each window against the model.
func wantRendered(t *testing.T, m impl.Mux) {
	t.Helper()
	for _, window := range m.Windows {
		rows, code := impl.RenderWindow(m, window.Name)
		if code != impl.OK || len(rows) != m.H {
			t.Fatalf("RenderWindow(%q) = %d rows, %d", window.Name, len(rows), code)
		}
		for y, want := range modelWindowRows(m, window) {
			if rows[y] != want {
				t.Fatalf("row %d of %q is %q, not %q", y, window.Name, rows[y], want)
			}
		}
	}
}

func TestRenderWindow(t *testing.T) {
	for _, m := range someMuxes(t) {
		wantRendered(t, m)
		for _, name := range []string{"", "none", "A", "a ", "9", "thirteenbytes", "\xff", strings.Repeat("a", 41), strings.Repeat("a", impl.MaxText)} {
			if rows, code := impl.RenderWindow(m, name); len(rows) != 0 || code != impl.ErrNone {
				t.Errorf("RenderWindow(%.20q) = %d rows, %d", name, len(rows), code)
			}
		}
	}
	for i, a := range laidOut(6) {
		if i%7 == 0 {
			wantRendered(t, muxWith(t, a))
		}
	}
	long := strings.Repeat("a", impl.MaxText+1)
	for _, m := range []impl.Mux{muxOf(t, 5, 5, "1"), muxOf(t, 5, 5), {}} {
		if rows, code := impl.RenderWindow(m, long); len(rows) != 0 || code != impl.ErrLong {
			t.Errorf("RenderWindow of a long name = %d rows, %d", len(rows), code)
		}
	}
}

// rowTexts are the runes of rows as RowCells.
func rowTexts(rows []string) []string {
	var list []string
	for _, row := range rows {
		text := ""
		for ; row != ""; row = row[4:] {
			text += string(rune(int(row[0])<<16 + int(row[1])<<8 + int(row[2])))
		}
		list = append(list, text)
	}
	return list
}

func TestRenderedWindowsShown(t *testing.T) {
	d := newDesk(t, 8, 4)
	d.do(windowCommand("a"), impl.OK, 1)
	d.do(outputCommand(1, 1, "one\r\nONE"), impl.OK, 0)
	d.do(windowCommand("b"), impl.OK, 2)
	d.do(splitCommand(1, false), impl.OK, 3)
	d.do(outputCommand(3, 1, "three"), impl.OK, 0)
	d.do(splitCommand(3, true), impl.OK, 4)
	d.do(outputCommand(4, 1, "\x1b[1mfo\x1b[2;1Hur"), impl.OK, 0)
	d.do(splitCommand(2, true), impl.OK, 5)
	d.do(outputCommand(5, 1, "five"), impl.OK, 0)
	for name, want := range map[string]string{"a": "one thre/ONE e   /    fo  /    ur  ", "b": "        /        /five    /        "} {
		rows, code := impl.RenderWindow(d.m, name)
		if got := strings.Join(rowTexts(rows), "/"); code != impl.OK || got != want {
			t.Errorf("%s shows %q, %d, not %q", name, got, code, want)
		}
	}
	rows, _ := impl.RenderWindow(d.m, "a")
	if rows[2][16:24] != "\x00\x00f\x40\x00\x00o\x40" {
		t.Errorf("the looks of %q", rows[2])
	}
	d.do(killCommand(3), impl.OK, 0)
	d.do(killCommand(1), impl.OK, 0)
	rows, _ = impl.RenderWindow(d.m, "a")
	if got := strings.Join(rowTexts(rows), "/"); got != "fo      /ur      /        /        " {
		t.Errorf("behind the kills: %q", got)
	}
}

func TestSameMuxOfOnesThatDifferInOnePlace(t *testing.T) {
	for _, m := range someMuxes(t)[2:8] {
		if same, code := impl.SameMux(m, cloneMux(m)); !same || code != impl.OK {
			t.Error("SameMux of a copy", same, code)
		}
		others := changedMuxes(t, m)
		for i, p := range m.Panes {
			for _, change := range []func(p *impl.Pane){
				func(p *impl.Pane) { p.Screen.Cells[len(p.Screen.Cells)-1].Look ^= 1 }, func(p *impl.Pane) { p.Screen.Cells[1].Rune = 'Z' }, func(p *impl.Pane) { p.Screen.Title += "x" },
				func(p *impl.Pane) { p.Screen.X = (p.Screen.X + 1) % p.Screen.W }, func(p *impl.Pane) { p.Screen.Y = (p.Screen.Y + 1) % p.Screen.H }, func(p *impl.Pane) { p.Screen.Look ^= 1 }, func(p *impl.Pane) { p.Screen.SaveX = 1 },
				func(p *impl.Pane) { p.Screen.SaveY = 0 }, func(p *impl.Pane) { p.Screen.History = append(p.Screen.History, "more") }, func(p *impl.Pane) { p.Screen.History[0] += "x" },
				func(p *impl.Pane) { p.Parser = impl.Parser{State: impl.PsUtf, Utf: "\xdf"} }, func(p *impl.Pane) { p.Parser = impl.Parser{State: impl.PsOsc, Text: "other"} },
				func(p *impl.Pane) { p.Parser = impl.Parser{State: impl.PsCsi, Args: []int{77}} }, func(p *impl.Pane) { p.Parser = impl.Parser{State: impl.PsCsi, Private: true, Args: []int{77}} },
			} {
				other := cloneMux(m)
				change(&other.Panes[i])
				if others = append(others, other); samePane(other.Panes[i], p) {
					t.Fatal("nothing changed")
				}
			}
		}
		for _, other := range others {
			want := impl.OK
			if !modelMuxOK(other) {
				want = impl.ErrBad
			}
			for _, pair := range [][2]impl.Mux{{m, other}, {other, m}} {
				same, code := impl.SameMux(pair[0], pair[1])
				if code != want || same != (want == impl.OK && sameMuxes(m, other)) {
					t.Errorf("SameMux(%s, %s) = %v, %d", muxShown(pair[0]), muxShown(pair[1]), same, code)
				}
			}
		}
	}
}

// span is the memory of a list, as far as it goes.
type span struct {
	first, behind uintptr
	of            string
}

// spansOf are those of all lists within a value.
func spansOf(of string, v reflect.Value) []span {
	var list []span
	switch v.Kind() {
	case reflect.Slice:
		if v.Cap() > 0 {
			list = append(list, span{v.Pointer(), v.Pointer() + uintptr(v.Cap())*v.Type().Elem().Size(), of})
		}
		if v.Type().Elem().Kind() == reflect.Struct || v.Type().Elem().Kind() == reflect.Slice {
			for i := range v.Len() {
				list = append(list, spansOf(fmt.Sprintf("%s[%d]", of, i), v.Index(i))...)
			}
		}
	case reflect.Struct:
		for i := range v.NumField() {
			list = append(list, spansOf(of+"."+v.Type().Field(i).Name, v.Field(i))...)
		}
	}
	return list
}

// wantApart asks of all lists of the values that no two share memory: of answers, and of the arguments ahead of them.
func wantApart(t *testing.T, what string, values ...any) {
	t.Helper()
	var all []span
	for i, value := range values {
		all = append(all, spansOf(fmt.Sprint("value ", i), reflect.ValueOf(value))...)
	}
	slices.SortFunc(all, func(a, b span) int { return cmp.Compare(a.first, b.first) })
	for i := 1; i < len(all); i++ {
		if all[i].first < all[i-1].behind {
			t.Errorf("%s: %s and %s share memory", what, all[i-1].of, all[i].of)
		}
	}
}

// roomyMux has memory behind each of its lists, which no call may write to; lists tells all of it.
func roomyMux(m impl.Mux) (roomy impl.Mux, lists func() string) {
	m = cloneMux(m)
	var tell []func() string
	for i := range m.Windows {
		l, room := roomyLayout(m.Windows[i].Layout)
		m.Windows[i].Layout = l
		tell = append(tell, func() string { return fmt.Sprint(room) })
	}
	for i := range m.Panes {
		s, cells := roomyScreen(m.Panes[i].Screen)
		room, args := roomyArgs(m.Panes[i].Parser.Args)
		m.Panes[i].Screen, m.Panes[i].Parser.Args = s, args
		tell = append(tell, cells, func() string { return fmt.Sprint(room) })
	}
	windows := append(slices.Clone(m.Windows), impl.Window{Name: "behind"}, impl.Window{Name: "behind"})
	panes := append(slices.Clone(m.Panes), impl.Pane{Id: -7}, impl.Pane{Id: -7})
	seens := append(slices.Clone(m.Seens), impl.Seen{Client: -7}, impl.Seen{Client: -7})
	m.Windows, m.Panes, m.Seens = windows[:len(m.Windows)], panes[:len(m.Panes)], seens[:len(m.Seens)]
	return m, func() string {
		text := fmt.Sprintf("%+v %+v %+v", windows, panes, seens)
		for _, list := range tell {
			text += list()
		}
		return text
	}
}

func TestMuxesAreNotChangedAndAnswersAreNewMemory(t *testing.T) {
	for _, base := range someMuxes(t) {
		m, lists := roomyMux(base)
		was := lists()
		hold := func(what string, answers ...any) {
			t.Helper()
			if lists() != was {
				t.Fatalf("%s writes into %s, or behind it", what, muxShown(base))
			}
			wantApart(t, what, append([]any{m}, answers...)...)
		}
		for _, c := range append(someCommands(), rightCommands()...) {
			var answers []any
			for _, client := range []int{0, 150} {
				for _, seq := range []int{9, 10, 11} {
					got, _, code := impl.ApplyCommand(m, from(client, at(seq, c)))
					if answers = append(answers, got); code != impl.OK {
						t.Errorf("%+v: %d", c, code)
					}
				}
			}
			hold(fmt.Sprintf("ApplyCommand(%+v)", c), answers...)
		}
		for _, p := range m.Panes {
			got, _ := impl.PaneAt(m, p.Id)
			hold("PaneAt", got)
			next, _, _ := impl.ApplyCommand(m, from(p.Owner, at(50, outputCommand(p.Id, p.Epoch, "x\x1b[1;2"))))
			hold("output", next)
		}
		for _, window := range m.Windows {
			got, _ := impl.RenderWindow(m, window.Name)
			again, _ := impl.RenderWindow(m, window.Name)
			hold("RenderWindow", got, again)
		}
		b, _ := impl.MuxBytes(m)
		again, _ := impl.MuxBytes(m)
		hold("MuxBytes", b, again)
		back, _ := impl.ReadMux(b)
		wantApart(t, "ReadMux", b, m, back)
		impl.SameMux(m, m)
		impl.MuxOK(m)
		hold("SameMux")
	}
}

func TestCommandListsAreNotChangedNorWhatStandsBehindThem(t *testing.T) {
	list := []impl.Command{at(1, windowCommand("a")), at(2, splitCommand(1, true)), at(3, outputCommand(2, 1, "x\x1b[1;2")), at(2, killCommand(1)), at(4, killCommand(1))}
	room := append(slices.Clone(list), impl.Command{Kind: -7}, impl.Command{Kind: -7})
	was := slices.Clone(room)
	for n := range len(list) + 1 {
		m, replies, code := impl.RunCommands(24, 10, room[:n])
		other, otherReplies, _ := impl.RunCommands(24, 10, room[:n])
		if code != impl.OK || !slices.Equal(room, was) {
			t.Error("RunCommands changes its list", code)
		}
		wantApart(t, "RunCommands", room, m, replies, other, otherReplies)
	}
	one, _ := impl.NewMux(5, 5)
	two, _ := impl.NewMux(5, 5)
	wantApart(t, "NewMux", one, two)
}

func TestReadMuxesAreNotKept(t *testing.T) {
	for _, m := range someMuxes(t) {
		b := modelMuxBytes(m)
		back, code := impl.ReadMux(b)
		clear(b)
		if code != impl.OK || !sameMuxes(back, m) {
			t.Error("a multiplexer shares memory with the bytes that it was read from")
		}
	}
	for _, c := range rightCommands() {
		b := modelCommandBytes(c)
		back, code := impl.ReadCommand(b)
		if clear(b); code != impl.OK || back != c {
			t.Error("a command shares memory with the bytes that it was read from")
		}
	}
}
