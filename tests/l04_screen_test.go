package tests

import (
	"bytes"
	"encoding/binary"
	"fmt"
	"math"
	"math/rand"
	"slices"
	"strings"
	"testing"
	"unicode/utf8"

	"loop.example/g00308/impl"
)

// sameScreens holds two screens against each other part by part, whether they are right or not.
func sameScreens(a, b impl.Screen) bool {
	one := []int{a.W, a.H, a.X, a.Y, a.Look, a.Top, a.Bottom, a.SaveX, a.SaveY}
	other := []int{b.W, b.H, b.X, b.Y, b.Look, b.Top, b.Bottom, b.SaveX, b.SaveY}
	return slices.Equal(one, other) && a.Title == b.Title && slices.Equal(a.Cells, b.Cells) && slices.Equal(a.History, b.History)
}

func cloneScreen(s impl.Screen) impl.Screen {
	s.Cells, s.History = slices.Clone(s.Cells), slices.Clone(s.History)
	return s
}

func screenShown(s impl.Screen) string {
	return fmt.Sprintf("%dx%d at %d,%d look %d area %d-%d save %d,%d title %.80q rows %q history %.120q", s.W, s.H, s.X, s.Y, s.Look, s.Top, s.Bottom, s.SaveX, s.SaveY, s.Title, modelTexts(s), s.History)
}

func newScreen(t *testing.T, w, h int) impl.Screen {
	t.Helper()
	s, code := impl.NewScreen(w, h)
	if code != impl.OK {
		t.Fatalf("NewScreen(%d, %d): %d", w, h, code)
	}
	return s
}

// lettersScreen has a letter in each cell, row by row.
func lettersScreen(t *testing.T, w, h int) impl.Screen {
	t.Helper()
	s := newScreen(t, w, h)
	for i := range s.Cells {
		s.Cells[i].Rune = 'a' + i%26
	}
	return s
}

// motleyScreen has runes of one to four bytes, blanks of a look of their own at the ends of rows, and all else set.
func motleyScreen(t *testing.T, w, h int) impl.Screen {
	t.Helper()
	s := newScreen(t, w, h)
	runes := []int{'a', 0xe4, 0x20ac, 0x1f600, ' ', '~', 0x10ffff, 0xfffd, 'b'}
	for i := range s.Cells {
		s.Cells[i] = impl.Cell{Rune: runes[i%len(runes)], Look: i * 37 % 128}
		if i/w%3 == 1 && i%w >= w/2 {
			s.Cells[i].Rune = ' '
		}
	}
	s.Look, s.SaveX, s.SaveY, s.Title = 93, w, h-1, "title"
	s.History = []string{"one", "", "\xe2\x82\xac  two", "\xff\x00 "}
	return s
}

// model holds a screen's cells as rows of their own; it does the chapter's words one by one.
type model struct {
	s    impl.Screen
	rows [][]impl.Cell
}

func modelOf(s impl.Screen) *model {
	m := &model{s: cloneScreen(s)}
	for y := range s.H {
		m.rows = append(m.rows, slices.Clone(s.Cells[y*s.W:(y+1)*s.W]))
	}
	return m
}

func (m *model) screen() impl.Screen {
	s := m.s
	s.Cells = slices.Concat(m.rows...)
	return s
}

func blankRow(w int) []impl.Cell { return slices.Repeat([]impl.Cell{{Rune: 32}}, w) }

func modelText(row []impl.Cell) string {
	text := ""
	for _, cell := range row {
		text += string(rune(cell.Rune))
	}
	return strings.TrimRight(text, " ")
}

func modelTexts(s impl.Screen) []string {
	var list []string
	if s.W < 1 || s.W > 100 || s.H < 1 || s.H > 100 {
		return nil
	}
	for y := 0; y < s.H && (y+1)*s.W <= len(s.Cells); y++ {
		list = append(list, modelText(s.Cells[y*s.W:(y+1)*s.W]))
	}
	return list
}

func (m *model) up(a, b int, history bool) {
	if a == 0 && history {
		m.s.History = append(m.s.History, modelText(m.rows[0]))
		if len(m.s.History) > 6 {
			m.s.History = m.s.History[1:]
		}
	}
	m.rows = slices.Insert(slices.Delete(m.rows, a, a+1), b, blankRow(m.s.W))
}

func (m *model) down(a, b int) {
	m.rows = slices.Insert(slices.Delete(m.rows, b, b+1), a, blankRow(m.s.W))
}

func (m *model) lineDown() {
	if m.s.Y == m.s.Bottom {
		m.up(m.s.Top, m.s.Bottom, true)
	} else if m.s.Y < m.s.H-1 {
		m.s.Y++
	}
}

func (m *model) lineUp() {
	if m.s.Y == m.s.Top {
		m.down(m.s.Top, m.s.Bottom)
	} else if m.s.Y > 0 {
		m.s.Y--
	}
}

func (m *model) print(n int) {
	if m.s.X == m.s.W {
		m.s.X = 0
		m.lineDown()
	}
	m.rows[m.s.Y][m.s.X] = impl.Cell{Rune: n, Look: m.s.Look}
	m.s.X++
}

func (m *model) control(n int) {
	switch n {
	case 8:
		if m.s.X == m.s.W {
			m.s.X--
		}
		if m.s.X > 0 {
			m.s.X--
		}
	case 9:
		for m.s.X++; m.s.X%8 != 0; m.s.X++ {
		}
		if m.s.X > m.s.W-1 {
			m.s.X = m.s.W - 1
		}
	case 10:
		m.lineDown()
	case 13:
		m.s.X = 0
	}
}

func (m *model) escape(n int) {
	switch n {
	case '7':
		m.s.SaveX, m.s.SaveY = m.s.X, m.s.Y
	case '8':
		m.s.X, m.s.Y = m.s.SaveX, m.s.SaveY
	case 'D':
		m.lineDown()
	case 'E':
		m.s.X = 0
		m.lineDown()
	case 'M':
		m.lineUp()
	case 'c':
		m.s = impl.Screen{W: m.s.W, H: m.s.H, Bottom: m.s.H - 1, History: m.s.History}
		for y := range m.rows {
			m.rows[y] = blankRow(m.s.W)
		}
	}
}

func modelBounded(n, least, most int) int {
	if n < least {
		return least
	}
	if n > most {
		return most
	}
	return n
}

// erase asks of each cell whether it stands ahead of the cursor or behind it.
func (m *model) erase(screen bool, how int) {
	at := m.s.Y*m.s.W + modelBounded(m.s.X, 0, m.s.W-1)
	for y, row := range m.rows {
		for x := range row {
			place := y*m.s.W + x
			if how == 0 && place < at || how == 1 && place > at || how < 0 || how > 2 || !screen && y != m.s.Y {
				continue
			}
			row[x] = impl.Cell{Rune: 32}
		}
	}
}

func (m *model) look(n int) {
	low := m.s.Look % 16
	switch n {
	case -1, 0:
		m.s.Look = 0
	case 1:
		m.s.Look |= 64
	case 4:
		m.s.Look |= 32
	case 7:
		m.s.Look |= 16
	case 30, 31, 32, 33, 34, 35, 36, 37:
		m.s.Look += n - 29 - low
	case 39:
		m.s.Look -= low
	}
}

func (m *model) area(args []int) {
	first, second := args[0], m.s.H
	if first < 1 {
		first = 1
	}
	if len(args) > 1 && args[1] != -1 && args[1] < second {
		second = args[1]
	}
	if first < second {
		m.s.Top, m.s.Bottom = first-1, second-1
	}
	m.s.X, m.s.Y = 0, 0
}

func (m *model) lines(up bool, n int) {
	if m.s.Y < m.s.Top || m.s.Y > m.s.Bottom {
		return
	}
	for ; n > 0; n-- {
		if up {
			m.up(m.s.Y, m.s.Bottom, false)
		} else {
			m.down(m.s.Y, m.s.Bottom)
		}
	}
	m.s.X = 0
}

func (m *model) sequence(last int, args []int) {
	n, second := max(args[0], 0), 1
	if n == 0 {
		n = 1
	}
	if len(args) > 1 && args[1] > 0 {
		second = args[1]
	}
	switch last {
	case 'A':
		m.s.Y = modelBounded(m.s.Y-n, 0, m.s.H-1)
	case 'B':
		m.s.Y = modelBounded(m.s.Y+n, 0, m.s.H-1)
	case 'C':
		m.s.X = modelBounded(m.s.X+n, 0, m.s.W-1)
	case 'D':
		m.s.X = modelBounded(modelBounded(m.s.X, 0, m.s.W-1)-n, 0, m.s.W-1)
	case 'H', 'f':
		m.s.Y, m.s.X = modelBounded(n-1, 0, m.s.H-1), modelBounded(second-1, 0, m.s.W-1)
	case 'J', 'K':
		m.erase(last == 'J', modelBounded(args[0], 0, 3))
	case 'L', 'M':
		m.lines(last == 'M', modelBounded(n, 1, m.s.Bottom-m.s.Y+1))
	case 'S':
		for range modelBounded(n, 1, m.s.Bottom-m.s.Top+1) {
			m.up(m.s.Top, m.s.Bottom, true)
		}
	case 'T':
		for range modelBounded(n, 1, m.s.Bottom-m.s.Top+1) {
			m.down(m.s.Top, m.s.Bottom)
		}
	case 'm':
		for _, arg := range args {
			m.look(arg)
		}
	case 'r':
		m.area(args)
	}
}

func modelApply(s impl.Screen, list ...impl.Action) impl.Screen {
	m := modelOf(s)
	for _, a := range list {
		switch {
		case a.Kind == impl.AcPrint:
			m.print(a.N)
		case a.Kind == impl.AcControl:
			m.control(a.N)
		case a.Kind == impl.AcEscape:
			m.escape(a.N)
		case a.Kind == impl.AcOsc:
			m.s.Title = a.Text
		case !a.Private:
			m.sequence(a.N, a.Args)
		}
	}
	return m.screen()
}

func wantApplied(t *testing.T, s impl.Screen, a impl.Action) {
	t.Helper()
	was := cloneScreen(s)
	want := modelApply(s, a)
	got, code := impl.ApplyAction(s, a)
	if code != impl.OK || !sameScreens(got, want) {
		t.Fatalf("ApplyAction(%s, %+v)\n = %s, %d\nnot %s", screenShown(s), a, screenShown(got), code, screenShown(want))
	}
	if !impl.ScreenOK(got) {
		t.Fatalf("ApplyAction(%s, %+v) is not right: %s", screenShown(s), a, screenShown(got))
	}
	if !sameScreens(s, was) {
		t.Fatalf("ApplyAction(%s, %+v) changes its argument", screenShown(was), a)
	}
}

// placedScreens are a screen with every area of it, and the cursor at every place, behind the last column, too.
func placedScreens(s impl.Screen) []impl.Screen {
	var list []impl.Screen
	for top := range s.H {
		for bottom := top + 1; bottom < s.H; bottom++ {
			for y := range s.H {
				for x := range s.W + 1 {
					s.Top, s.Bottom, s.X, s.Y = top, bottom, x, y
					list = append(list, s)
				}
			}
		}
	}
	return list
}

func screenActions() []impl.Action {
	list := []impl.Action{printOf('X'), printOf(' '), printOf(0x1f600), oscOf(""), oscOf("0;name"), oscOf(strings.Repeat("t", 40))}
	for _, n := range []int{7, 8, 9, 10, 13} {
		list = append(list, controlOf(n))
	}
	for _, n := range "78DEMc" {
		list = append(list, escapeOf(int(n)))
	}
	for n := 64; n < 127; n++ {
		list = append(list, privateOf(n, -1), privateOf(n, 2, 3))
		for _, args := range [][]int{{-1}, {0}, {1}, {2}, {3}, {4}, {5}, {9}, {9999}, {-1, 3}, {2, -1}, {2, 0}, {2, 3, 1}, {9999, 9999}, {3, 2}, {2, 2}, {-1, -1}, {0, 0}} {
			list = append(list, csiOf(n, args...))
		}
	}
	return list
}

func TestEveryActionAtEveryPlace(t *testing.T) {
	t.Parallel()
	actions := screenActions()
	for _, s := range placedScreens(motleyScreen(t, 3, 4)) {
		for _, a := range actions {
			wantApplied(t, s, a)
		}
	}
	for _, size := range [][2]int{{2, 2}, {9, 3}} {
		for _, s := range placedScreens(motleyScreen(t, size[0], size[1])) {
			for _, a := range actions {
				wantApplied(t, s, a)
			}
		}
	}
}

func TestActionsOnTheGreatestScreen(t *testing.T) {
	t.Parallel()
	actions := screenActions()
	for _, area := range [][2]int{{0, 9}, {8, 9}, {3, 6}, {0, 5}} {
		s := motleyScreen(t, impl.MaxWidth, impl.MaxHeight)
		s.Top, s.Bottom = area[0], area[1]
		for _, y := range []int{0, area[0], area[1], 9} {
			for _, x := range []int{0, 15, 23, 24} {
				s.X, s.Y = x, y
				for _, a := range actions {
					wantApplied(t, s, a)
				}
			}
		}
	}
}

func TestScreenConstants(t *testing.T) {
	if got := []int{impl.MaxWidth, impl.MaxHeight, impl.MaxHistory}; !slices.Equal(got, []int{24, 10, 6}) {
		t.Error(got)
	}
}

func TestNewScreenOfEverySize(t *testing.T) {
	for w := -3; w < 40; w++ {
		for h := -3; h < 40; h++ {
			s, code := impl.NewScreen(w, h)
			if w < 2 || w > 24 || h < 2 || h > 10 {
				if code != impl.ErrRange || !sameScreens(s, impl.Screen{}) {
					t.Errorf("NewScreen(%d, %d) = %s, %d", w, h, screenShown(s), code)
				}
				continue
			}
			want := impl.Screen{W: w, H: h, Bottom: h - 1, Cells: blankRow(w * h)}
			if code != impl.OK || !sameScreens(s, want) || !impl.ScreenOK(s) {
				t.Errorf("NewScreen(%d, %d) = %s, %d", w, h, screenShown(s), code)
			}
		}
	}
	for _, n := range []int{math.MinInt, math.MaxInt, 1<<32 + 5, -1 << 32} {
		for _, size := range [][2]int{{n, 5}, {5, n}, {n, n}} {
			if s, code := impl.NewScreen(size[0], size[1]); code != impl.ErrRange || !sameScreens(s, impl.Screen{}) {
				t.Errorf("NewScreen(%d, %d) = %s, %d", size[0], size[1], screenShown(s), code)
			}
		}
	}
}

// wantFed feeds bytes in one piece, in two at every place, byte by byte, and action by action, and holds each against what is wanted.
func wantFed(t *testing.T, from impl.Screen, p impl.Parser, in string, to impl.Screen, wantParser impl.Parser) {
	t.Helper()
	check := func(how string, s impl.Screen, p impl.Parser) {
		t.Helper()
		if !sameScreens(s, to) || !sameParser(p, wantParser) || !impl.ScreenOK(s) {
			t.Fatalf("%q on %s %s:\n%s, %+v\nnot %s, %+v", in, screenShown(from), how, screenShown(s), p, screenShown(to), wantParser)
		}
	}
	piece := func(s impl.Screen, p impl.Parser, text string) (impl.Screen, impl.Parser) {
		t.Helper()
		next, parser, code := impl.FeedScreen(s, p, []byte(text))
		if code != impl.OK || !impl.ScreenOK(next) {
			t.Fatalf("FeedScreen(%s, %+v, %q): %d", screenShown(s), p, text, code)
		}
		return next, parser
	}
	s, parser := piece(from, p, in)
	check("in one piece", s, parser)
	for cut := range len(in) + 1 {
		s, parser = piece(from, p, in[:cut])
		s, parser = piece(s, parser, in[cut:])
		check(fmt.Sprint("cut at ", cut), s, parser)
	}
	s, parser = from, p
	for i := range len(in) {
		s, parser = piece(s, parser, in[i:i+1])
	}
	check("byte by byte", s, parser)
	parser, told, code := impl.ParseBytes(p, []byte(in))
	s = from
	for _, a := range told {
		if s, code = impl.ApplyAction(s, a); code != impl.OK {
			t.Fatalf("ApplyAction(%+v): %d", a, code)
		}
	}
	check("action by action", s, parser)
}

// wantShown holds bytes on a screen against texts that are written out, and against the model.
func wantShown(t *testing.T, from impl.Screen, in, rows string, x, y int, history string) impl.Screen {
	t.Helper()
	p, told := modelBytes(impl.Parser{}, []byte(in))
	wantFed(t, from, impl.Parser{}, in, modelApply(from, told...), p)
	s, _, _ := impl.FeedScreen(from, impl.Parser{}, []byte(in))
	shown := strings.Join(shownRows(t, s), "/")
	if shown != rows || s.X != x || s.Y != y || strings.Join(s.History, "/") != history {
		t.Errorf("%q: %q at %d,%d, history %q, not %q at %d,%d, history %q", in, shown, s.X, s.Y, s.History, rows, x, y, history)
	}
	return s
}

func shownRows(t *testing.T, s impl.Screen) []string {
	t.Helper()
	var list []string
	for y := range s.H {
		text, code := impl.RowText(s, y)
		if code != impl.OK {
			t.Errorf("RowText(%s, %d): %d", screenShown(s), y, code)
		}
		list = append(list, text)
	}
	return list
}

func TestPrint(t *testing.T) {
	s := newScreen(t, 4, 3)
	wantShown(t, s, "", "//", 0, 0, "")
	wantShown(t, s, "abc", "abc//", 3, 0, "")
	wantShown(t, s, "abcd", "abcd//", 4, 0, "")
	wantShown(t, s, "abcde", "abcd/e/", 1, 1, "")
	wantShown(t, s, "abcdefghijkl", "abcd/efgh/ijkl", 4, 2, "")
	wantShown(t, s, "abcdefghijklm", "efgh/ijkl/m", 1, 2, "abcd")
	wantShown(t, s, "\u00e4\u20ac\U0001f600\xff\u00e4", "\u00e4\u20ac\U0001f600\ufffd/\u00e4/", 1, 1, "")
	wantShown(t, s, "abcd\x1b[1mx", "abcd/x/", 1, 1, "")
	wantShown(t, s, "\x1b[1;2r\x1b[2;1Habcde", "abcd/e/", 1, 1, "")
	wantShown(t, s, "x\x1b[2;3r\x1b[3;1Habcde", "x/abcd/e", 1, 2, "")
	wantShown(t, s, "\x1b[1;2r\x1b[3;1Habcde", "//ebcd", 1, 2, "")
}

func TestControls(t *testing.T) {
	s := lettersScreen(t, 5, 3)
	const rows = "abcde/fghij/klmno"
	for _, c := range []struct{ x, back, tab int }{{0, 0, 4}, {1, 0, 4}, {3, 2, 4}, {4, 3, 4}, {5, 3, 4}} {
		s.X = c.x
		wantShown(t, s, "\b", rows, c.back, 0, "")
		wantShown(t, s, "\t", rows, c.tab, 0, "")
		wantShown(t, s, "\r", rows, 0, 0, "")
		wantShown(t, s, "\n", rows, c.x, 1, "")
		wantShown(t, s, "\n\n\n", "fghij/klmno/", c.x, 2, "abcde")
		wantShown(t, s, "\a", rows, c.x, 0, "")
	}
	wide := newScreen(t, 24, 2)
	for x := range 25 {
		wide.X = x
		wantShown(t, wide, "\t", "/", min(23, []int{8, 16, 24, 32}[x/8]), 0, "")
	}
	narrow := newScreen(t, 8, 2)
	narrow.X = 8
	wantShown(t, narrow, "\t", "/", 7, 0, "")
}

func TestLinesDownAndUp(t *testing.T) {
	s := lettersScreen(t, 2, 5)
	const rows = "ab/cd/ef/gh/ij"
	for _, c := range []struct {
		top, bottom, y int
		down           string
		downY          int
		up             string
		upY            int
		history        string
	}{
		{0, 4, 0, rows, 1, "/ab/cd/ef/gh", 0, ""}, {0, 4, 4, "cd/ef/gh/ij/", 4, rows, 3, "ab"},
		{1, 3, 0, rows, 1, rows, 0, ""}, {1, 3, 1, rows, 2, "ab//cd/ef/ij", 1, ""}, {1, 3, 3, "ab/ef/gh//ij", 3, rows, 2, ""}, {1, 3, 4, rows, 4, rows, 3, ""},
		{0, 1, 1, "cd//ef/gh/ij", 1, rows, 0, "ab"}, {0, 1, 2, rows, 3, rows, 1, ""}, {0, 1, 4, rows, 4, rows, 3, ""},
		{3, 4, 0, rows, 1, rows, 0, ""}, {3, 4, 2, rows, 3, rows, 1, ""}, {3, 4, 3, rows, 4, "ab/cd/ef//gh", 3, ""}, {3, 4, 4, "ab/cd/ef/ij/", 4, rows, 3, ""},
	} {
		s.Top, s.Bottom, s.Y = c.top, c.bottom, c.y
		for x := range 3 {
			s.X = x
			wantShown(t, s, "\n", c.down, x, c.downY, c.history)
			wantShown(t, s, "\x1bD", c.down, x, c.downY, c.history)
			wantShown(t, s, "\x1bE", c.down, 0, c.downY, c.history)
			wantShown(t, s, "\x1bM", c.up, x, c.upY, "")
		}
	}
}

func TestSavedCursor(t *testing.T) {
	s := newScreen(t, 4, 3)
	wantShown(t, s, "abcd\x1b7\x1b[3;1H\x1b8", "abcd//", 4, 0, "")
	wantShown(t, s, "abcd\x1b7\x1b[3;1H\x1b8e", "abcd/e/", 1, 1, "")
	wantShown(t, s, "ab\x1b8c", "cb//", 1, 0, "")
	wantShown(t, s, "\x1b[2;2H\x1b7\x1b[3;4H\x1b8\x1b8x", "/ x/", 2, 1, "")
	got := wantShown(t, s, "\x1b[3;2H\x1b7\x1b[H", "//", 0, 0, "")
	if got.SaveX != 1 || got.SaveY != 2 {
		t.Error("saved", got.SaveX, got.SaveY)
	}
	wantShown(t, s, "\x1b[1;5m\x1b7\x1b[0mx\x1b8\x1b[2;3r\x1b8y", "y//", 1, 0, "")
}

func TestBeginningAnew(t *testing.T) {
	for _, at := range [][2]int{{0, 0}, {3, 2}, {4, 1}} {
		s := motleyScreen(t, 4, 3)
		s.X, s.Y, s.Top, s.Bottom = at[0], at[1], 1, 2
		want := newScreen(t, 4, 3)
		want.History = s.History
		got, code := impl.ApplyAction(s, escapeOf('c'))
		if code != impl.OK || !sameScreens(got, want) {
			t.Errorf("`c`: %s, %d", screenShown(got), code)
		}
	}
	wantShown(t, newScreen(t, 2, 2), "a\r\nb\r\nc\r\nd\x1bce", "e/", 1, 0, "a/b")
}

func TestMoves(t *testing.T) {
	s := lettersScreen(t, 5, 4)
	const rows = "abcde/fghij/klmno/pqrst"
	for _, c := range []struct {
		x, y         int
		in           string
		wantX, wantY int
	}{
		{2, 2, "\x1b[A", 2, 1}, {2, 2, "\x1b[0A", 2, 1}, {2, 2, "\x1b[1A", 2, 1}, {2, 2, "\x1b[2A", 2, 0}, {2, 2, "\x1b[3A", 2, 0}, {5, 2, "\x1b[9999A", 5, 0}, {5, 0, "\x1b[A", 5, 0},
		{2, 1, "\x1b[B", 2, 2}, {2, 1, "\x1b[0B", 2, 2}, {2, 1, "\x1b[1B", 2, 2}, {2, 1, "\x1b[2B", 2, 3}, {2, 1, "\x1b[3B", 2, 3}, {5, 1, "\x1b[9999B", 5, 3}, {5, 3, "\x1b[B", 5, 3},
		{1, 1, "\x1b[C", 2, 1}, {1, 1, "\x1b[0C", 2, 1}, {1, 1, "\x1b[3C", 4, 1}, {1, 1, "\x1b[4C", 4, 1}, {1, 1, "\x1b[9999C", 4, 1}, {4, 1, "\x1b[C", 4, 1}, {5, 1, "\x1b[C", 4, 1}, {5, 1, "\x1b[9999C", 4, 1},
		{3, 1, "\x1b[D", 2, 1}, {3, 1, "\x1b[0D", 2, 1}, {3, 1, "\x1b[3D", 0, 1}, {3, 1, "\x1b[4D", 0, 1}, {3, 1, "\x1b[9999D", 0, 1}, {0, 1, "\x1b[D", 0, 1}, {4, 1, "\x1b[D", 3, 1}, {5, 1, "\x1b[D", 3, 1}, {5, 1, "\x1b[4D", 0, 1},
		{5, 3, "\x1b[H", 0, 0}, {5, 3, "\x1b[f", 0, 0}, {5, 3, "\x1b[2H", 0, 1}, {5, 3, "\x1b[;3H", 2, 0}, {5, 3, "\x1b[2;3f", 2, 1}, {0, 0, "\x1b[4;5H", 4, 3}, {0, 0, "\x1b[5;6H", 4, 3}, {0, 0, "\x1b[9999;9999f", 4, 3}, {5, 3, "\x1b[0;0H", 0, 0}, {5, 3, "\x1b[3;H", 0, 2}, {5, 3, "\x1b[1;1;9H", 0, 0},
		{5, 2, "\x1b[?A\x1b[?2;2H\x1b[?2J\x1b[?K\x1b[?M\x1b[?S\x1b[?1m\x1b[?2;3r", 5, 2}, {5, 2, "\x1b[2G\x1b[2d\x1b[P\x1b[@\x1b[X\x1b[E\x1b[s\x1b[u\x1b[h\x1b[l\x1b[a\x1b[j\x1b[k\x1b[F\x1b[I\x1b[N\x1b[R\x1b[U\x1b[~\x1b[c\x1b[n", 5, 2},
	} {
		for _, area := range [][2]int{{0, 3}, {1, 2}, {0, 1}, {2, 3}} {
			s.X, s.Y, s.Top, s.Bottom = c.x, c.y, area[0], area[1]
			got := wantShown(t, s, c.in, rows, c.wantX, c.wantY, "")
			if got.Top != s.Top || got.Bottom != s.Bottom || got.Look != 0 {
				t.Errorf("%q: %s", c.in, screenShown(got))
			}
		}
	}
}

func TestErase(t *testing.T) {
	s := lettersScreen(t, 4, 3)
	for _, c := range []struct {
		x    int
		in   string
		want string
	}{
		{0, "\x1b[K", "abcd//ijkl"}, {2, "\x1b[K", "abcd/ef/ijkl"}, {2, "\x1b[0K", "abcd/ef/ijkl"}, {3, "\x1b[K", "abcd/efg/ijkl"}, {4, "\x1b[K", "abcd/efg/ijkl"},
		{0, "\x1b[1K", "abcd/ fgh/ijkl"}, {2, "\x1b[1K", "abcd/   h/ijkl"}, {3, "\x1b[1K", "abcd//ijkl"}, {4, "\x1b[1K", "abcd//ijkl"},
		{0, "\x1b[2K", "abcd//ijkl"}, {4, "\x1b[2K", "abcd//ijkl"}, {2, "\x1b[3K", "abcd/efgh/ijkl"}, {2, "\x1b[9999K", "abcd/efgh/ijkl"},
		{0, "\x1b[J", "abcd//"}, {2, "\x1b[J", "abcd/ef/"}, {2, "\x1b[0J", "abcd/ef/"}, {3, "\x1b[J", "abcd/efg/"}, {4, "\x1b[J", "abcd/efg/"},
		{0, "\x1b[1J", "/ fgh/ijkl"}, {2, "\x1b[1J", "/   h/ijkl"}, {3, "\x1b[1J", "//ijkl"}, {4, "\x1b[1J", "//ijkl"},
		{0, "\x1b[2J", "//"}, {4, "\x1b[2J", "//"}, {2, "\x1b[3J", "abcd/efgh/ijkl"}, {2, "\x1b[9999J", "abcd/efgh/ijkl"}, {2, "\x1b[3;0J", "abcd/efgh/ijkl"}, {2, "\x1b[;2J", "abcd/ef/"},
	} {
		for _, area := range [][2]int{{0, 2}, {0, 1}, {1, 2}} {
			s.X, s.Y, s.Top, s.Bottom = c.x, 1, area[0], area[1]
			wantShown(t, s, c.in, c.want, c.x, 1, "")
		}
	}
}

func TestErasedCellsHaveNoLook(t *testing.T) {
	for _, in := range []string{"\x1b[2J", "\x1b[H\x1b[J", "\x1b[3;4H\x1b[1J", "\x1b[9S", "\x1b[9T", "\x1b[H\x1b[9L", "\x1b[H\x1b[9M"} {
		s := motleyScreen(t, 4, 3)
		got, _, code := impl.FeedScreen(s, impl.Parser{}, []byte(in))
		if code != impl.OK || !slices.Equal(got.Cells, blankRow(12)) || got.Look != s.Look {
			t.Errorf("%q leaves %v, look %d, %d", in, got.Cells, got.Look, code)
		}
	}
}

func TestLinesPutInAndTakenOut(t *testing.T) {
	s := lettersScreen(t, 2, 5)
	const rows = "ab/cd/ef/gh/ij"
	for _, c := range []struct {
		top, bottom, y int
		in, want       string
		moved          bool
	}{
		{0, 4, 0, "\x1b[L", "/ab/cd/ef/gh", true}, {0, 4, 1, "\x1b[2L", "ab///cd/ef", true}, {0, 4, 4, "\x1b[L", "ab/cd/ef/gh/", true}, {0, 4, 3, "\x1b[9L", "ab/cd/ef//", true}, {0, 4, 0, "\x1b[9999L", "////", true},
		{0, 4, 0, "\x1b[M", "cd/ef/gh/ij/", true}, {0, 4, 1, "\x1b[2M", "ab/gh/ij//", true}, {0, 4, 4, "\x1b[0M", "ab/cd/ef/gh/", true}, {0, 4, 3, "\x1b[3M", "ab/cd/ef//", true}, {0, 4, 0, "\x1b[9999M", "////", true},
		{1, 3, 0, "\x1b[L", rows, false}, {1, 3, 4, "\x1b[L", rows, false}, {1, 3, 0, "\x1b[M", rows, false}, {1, 3, 4, "\x1b[2M", rows, false},
		{1, 3, 1, "\x1b[L", "ab//cd/ef/ij", true}, {1, 3, 2, "\x1b[L", "ab/cd//ef/ij", true}, {1, 3, 3, "\x1b[L", "ab/cd/ef//ij", true}, {1, 3, 1, "\x1b[3L", "ab////ij", true}, {1, 3, 1, "\x1b[4L", "ab////ij", true},
		{1, 3, 1, "\x1b[M", "ab/ef/gh//ij", true}, {1, 3, 2, "\x1b[M", "ab/cd/gh//ij", true}, {1, 3, 3, "\x1b[M", "ab/cd/ef//ij", true}, {1, 3, 1, "\x1b[9999M", "ab////ij", true},
		{0, 1, 0, "\x1b[M", "cd//ef/gh/ij", true}, {0, 1, 2, "\x1b[M", rows, false}, {3, 4, 2, "\x1b[L", rows, false}, {3, 4, 3, "\x1b[L", "ab/cd/ef//gh", true},
	} {
		s.Top, s.Bottom, s.Y = c.top, c.bottom, c.y
		for x := range 3 {
			s.X = x
			wantX := x
			if c.moved {
				wantX = 0
			}
			wantShown(t, s, c.in, c.want, wantX, c.y, "")
		}
	}
}

func TestAreaScrolls(t *testing.T) {
	s := lettersScreen(t, 2, 4)
	for _, c := range []struct {
		top, bottom       int
		in, want, history string
	}{
		{0, 3, "\x1b[S", "cd/ef/gh/", "ab"}, {0, 3, "\x1b[0S", "cd/ef/gh/", "ab"}, {0, 3, "\x1b[3S", "gh///", "ab/cd/ef"}, {0, 3, "\x1b[4S", "///", "ab/cd/ef/gh"}, {0, 3, "\x1b[5S", "///", "ab/cd/ef/gh"}, {0, 3, "\x1b[9999S", "///", "ab/cd/ef/gh"},
		{0, 1, "\x1b[S", "cd//ef/gh", "ab"}, {0, 1, "\x1b[9999S", "//ef/gh", "ab/cd"}, {1, 2, "\x1b[S", "ab/ef//gh", ""}, {1, 3, "\x1b[2S", "ab/gh//", ""}, {1, 3, "\x1b[9S", "ab///", ""},
		{0, 3, "\x1b[T", "/ab/cd/ef", ""}, {0, 3, "\x1b[0T", "/ab/cd/ef", ""}, {0, 3, "\x1b[3T", "///ab", ""}, {0, 3, "\x1b[4T", "///", ""}, {0, 3, "\x1b[9999T", "///", ""}, {1, 2, "\x1b[T", "ab//cd/gh", ""}, {1, 2, "\x1b[2T", "ab///gh", ""}, {1, 3, "\x1b[9T", "ab///", ""}, {0, 1, "\x1b[T", "/ab/ef/gh", ""},
	} {
		for y := range 4 {
			for x := range 3 {
				s.Top, s.Bottom, s.X, s.Y = c.top, c.bottom, x, y
				wantShown(t, s, c.in, c.want, x, y, c.history)
			}
		}
	}
}

func TestHistory(t *testing.T) {
	s := newScreen(t, 4, 2)
	wantShown(t, s, "1\r\n2\r\n3\r\n4\r\n5\r\n6\r\n7", "6/7", 1, 1, "1/2/3/4/5")
	wantShown(t, s, "1\r\n2\r\n3\r\n4\r\n5\r\n6\r\n7\r\n8", "7/8", 1, 1, "1/2/3/4/5/6")
	wantShown(t, s, "1\r\n2\r\n3\r\n4\r\n5\r\n6\r\n7\r\n8\r\n9", "8/9", 1, 1, "2/3/4/5/6/7")
	wantShown(t, s, "a b \r\n\n\n", "/", 0, 1, "a b/")
	full := lettersScreen(t, 2, 10)
	wantShown(t, full, "\x1b[9999S", "/////////", 0, 0, "ij/kl/mn/op/qr/st")
	wantShown(t, full, "\x1b[7S", "op/qr/st///////", 0, 0, "cd/ef/gh/ij/kl/mn")
	rows := lettersScreen(t, 2, 4)
	rows.History = []string{"1", "2", "3", "4", "5", "6"}
	wantShown(t, rows, "\x1b[H\x1b[9M\x1b[T\x1bM\x1b[L\x1b[2J\x1b[2;3r\x1b[9S\x1b[3;1H\n\n", "///", 0, 2, "1/2/3/4/5/6")
	wantShown(t, rows, "\x1b[S", "cd/ef/gh/", 0, 0, "2/3/4/5/6/ab")
	wantShown(t, rows, "\x1b[3S", "gh///", 0, 0, "4/5/6/ab/cd/ef")
	wide := newScreen(t, 24, 2)
	long := strings.Repeat("\U0001f600", 24)
	wantShown(t, wide, long+"\r\n\n", "/", 0, 1, long)
}

func TestLooks(t *testing.T) {
	for _, c := range []struct {
		from int
		in   string
		want int
	}{
		{127, "\x1b[m", 0}, {127, "\x1b[0m", 0}, {0, "\x1b[1m", 64}, {0, "\x1b[4m", 32}, {0, "\x1b[7m", 16}, {15, "\x1b[1;4;7m", 127}, {64, "\x1b[1m", 64}, {112, "\x1b[4;7m", 112},
		{0, "\x1b[29m", 0}, {0, "\x1b[30m", 1}, {0, "\x1b[31m", 2}, {0, "\x1b[36m", 7}, {0, "\x1b[37m", 8}, {5, "\x1b[38m", 5}, {127, "\x1b[39m", 112}, {127, "\x1b[40m", 127}, {127, "\x1b[29m", 127}, {127, "\x1b[30m", 113}, {127, "\x1b[37m", 120}, {8, "\x1b[30m", 1},
		{0, "\x1b[1;31m", 66}, {0, "\x1b[31;1m", 66}, {127, "\x1b[;1m", 64}, {127, "\x1b[1;m", 0}, {127, "\x1b[1;0;4m", 32}, {0, "\x1b[1;2;3;4;5;6;7;8m", 112}, {127, "\x1b[0;30;31;32;33;34;35;36m", 7}, {0, "\x1b[1;29;30;38;39;40;4;7m", 112},
		{77, "\x1b[2m", 77}, {77, "\x1b[3;5;6;8;9;10;22;24m", 77}, {77, "\x1b[27;48;49;90;97;100;9999m", 77}, {77, "\x1b[?0m", 77},
	} {
		s := newScreen(t, 3, 2)
		s.Look = c.from
		got := wantShown(t, s, c.in, "/", 0, 0, "")
		if got.Look != c.want || !slices.Equal(got.Cells, s.Cells) {
			t.Errorf("%q behind look %d: %d, not %d", c.in, c.from, got.Look, c.want)
		}
		got, _ = impl.ApplyAction(got, printOf('x'))
		if got.Cells[0] != (impl.Cell{Rune: 'x', Look: c.want}) {
			t.Errorf("%q behind look %d: printed %v", c.in, c.from, got.Cells[0])
		}
	}
}

func TestEveryLookNumber(t *testing.T) {
	s := newScreen(t, 2, 2)
	for n := -1; n <= 9999; n++ {
		for _, look := range []int{0, 85, 127} {
			s.Look = look
			m := modelOf(s)
			m.look(n)
			if got, code := impl.ApplyAction(s, csiOf('m', n)); code != impl.OK || got.Look != m.s.Look {
				t.Fatalf("`m` of %d behind look %d: %d, %d", n, look, got.Look, code)
			}
		}
	}
}

func TestAreas(t *testing.T) {
	s := lettersScreen(t, 3, 5)
	for _, c := range []struct {
		in          string
		top, bottom int
	}{
		{"\x1b[r", 0, 4}, {"\x1b[0r", 0, 4}, {"\x1b[;r", 0, 4}, {"\x1b[2r", 1, 4}, {"\x1b[2;r", 1, 4}, {"\x1b[;3r", 0, 2}, {"\x1b[0;3r", 0, 2}, {"\x1b[2;4r", 1, 3}, {"\x1b[1;2r", 0, 1}, {"\x1b[4;5r", 3, 4}, {"\x1b[4;6r", 3, 4}, {"\x1b[4;9999r", 3, 4},
		{"\x1b[1;5r", 0, 4}, {"\x1b[2;3;9r", 1, 2}, {"\x1b[3;3r", 1, 2}, {"\x1b[4;3r", 1, 2}, {"\x1b[5r", 1, 2}, {"\x1b[5;5r", 1, 2}, {"\x1b[5;9999r", 1, 2}, {"\x1b[6;9999r", 1, 2}, {"\x1b[9999;9999r", 1, 2}, {"\x1b[9999;1r", 1, 2}, {"\x1b[1;1r", 1, 2}, {"\x1b[;1r", 1, 2}, {"\x1b[1;0r", 1, 2}, {"\x1b[0;0r", 1, 2}, {"\x1b[2;0r", 1, 2},
	} {
		for _, at := range [][2]int{{0, 0}, {2, 4}, {3, 2}} {
			s.X, s.Y, s.Top, s.Bottom = at[0], at[1], 1, 2
			got := wantShown(t, s, c.in, "abc/def/ghi/jkl/mno", 0, 0, "")
			if got.Top != c.top || got.Bottom != c.bottom {
				t.Errorf("%q: rows %d to %d, not %d to %d", c.in, got.Top, got.Bottom, c.top, c.bottom)
			}
		}
	}
}

func TestScreenTitles(t *testing.T) {
	s := motleyScreen(t, 3, 2)
	for _, title := range append(someTitles(), "0;name") {
		want := s
		want.Title = title
		for _, end := range []string{"\a", "\x1b\\"} {
			if got, _, code := impl.FeedScreen(s, impl.Parser{}, []byte("\x1b]"+title+end)); code != impl.OK || !sameScreens(got, want) {
				t.Errorf("title %q: %s, %d", title, screenShown(got), code)
			}
		}
		if got, code := impl.ApplyAction(s, oscOf(title)); code != impl.OK || !sameScreens(got, want) {
			t.Errorf("title %q: %s, %d", title, screenShown(got), code)
		}
	}
}

// drawnOutput is drawn of what does something on a screen.
func drawnOutput(draw *rand.Rand, n int) string {
	var text strings.Builder
	for range n {
		switch draw.Intn(6) {
		case 0:
			text.WriteString([]string{"\n", "\r", "\b", "\t", "\a", "\r\n", "\x1bD", "\x1bE", "\x1bM", "\x1b7", "\x1b8", "\x1bc"}[draw.Intn(11+draw.Intn(2))])
		case 1, 2:
			text.WriteString("\x1b[")
			for i := range draw.Intn(3) {
				text.WriteString([]string{"", ";"}[i] + []string{"", "0", "1", "2", "3", "5", "9", "31", "9999"}[draw.Intn(9)])
			}
			text.WriteByte("ABCDHfJKLMSTmrrX"[draw.Intn(16)])
		case 3:
			text.WriteString([]string{"\u00e4", "\u20ac", "\U0001f600", "\xe2\x82", "\x1b]t\a", "\x1b[?2J", "  "}[draw.Intn(7)])
		default:
			text.WriteString("word"[:1+draw.Intn(4)])
		}
	}
	return text.String()
}

func TestDrawnOutputInPieces(t *testing.T) {
	draw := rand.New(rand.NewSource(5))
	starts := someParsers()
	for range 1500 {
		from := motleyScreen(t, 2+draw.Intn(8), 2+draw.Intn(5))
		places := placedScreens(from)
		from = places[draw.Intn(len(places))]
		p := starts[draw.Intn(len(starts))]
		in := drawnOutput(draw, draw.Intn(12))
		to, told := modelBytes(p, []byte(in))
		wantFed(t, from, p, in, modelApply(from, told...), to)
	}
}

func TestLongOutput(t *testing.T) {
	draw := rand.New(rand.NewSource(6))
	for _, size := range [][2]int{{2, 2}, {24, 10}, {7, 5}, {80 / 4, 9}} {
		in := []byte(drawnOutput(draw, 20000))[:30000]
		from := newScreen(t, size[0], size[1])
		p, told := modelBytes(impl.Parser{}, in)
		want := modelApply(from, told...)
		got, parser, code := impl.FeedScreen(from, impl.Parser{}, in)
		if code != impl.OK || !sameScreens(got, want) || !sameParser(parser, p) || !impl.ScreenOK(got) {
			t.Errorf("long output on %v: %s, %d, not %s", size, screenShown(got), code, screenShown(want))
		}
	}
}

func TestFeedScreenOfMaxTextAndOneMore(t *testing.T) {
	from := newScreen(t, 24, 10)
	for _, text := range []string{"a", "\n", "\xff", "\x1b[9S", "\x1b[T", "\x1b"} {
		in := []byte(strings.Repeat(text, impl.MaxText+1))[:impl.MaxText+1]
		copy(in[impl.MaxText-7:], "\x1b[m end")
		p, told := modelBytes(impl.Parser{}, in[:impl.MaxText])
		want := modelApply(from, told...)
		if s, parser, code := impl.FeedScreen(from, impl.Parser{}, in[:impl.MaxText]); code != impl.OK || !sameScreens(s, want) || !sameParser(parser, p) {
			t.Errorf("MaxText bytes of %q: %s, %+v, %d", text, screenShown(s), parser, code)
		}
		for _, s := range []impl.Screen{from, {}} {
			for _, p := range []impl.Parser{{}, {State: 7}} {
				if s, parser, code := impl.FeedScreen(s, p, in); code != impl.ErrLong || !sameScreens(s, impl.Screen{}) || !sameParser(parser, impl.Parser{}) {
					t.Errorf("one more byte of %q: %s, %+v, %d", text, screenShown(s), parser, code)
				}
			}
		}
	}
	if s, code := impl.ReadScreen(make([]byte, impl.MaxText)); code != impl.ErrForm || !sameScreens(s, impl.Screen{}) {
		t.Error("ReadScreen of MaxText bytes", code)
	}
	if s, code := impl.ReadScreen(make([]byte, impl.MaxText+1)); code != impl.ErrLong || !sameScreens(s, impl.Screen{}) {
		t.Error("ReadScreen of one more", code)
	}
}

func modelResize(s impl.Screen, w, h int) impl.Screen {
	next := impl.Screen{W: w, H: h, Look: s.Look, Title: s.Title, History: s.History, Bottom: h - 1}
	next.X, next.SaveX = modelBounded(s.X, 0, w), modelBounded(s.SaveX, 0, w)
	next.Y, next.SaveY = modelBounded(s.Y, 0, h-1), modelBounded(s.SaveY, 0, h-1)
	for y := range h {
		for x := range w {
			cell := impl.Cell{Rune: 32}
			if x < s.W && y < s.H {
				cell = s.Cells[y*s.W+x]
			}
			next.Cells = append(next.Cells, cell)
		}
	}
	return next
}

func TestResizeToEverySize(t *testing.T) {
	for _, size := range [][2]int{{2, 2}, {5, 4}, {24, 10}, {23, 9}} {
		from := motleyScreen(t, size[0], size[1])
		for _, at := range [][4]int{{0, 0, size[0], 0}, {size[0], size[1] - 1, 1, 1}, {size[0] - 1, 1, size[0] - 1, size[1] - 1}} {
			from.X, from.Y, from.SaveX, from.SaveY = at[0], at[1], at[2], at[3]
			for _, area := range [][2]int{{0, size[1] - 1}, {size[1] - 2, size[1] - 1}, {0, 1}} {
				from.Top, from.Bottom = area[0], area[1]
				wantResized(t, from)
			}
		}
	}
}

func wantResized(t *testing.T, from impl.Screen) {
	t.Helper()
	for w := -1; w < 27; w++ {
		for h := -1; h < 13; h++ {
			got, code := impl.ResizeScreen(from, w, h)
			if w < 2 || w > 24 || h < 2 || h > 10 {
				if code != impl.ErrRange || !sameScreens(got, impl.Screen{}) {
					t.Errorf("ResizeScreen to %d by %d: %s, %d", w, h, screenShown(got), code)
				}
				continue
			}
			want := modelResize(from, w, h)
			if code != impl.OK || !sameScreens(got, want) || !impl.ScreenOK(got) {
				t.Errorf("ResizeScreen(%s) to %d by %d:\n%s, %d\nnot %s", screenShown(from), w, h, screenShown(got), code, screenShown(want))
			}
			if w >= from.W && h >= from.H {
				wantBack(t, from, got)
			}
		}
	}
}

// wantBack shrinks a screen that grew: all but the area is there again.
func wantBack(t *testing.T, from, grown impl.Screen) {
	t.Helper()
	back, code := impl.ResizeScreen(grown, from.W, from.H)
	from.Top, from.Bottom = 0, from.H-1
	if same, fault := impl.SameScreen(back, from); code != impl.OK || fault != impl.OK || !same || !sameScreens(back, from) {
		t.Errorf("%s, grown to %d by %d, shrinks back to %s", screenShown(from), grown.W, grown.H, screenShown(back))
	}
}

func TestResizeShown(t *testing.T) {
	s := lettersScreen(t, 4, 3)
	s.X, s.Y, s.SaveX, s.SaveY, s.Top, s.Bottom, s.History = 4, 2, 4, 1, 1, 2, []string{"kept"}
	small, code := impl.ResizeScreen(s, 2, 2)
	if rows := strings.Join(shownRows(t, small), "/"); code != impl.OK || rows != "ab/ef" || small.X != 2 || small.Y != 1 || small.SaveX != 2 || small.SaveY != 1 || small.Top != 0 || small.Bottom != 1 || len(small.History) != 1 {
		t.Error("to lesser", screenShown(small), code)
	}
	wantShown(t, small, "x", "ef/x", 1, 1, "kept/ab")
	great, code := impl.ResizeScreen(s, 6, 4)
	if rows := strings.Join(shownRows(t, great), "/"); code != impl.OK || rows != "abcd/efgh/ijkl/" || great.X != 4 || great.Y != 2 || great.SaveX != 4 || great.SaveY != 1 || great.Top != 0 || great.Bottom != 3 {
		t.Error("to greater", screenShown(great), code)
	}
	wantShown(t, great, "x", "abcd/efgh/ijklx/", 5, 2, "kept")
	for _, n := range []int{math.MinInt, math.MaxInt, 1<<32 + 5} {
		for _, size := range [][2]int{{n, 5}, {5, n}} {
			if got, code := impl.ResizeScreen(s, size[0], size[1]); code != impl.ErrRange || !sameScreens(got, impl.Screen{}) {
				t.Error("ResizeScreen", size, screenShown(got), code)
			}
		}
	}
}

func TestRowTexts(t *testing.T) {
	for _, c := range []struct {
		runes []int
		want  string
	}{
		{nil, ""}, {[]int{'a'}, "a"}, {[]int{' ', 'a'}, " a"}, {[]int{'a', ' ', 'b', ' '}, "a b"}, {[]int{' ', ' ', ' ', ' ', ' '}, ""}, {[]int{'a', ' ', ' ', ' ', 'b'}, "a   b"},
		{[]int{0x7e, 0xe4, 0x20ac, 0x1f600}, "~\u00e4\u20ac\U0001f600"}, {[]int{0x80, 0x7ff, 0x800, 0xffff, 0x10000}, "\u0080\u07ff\u0800\uffff\U00010000"}, {[]int{0xa0, 0x3000}, "\u00a0\u3000"}, {[]int{0x10ffff, ' ', 0xfffd, ' ', ' '}, "\U0010ffff \ufffd"},
	} {
		for y := range 3 {
			s := newScreen(t, 5, 3)
			for x, n := range c.runes {
				s.Cells[5*y+x] = impl.Cell{Rune: n, Look: 127 - x}
			}
			s.X, s.Y = 5, 2
			want := make([]string, 3)
			want[y] = c.want
			if got := shownRows(t, s); !slices.Equal(got, want) {
				t.Errorf("runes %v: %q, not %q", c.runes, got, want)
			}
		}
	}
}

func TestRowCells(t *testing.T) {
	s := newScreen(t, 3, 2)
	s.Cells[0], s.Cells[2], s.Cells[3], s.Cells[4] = impl.Cell{Rune: 'a', Look: 1}, impl.Cell{Rune: 0x20ac, Look: 127}, impl.Cell{Rune: 0x10ffff}, impl.Cell{Rune: ' ', Look: 16}
	for y, want := range []string{"\x00\x00a\x01\x00\x00 \x00\x00\x20\xac\x7f", "\x10\xff\xff\x00\x00\x00 \x10\x00\x00 \x00"} {
		if got, code := impl.RowCells(s, y); got != want || code != impl.OK {
			t.Errorf("RowCells of %d = %q, %d, not %q", y, got, code, want)
		}
	}
}

func TestRowsThatAreNone(t *testing.T) {
	for _, h := range []int{2, 3, 10} {
		s := lettersScreen(t, 5, h)
		for _, y := range []int{math.MinInt, -1 << 32, -2, -1, h, h + 1, 1 << 32, math.MaxInt} {
			text, code := impl.RowText(s, y)
			cells, fault := impl.RowCells(s, y)
			if text != "" || cells != "" || code != impl.ErrRange || fault != impl.ErrRange {
				t.Errorf("row %d of %d: %q, %d, %q, %d", y, h, text, code, cells, fault)
			}
		}
	}
}

// modelScreenBytes writes a screen out without the program.
func modelScreenBytes(s impl.Screen) []byte {
	field := func(b []byte, text string) []byte {
		return append(binary.BigEndian.AppendUint16(b, uint16(len(text))), text...)
	}
	numbers := ""
	for _, n := range []int{s.W, s.H, s.X, s.Y, s.Look, s.Top, s.Bottom, s.SaveX, s.SaveY} {
		numbers += string(binary.BigEndian.AppendUint32(nil, uint32(n+1))[1:])
	}
	history := []byte{byte(len(s.History))}
	for _, text := range s.History {
		history = field(history, text)
	}
	b := field(field(field([]byte{byte(3 + s.H)}, numbers), s.Title), string(history))
	for y := range s.H {
		cells := ""
		for _, cell := range s.Cells[y*s.W : (y+1)*s.W] {
			cells += string(binary.BigEndian.AppendUint32(nil, uint32(cell.Rune<<8|cell.Look)))
		}
		b = field(b, cells)
	}
	return b
}

func someScreens(t *testing.T) []impl.Screen {
	var list []impl.Screen
	for _, size := range [][2]int{{2, 2}, {3, 2}, {2, 3}, {24, 10}, {23, 9}, {24, 2}, {2, 10}} {
		s := newScreen(t, size[0], size[1])
		list = append(list, s)
		s.History = []string{}
		list = append(list, s)
		s = motleyScreen(t, size[0], size[1])
		list = append(list, s)
		s.X, s.Y, s.Top, s.Look, s.Title = s.W, s.H-1, s.H-2, 127, strings.Repeat("~", 40)
		s.History = slices.Repeat([]string{strings.Repeat("\xff", 96)}, 6)
		list = append(list, s)
	}
	return list
}

func TestScreenBytes(t *testing.T) {
	for _, s := range someScreens(t) {
		b, code := impl.ScreenBytes(s)
		if code != impl.OK || !bytes.Equal(b, modelScreenBytes(s)) {
			t.Errorf("ScreenBytes(%s) = %q, %d", screenShown(s), b, code)
		}
		back, code := impl.ReadScreen(b)
		if code != impl.OK || !sameScreens(back, s) {
			t.Errorf("ReadScreen: %s, %d, not %s", screenShown(back), code, screenShown(s))
		}
		if same, code := impl.SameScreen(s, back); !same || code != impl.OK {
			t.Errorf("SameScreen(%s, %s) = %v, %d", screenShown(s), screenShown(back), same, code)
		}
	}
	two := newScreen(t, 2, 2)
	two.Title, two.X, two.Look, two.SaveY, two.History, two.Cells[1] = "t", 2, 66, 1, []string{"x", ""}, impl.Cell{Rune: 0x1f600, Look: 5}
	want := "\x05\x00\x1b\x00\x00\x03\x00\x00\x03\x00\x00\x03\x00\x00\x01\x00\x00\x43\x00\x00\x01\x00\x00\x02\x00\x00\x01\x00\x00\x02" +
		"\x00\x01t\x00\x06\x02\x00\x01x\x00\x00\x00\x08\x00\x00\x20\x00\x01\xf6\x00\x05\x00\x08\x00\x00\x20\x00\x00\x00\x20\x00"
	if b, code := impl.ScreenBytes(two); string(b) != want || code != impl.OK {
		t.Errorf("ScreenBytes = %q, %d, not %q", b, code, want)
	}
}

// modelScreenOK asks the chapter's bounds one by one.
func modelScreenOK(s impl.Screen) bool {
	in := func(n, least, most int) bool { return n >= least && n <= most }
	if !in(s.W, 2, 24) || !in(s.H, 2, 10) || !in(s.X, 0, s.W) || !in(s.SaveX, 0, s.W) || !in(s.Y, 0, s.H-1) || !in(s.SaveY, 0, s.H-1) {
		return false
	}
	if !in(s.Top, 0, s.H-2) || !in(s.Bottom, s.Top+1, s.H-1) || !in(s.Look, 0, 127) || len(s.Title) > 40 || len(s.History) > 6 || len(s.Cells) != s.W*s.H {
		return false
	}
	for i := range len(s.Title) {
		if !in(int(s.Title[i]), 32, 126) {
			return false
		}
	}
	for _, text := range s.History {
		if len(text) > 96 {
			return false
		}
	}
	for _, cell := range s.Cells {
		if cell.Rune < 32 || cell.Rune == 127 || cell.Rune > 0x10ffff || in(cell.Rune, 0xd800, 0xdfff) || !in(cell.Look, 0, 127) {
			return false
		}
	}
	return true
}

// modelFields answers false of bytes that are no fields.
func modelFields(b []byte) ([]string, bool) {
	if len(b) == 0 || b[0] > 60 {
		return nil, false
	}
	var list []string
	at := 1
	for range b[0] {
		if at+2 > len(b) {
			return nil, false
		}
		size := int(b[at])*256 + int(b[at+1])
		if at += 2; size > 20000 || at+size > len(b) {
			return nil, false
		}
		list = append(list, string(b[at:at+size]))
		at += size
	}
	return list, at == len(b)
}

func modelReadScreen(b []byte) (impl.Screen, bool) {
	fields, ok := modelFields(b)
	if !ok || len(fields) < 3 || len(fields[0]) != 27 {
		return impl.Screen{}, false
	}
	var n []int
	for at := 0; at < 27; at += 3 {
		n = append(n, int(fields[0][at])<<16+int(fields[0][at+1])<<8+int(fields[0][at+2])-1)
	}
	s := impl.Screen{W: n[0], H: n[1], X: n[2], Y: n[3], Look: n[4], Top: n[5], Bottom: n[6], SaveX: n[7], SaveY: n[8], Title: fields[1]}
	if s.History, ok = modelFields([]byte(fields[2])); !ok || len(fields) != 3+s.H {
		return impl.Screen{}, false
	}
	for _, row := range fields[3:] {
		if len(row) != 4*s.W {
			return impl.Screen{}, false
		}
		for ; row != ""; row = row[4:] {
			s.Cells = append(s.Cells, impl.Cell{Rune: int(row[0])<<16 + int(row[1])<<8 + int(row[2]), Look: int(row[3])})
		}
	}
	return s, modelScreenOK(s)
}

// wantRead holds bytes against the model, and those that are read against their own bytes.
func wantRead(t *testing.T, b []byte) {
	t.Helper()
	was := bytes.Clone(b)
	want, ok := modelReadScreen(b)
	wantCode := impl.OK
	if !ok {
		want, wantCode = impl.Screen{}, impl.ErrForm
	}
	s, code := impl.ReadScreen(b)
	if code != wantCode || !sameScreens(s, want) || !bytes.Equal(b, was) {
		t.Fatalf("ReadScreen(%.300q) = %s, %d, not %s, %d", b, screenShown(s), code, screenShown(want), wantCode)
	}
	if ok {
		if again, code := impl.ScreenBytes(s); code != impl.OK || !bytes.Equal(again, b) || !impl.ScreenOK(s) {
			t.Fatalf("ScreenBytes of what %.300q is: %.300q, %d", b, again, code)
		}
	}
}

func TestBytesThatAreNoScreens(t *testing.T) {
	t.Parallel()
	for _, s := range someScreens(t) {
		b := modelScreenBytes(s)
		if len(b) > 200 {
			continue
		}
		for at := range b {
			wantRead(t, b[:at])
			wantRead(t, slices.Delete(bytes.Clone(b), at, at+1))
			for value := range 256 {
				changed := bytes.Clone(b)
				changed[at] = byte(value)
				wantRead(t, changed)
			}
		}
		for at := range len(b) + 1 {
			for _, value := range []byte{0, 1, 2, 3, 4, 8, 32, 'a', 127, 128, 255} {
				wantRead(t, slices.Insert(bytes.Clone(b), at, value))
			}
		}
	}
	for _, b := range someBytes() {
		if len(b) <= impl.MaxText {
			wantRead(t, b)
		}
	}
}

func TestWrittenOutScreensThatAreNotRight(t *testing.T) {
	for _, s := range wrongScreens(t) {
		if s.W < 0 || s.W > 100 || s.H < 0 || s.H > 50 || len(s.Cells) < s.W*s.H || len(s.Title) > 20000 || len(s.History) > 60 {
			continue
		}
		s.Cells = s.Cells[:s.W*s.H]
		if b := modelScreenBytes(s); len(b) <= impl.MaxText {
			wantRead(t, b)
		}
	}
}

func TestFieldsThatAreNoScreen(t *testing.T) {
	s := motleyScreen(t, 2, 2)
	fields, _ := modelFields(modelScreenBytes(s))
	wantRead(t, fieldsOf(fields))
	for i := range fields {
		wantRead(t, fieldsOf(fields[:i]))
		wantRead(t, fieldsOf(slices.Delete(slices.Clone(fields), i, i+1)))
		wantRead(t, fieldsOf(slices.Insert(slices.Clone(fields), i, fields[i])))
		for _, other := range []string{"", "\x00", "\x3d", fields[0] + "\x00\x00\x01", fields[0][3:], fields[3] + fields[4], fields[3][4:], strings.Repeat("\x00\x00\x03", 4097)} {
			changed := slices.Clone(fields)
			changed[i] = other
			wantRead(t, fieldsOf(changed))
		}
	}
	wantRead(t, fieldsOf(append(slices.Clone(fields), "")))
	wantRead(t, fieldsOf([]string{fields[0], fields[1], fields[2], fields[3] + fields[4][:4], fields[4][4:]}))
	wantRead(t, fieldsOf([]string{fields[0], fields[1], fields[2], fields[3] + fields[4], ""}))
}

// wrongScreens are right ones, each with one part that is not.
func wrongScreens(t *testing.T) []impl.Screen {
	list := []impl.Screen{{}, {W: 2, H: 2, Bottom: 1}, {W: 2, H: 2}}
	add := func(change func(s *impl.Screen)) {
		for _, size := range [][2]int{{2, 2}, {5, 4}, {24, 10}} {
			s := motleyScreen(t, size[0], size[1])
			change(&s)
			list = append(list, s)
		}
	}
	for _, n := range []int{-1, -2, -9, math.MinInt, math.MinInt + 1, math.MaxInt, 1 << 32, 1 << 24, 25, 128} {
		for part := range 9 {
			add(func(s *impl.Screen) {
				*[]*int{&s.W, &s.H, &s.X, &s.Y, &s.Look, &s.Top, &s.Bottom, &s.SaveX, &s.SaveY}[part] = n
				if n == 25 && part == 4 {
					s.Look = 200
				}
			})
		}
	}
	add(func(s *impl.Screen) { s.X = s.W + 1 })
	add(func(s *impl.Screen) { s.SaveX = s.W + 1 })
	add(func(s *impl.Screen) { s.Y = s.H })
	add(func(s *impl.Screen) { s.SaveY = s.H })
	add(func(s *impl.Screen) { s.Top = s.Bottom })
	add(func(s *impl.Screen) { s.Top, s.Bottom = 1, 0 })
	add(func(s *impl.Screen) { s.Bottom = s.H })
	add(func(s *impl.Screen) { s.Bottom = 0 })
	add(func(s *impl.Screen) { s.Cells = s.Cells[:len(s.Cells)-1] })
	add(func(s *impl.Screen) { s.Cells = append(s.Cells, impl.Cell{Rune: 32}) })
	add(func(s *impl.Screen) { s.Cells = nil })
	add(func(s *impl.Screen) { s.Cells = make([]impl.Cell, 100000) })
	add(func(s *impl.Screen) { s.W++ })
	add(func(s *impl.Screen) { s.W, s.Cells = 1, s.Cells[:s.H] })
	add(func(s *impl.Screen) { s.H, s.Cells = 1, s.Cells[:s.W] })
	add(func(s *impl.Screen) { s.W, s.Cells = 25, blankRow(25*s.H) })
	add(func(s *impl.Screen) { s.H, s.Cells = 11, blankRow(11*s.W) })
	for _, cell := range []impl.Cell{{}, {Rune: 31}, {Rune: 127}, {Rune: -1}, {Rune: 0xd800}, {Rune: 0xdfff}, {Rune: 0x110000}, {Rune: 1<<32 + 'a'}, {Rune: math.MaxInt}, {Rune: math.MinInt}, {Rune: 'a', Look: 128}, {Rune: 'a', Look: -1}, {Rune: 'a', Look: 256}, {Rune: 'a', Look: math.MaxInt}, {Rune: 'a', Look: math.MinInt}} {
		add(func(s *impl.Screen) { s.Cells[0] = cell })
		add(func(s *impl.Screen) { s.Cells[len(s.Cells)-1] = cell })
	}
	for _, title := range []string{strings.Repeat("t", 41), strings.Repeat("t", impl.MaxText+1), "\x1f", "\x7f", "a\n", "\u00e4"} {
		add(func(s *impl.Screen) { s.Title = title })
	}
	for _, history := range [][]string{make([]string, 7), make([]string, 5000), {strings.Repeat("x", 97)}, {"", "", "", "", "", strings.Repeat("x", 97)}, {strings.Repeat("x", impl.MaxText+1), "x"}} {
		add(func(s *impl.Screen) { s.History = history })
	}
	return list
}

func TestScreensThatAreNotRight(t *testing.T) {
	for _, s := range wrongScreens(t) {
		if modelScreenOK(s) {
			t.Fatal("the model takes", screenShown(s))
		}
		if impl.ScreenOK(s) {
			t.Error("ScreenOK", screenShown(s))
		}
		wantBad(t, s, printOf('a'), impl.Parser{}, "a")
		wantBad(t, s, controlOf(7), impl.Parser{State: impl.PsOsc}, "")
	}
}

// wantBad holds every call but SameScreen against ErrBad with nothing else.
func wantBad(t *testing.T, s impl.Screen, a impl.Action, p impl.Parser, in string) {
	t.Helper()
	if got, code := impl.ApplyAction(s, a); code != impl.ErrBad || !sameScreens(got, impl.Screen{}) {
		t.Errorf("ApplyAction(%.300s) = %d", screenShown(s), code)
	}
	if got, parser, code := impl.FeedScreen(s, p, []byte(in)); code != impl.ErrBad || !sameScreens(got, impl.Screen{}) || !sameParser(parser, impl.Parser{}) {
		t.Errorf("FeedScreen(%.300s) = %d", screenShown(s), code)
	}
	for _, n := range []int{-1, 0, 2, 30} {
		if got, code := impl.ResizeScreen(s, n, 5); code != impl.ErrBad || !sameScreens(got, impl.Screen{}) {
			t.Errorf("ResizeScreen(%.300s) = %d", screenShown(s), code)
		}
		text, code := impl.RowText(s, n)
		cells, fault := impl.RowCells(s, n)
		if text != "" || cells != "" || code != impl.ErrBad || fault != impl.ErrBad {
			t.Errorf("row %d of %.300s: %d, %d", n, screenShown(s), code, fault)
		}
	}
	if b, code := impl.ScreenBytes(s); code != impl.ErrBad || len(b) != 0 {
		t.Errorf("ScreenBytes(%.300s) = %d", screenShown(s), code)
	}
	right := newScreen(t, 2, 2)
	for _, pair := range [][2]impl.Screen{{s, right}, {right, s}, {s, s}} {
		if same, code := impl.SameScreen(pair[0], pair[1]); same || code != impl.ErrBad {
			t.Errorf("SameScreen with %.300s = %v, %d", screenShown(s), same, code)
		}
	}
}

// rightScreens are at the edges of each of their parts.
func rightScreens(t *testing.T) []impl.Screen {
	list := someScreens(t)
	add := func(change func(s *impl.Screen)) {
		for _, size := range [][2]int{{2, 2}, {5, 4}, {24, 10}} {
			s := motleyScreen(t, size[0], size[1])
			change(&s)
			list = append(list, s)
		}
	}
	add(func(s *impl.Screen) { s.X, s.SaveX = s.W, 0 })
	add(func(s *impl.Screen) { s.X, s.SaveX = 0, s.W-1 })
	add(func(s *impl.Screen) { s.Y, s.SaveY = s.H-1, 0 })
	add(func(s *impl.Screen) { s.Top = s.Bottom - 1 })
	add(func(s *impl.Screen) { s.Bottom = 1 })
	for _, cell := range []impl.Cell{{Rune: 32}, {Rune: 126}, {Rune: 128}, {Rune: 0xd7ff}, {Rune: 0xe000}, {Rune: 0x10ffff}, {Rune: 'a', Look: 127}} {
		add(func(s *impl.Screen) { s.Cells[0], s.Cells[len(s.Cells)-1], s.Look = cell, cell, cell.Look })
	}
	for _, title := range someTitles() {
		add(func(s *impl.Screen) { s.Title = title })
	}
	for _, history := range [][]string{nil, {}, {""}, {"  "}, {"\x00\xff"}, make([]string, 6), {strings.Repeat("x", 96)}, slices.Repeat([]string{strings.Repeat("\xf0", 96)}, 6)} {
		add(func(s *impl.Screen) { s.History = history })
	}
	return list
}

func TestScreensThatAreRight(t *testing.T) {
	for _, s := range rightScreens(t) {
		if !impl.ScreenOK(s) || !modelScreenOK(s) {
			t.Error("ScreenOK", screenShown(s))
		}
		wantRead(t, modelScreenBytes(s))
		wantApplied(t, s, printOf('x'))
		wantApplied(t, s, csiOf('S', 9999))
	}
}

func TestWrongActionsAndParsersOnScreens(t *testing.T) {
	s := motleyScreen(t, 5, 4)
	for _, a := range wrongActions() {
		if got, code := impl.ApplyAction(s, a); code != impl.ErrBad || !sameScreens(got, impl.Screen{}) {
			t.Errorf("ApplyAction(%.200q): %s, %d", fmt.Sprintf("%+v", a), screenShown(got), code)
		}
	}
	for _, p := range wrongParsers() {
		for _, in := range []string{"", "a", "\x1b[2J"} {
			if got, parser, code := impl.FeedScreen(s, p, []byte(in)); code != impl.ErrBad || !sameScreens(got, impl.Screen{}) || !sameParser(parser, impl.Parser{}) {
				t.Errorf("FeedScreen(%.200q): %s, %d", fmt.Sprintf("%+v", p), screenShown(got), code)
			}
		}
	}
}

// otherScreens are right ones, each of which differs in one part from s, which is 5 by 4.
func otherScreens(s impl.Screen) []impl.Screen {
	var list []impl.Screen
	add := func(change func(s *impl.Screen)) {
		other := cloneScreen(s)
		change(&other)
		list = append(list, other)
	}
	add(func(s *impl.Screen) { s.X++ })
	add(func(s *impl.Screen) { s.Y++ })
	add(func(s *impl.Screen) { s.Look++ })
	add(func(s *impl.Screen) { s.Top++ })
	add(func(s *impl.Screen) { s.Bottom-- })
	add(func(s *impl.Screen) { s.SaveX-- })
	add(func(s *impl.Screen) { s.SaveY-- })
	add(func(s *impl.Screen) { s.Title += "x" })
	add(func(s *impl.Screen) { s.Title = "" })
	for i := range s.Cells {
		add(func(s *impl.Screen) { s.Cells[i].Look ^= 1 })
		add(func(s *impl.Screen) { s.Cells[i].Rune = 'Z' })
	}
	add(func(s *impl.Screen) { s.History = nil })
	add(func(s *impl.Screen) { s.History[0] += " " })
	add(func(s *impl.Screen) { s.History = append(s.History, "") })
	add(func(s *impl.Screen) { s.History = s.History[1:] })
	add(func(s *impl.Screen) { s.History[0], s.History[1] = s.History[1], s.History[0] })
	add(func(s *impl.Screen) { s.H, s.W, s.X = 5, 4, 0; s.SaveX = 4 })
	return list
}

func TestSameScreen(t *testing.T) {
	s := motleyScreen(t, 5, 4)
	if same, code := impl.SameScreen(s, cloneScreen(s)); !same || code != impl.OK {
		t.Error("SameScreen of a copy", same, code)
	}
	for _, other := range otherScreens(s) {
		if !impl.ScreenOK(other) {
			t.Fatal("not right:", screenShown(other))
		}
		for _, pair := range [][2]impl.Screen{{s, other}, {other, s}} {
			if same, code := impl.SameScreen(pair[0], pair[1]); same || code != impl.OK {
				t.Errorf("SameScreen(%s, %s) = %v, %d", screenShown(pair[0]), screenShown(pair[1]), same, code)
			}
		}
	}
	one, other := newScreen(t, 3, 3), newScreen(t, 3, 3)
	other.History = []string{}
	if same, code := impl.SameScreen(one, other); !same || code != impl.OK {
		t.Error("SameScreen of no history", same, code)
	}
}

// roomyScreen has memory behind its lists, which no call may write to; lists tells all of it.
func roomyScreen(s impl.Screen) (roomy impl.Screen, lists func() string) {
	cells := append(slices.Clone(s.Cells), slices.Repeat([]impl.Cell{{Rune: -7, Look: -7}}, 300)...)
	history := append(slices.Clone(s.History), slices.Repeat([]string{"behind"}, 20)...)
	s.Cells, s.History = cells[:len(s.Cells)], history[:len(s.History)]
	return s, func() string { return fmt.Sprint(cells, history) }
}

// spoiltScreen writes into every list of an answer, and behind its end as far as its memory goes.
func spoiltScreen(s impl.Screen) {
	cells, history := s.Cells[:cap(s.Cells)], s.History[:cap(s.History)]
	for i := range cells {
		cells[i] = impl.Cell{Rune: -5, Look: -5}
	}
	for i := range history {
		history[i] = "spoilt"
	}
}

func TestScreensAreNotChangedAndAnswersAreNewMemory(t *testing.T) {
	t.Parallel()
	actions := screenActions()
	for i, from := range rightScreens(t) {
		s, lists := roomyScreen(from)
		was := lists()
		check := func(how string, answer impl.Screen, code int) {
			t.Helper()
			if code != impl.OK {
				t.Errorf("%s: %d", how, code)
			}
			if lists() != was {
				t.Fatalf("%s writes into %s, or behind it", how, screenShown(from))
			}
			if spoiltScreen(answer); lists() != was {
				t.Fatalf("%s shares memory with %s", how, screenShown(from))
			}
		}
		for j := i % 41; j < len(actions); j += 41 {
			got, code := impl.ApplyAction(s, actions[j])
			check(fmt.Sprintf("ApplyAction(%+v)", actions[j]), got, code)
		}
		for _, in := range []string{"", "\a", "x", "\x1b[?1J", "\x1b[2J", "\x1b[9S", "\x1bc", "\r\n\n\n\n\n\n\n\n\n\n\n"} {
			got, _, code := impl.FeedScreen(s, impl.Parser{}, []byte(in))
			check(fmt.Sprintf("FeedScreen(%q)", in), got, code)
		}
		for _, size := range [][2]int{{s.W, s.H}, {2, 2}, {24, 10}} {
			got, code := impl.ResizeScreen(s, size[0], size[1])
			check(fmt.Sprint("ResizeScreen to ", size), got, code)
		}
		for _, c := range screenCalls(s) {
			c.do()
			check(c.name, impl.Screen{}, impl.OK)
		}
	}
}

func TestAScreenThatStaysAsItWasIsNewMemory(t *testing.T) {
	s := motleyScreen(t, 5, 4)
	s.History = append(make([]string, 0, 10), s.History...)
	want := cloneScreen(s)
	for _, a := range []impl.Action{controlOf(7), csiOf('X', 1), privateOf('J', 2), csiOf('J', 3), csiOf('m', 99)} {
		first, code := impl.ApplyAction(s, a)
		second, _ := impl.ApplyAction(s, a)
		if code != impl.OK || !sameScreens(first, want) {
			t.Errorf("%+v: %s, %d", a, screenShown(first), code)
		}
		if spoiltScreen(first); !sameScreens(s, want) || !sameScreens(second, want) {
			t.Errorf("%+v: an answer shares memory", a)
		}
	}
	same, _ := impl.ResizeScreen(s, 5, 4)
	if spoiltScreen(same); !sameScreens(s, want) {
		t.Error("ResizeScreen to the same size shares memory")
	}
	one, two := newScreen(t, 5, 4), newScreen(t, 5, 4)
	if spoiltScreen(one); !sameScreens(two, impl.Screen{W: 5, H: 4, Bottom: 3, Cells: blankRow(20)}) {
		t.Error("two new screens share memory")
	}
}

func TestFedParserIsNewMemory(t *testing.T) {
	s := newScreen(t, 3, 2)
	for _, in := range []string{"", "\n", "5", ";", "A"} {
		room, part := roomyArgs([]int{1, 2})
		was := slices.Clone(room)
		p := impl.Parser{State: impl.PsCsi, Args: part}
		_, first, _ := impl.FeedScreen(s, p, []byte(in))
		want, _ := modelBytes(p, []byte(in))
		_, second, code := impl.FeedScreen(s, p, []byte(in))
		if spoilt(first, nil); code != impl.OK || !slices.Equal(room, was) || !sameParser(second, want) {
			t.Errorf("the parser behind %q shares memory", in)
		}
	}
}

func TestReadBytesAreNotKept(t *testing.T) {
	want := motleyScreen(t, 5, 4)
	b := modelScreenBytes(want)
	s, code := impl.ReadScreen(b)
	clear(b)
	if code != impl.OK || !sameScreens(s, want) {
		t.Error("a screen shares memory with the bytes that it was read from")
	}
	first, _ := impl.ScreenBytes(want)
	second, _ := impl.ScreenBytes(want)
	clear(first[:cap(first)])
	if !bytes.Equal(second, modelScreenBytes(want)) {
		t.Error("two answers of ScreenBytes share memory")
	}
	in := []byte("\x1b]title\a\xe2\x82\xac\r\n\n\n\n\x1b]rest")
	p, told := modelBytes(impl.Parser{}, in)
	shown := modelApply(want, told...)
	got, parser, _ := impl.FeedScreen(want, impl.Parser{}, in)
	clear(in)
	if !sameScreens(got, shown) || !sameParser(parser, p) {
		t.Error("a screen shares memory with the bytes that it was fed")
	}
}

func TestHistoryRowsAreWholeRunes(t *testing.T) {
	draw := rand.New(rand.NewSource(7))
	for range 200 {
		s, _, code := impl.FeedScreen(newScreen(t, 24, 2), impl.Parser{}, []byte(drawnOutput(draw, 60)))
		if code != impl.OK {
			t.Fatal(code)
		}
		for _, text := range s.History {
			if !utf8.ValidString(text) || strings.HasSuffix(text, " ") {
				t.Errorf("history has %q", text)
			}
		}
	}
}
