package tests

import (
	"bytes"
	"encoding/binary"
	"fmt"
	"math"
	"math/rand"
	"slices"
	"strings"
	"testing"
	"unicode/utf8"

	"loop.example/g00308/impl"
)

func sameViews(a, b impl.View) bool {
	return a.Number == b.Number && a.From == b.From && a.Full == b.Full && a.W == b.W && a.H == b.H && slices.Equal(a.Rows, b.Rows)
}

func sameMirrors(a, b impl.Mirror) bool {
	return a.Number == b.Number && a.W == b.W && a.H == b.H && slices.Equal(a.Rows, b.Rows)
}

func cloneView(v impl.View) impl.View {
	v.Rows = slices.Clone(v.Rows)
	return v
}

func cloneMirror(m impl.Mirror) impl.Mirror {
	m.Rows = slices.Clone(m.Rows)
	return m
}

func viewShown(v impl.View) string {
	rows := ""
	for _, row := range v.Rows[:min(len(v.Rows), 10)] {
		rows += fmt.Sprintf(" %d %.40q", row.Y, row.Cells)
	}
	return fmt.Sprintf("{%d from %d full %v, %d by %d, %d rows%.300s}", v.Number, v.From, v.Full, v.W, v.H, len(v.Rows), rows)
}

func mirrorShown(m impl.Mirror) string {
	return fmt.Sprintf("{%d, %d by %d, %d rows %.200s}", m.Number, m.W, m.H, len(m.Rows), fmt.Sprintf("%.40q", m.Rows[:min(len(m.Rows), 10)]))
}

// roomyView has memory behind its rows, which no call may write to; lists tells all of it.
func roomyView(v impl.View) (roomy impl.View, lists func() string) {
	room := append(slices.Clone(v.Rows), slices.Repeat([]impl.Row{{Y: -7, Cells: "behind"}}, 12)...)
	v.Rows = room[:len(v.Rows)]
	return v, func() string { return fmt.Sprint(room) }
}

func roomyMirror(m impl.Mirror) (roomy impl.Mirror, lists func() string) {
	room := append(slices.Clone(m.Rows), slices.Repeat([]string{"behind"}, 12)...)
	m.Rows = room[:len(m.Rows)]
	return m, func() string { return fmt.Sprint(room) }
}

func cellBytes(n, look int) string {
	return string(binary.BigEndian.AppendUint32(nil, uint32(n<<8|look)))
}

// plainRow is a row of w cells without a Look: a text's runes, and blanks behind them.
func plainRow(w int, text string) string {
	row := ""
	for _, r := range text {
		row += cellBytes(int(r), 0)
	}
	return row + strings.Repeat(cellBytes(' ', 0), w-utf8.RuneCountInString(text))
}

func plainRows(w int, texts ...string) []string {
	var rows []string
	for _, text := range texts {
		rows = append(rows, plainRow(w, text))
	}
	return rows
}

// motleyRows are h rows, each unlike the others, of runes of one to four bytes; those of another mark are all unlike these.
func motleyRows(w, h, mark int) []string {
	runes := []int{'a', 0xe4, 0x20ac, 0x1f600, ' ', '~', 0x10ffff, 0xfffd, 'b'}
	var rows []string
	for y := range h {
		row := cellBytes('A'+mark, y)
		for x := 1; x < w; x++ {
			row += cellBytes(runes[(x*3+y+mark)%len(runes)], (x*37+y)%128)
		}
		rows = append(rows, row)
	}
	return rows
}

func screenRows(s impl.Screen) []string {
	var rows []string
	for y := range s.H {
		row := ""
		for _, cell := range s.Cells[y*s.W : (y+1)*s.W] {
			row += cellBytes(cell.Rune, cell.Look)
		}
		rows = append(rows, row)
	}
	return rows
}

func modelSizeOK(w, h int) bool { return inBounds(w, 2, 24) && inBounds(h, 2, 10) }

func modelRowOK(cells string, w int) bool {
	if len(cells) != 4*w {
		return false
	}
	for ; cells != ""; cells = cells[4:] {
		r := rune(cells[0])<<16 + rune(cells[1])<<8 + rune(cells[2])
		if r < 32 || r == 127 || !utf8.ValidRune(r) || cells[3] > 127 {
			return false
		}
	}
	return true
}

func modelRowsOK(rows []string, w, h int) bool {
	return len(rows) == h && !slices.ContainsFunc(rows, func(row string) bool { return !modelRowOK(row, w) })
}

func modelViewOK(v impl.View) bool {
	if !inBounds(v.Number, 0, 60) || !modelSizeOK(v.W, v.H) {
		return false
	}
	if v.Full && (v.From != 0 || len(v.Rows) != v.H) || !v.Full && (v.From < 0 || v.From >= v.Number) {
		return false
	}
	last := -1
	for _, row := range v.Rows {
		if row.Y <= last || row.Y >= v.H || !modelRowOK(row.Cells, v.W) {
			return false
		}
		last = row.Y
	}
	return true
}

func modelMirrorOK(m impl.Mirror) bool {
	if m.Number == -1 {
		return m.W == 0 && m.H == 0 && len(m.Rows) == 0
	}
	return inBounds(m.Number, 0, 60) && modelSizeOK(m.W, m.H) && modelRowsOK(m.Rows, m.W, m.H)
}

// viewOfRows has the rows at these places.
func viewOfRows(number, from int, full bool, w, h int, rows []string, places ...int) impl.View {
	v := impl.View{Number: number, From: from, Full: full, W: w, H: h}
	for _, y := range places {
		v.Rows = append(v.Rows, impl.Row{Y: y, Cells: rows[y]})
	}
	return v
}

func placesUpTo(n int) []int {
	var list []int
	for y := range n {
		list = append(list, y)
	}
	return list
}

func fullOf(number, w, h int, rows []string) impl.View {
	return viewOfRows(number, 0, true, w, h, rows, placesUpTo(len(rows))...)
}

func someOf(from, number, w, h int, rows []string, places ...int) impl.View {
	return viewOfRows(number, from, false, w, h, rows, places...)
}

func mirrorOf(number, w, h int, rows []string) impl.Mirror {
	return impl.Mirror{Number: number, W: w, H: h, Rows: slices.Clone(rows)}
}

func modelFullView(number, w, h int, rows []string) (impl.View, int) {
	switch {
	case len(rows) > 4096:
		return impl.View{}, impl.ErrLong
	case !inBounds(number, 0, 60) || !modelSizeOK(w, h):
		return impl.View{}, impl.ErrRange
	case !modelRowsOK(rows, w, h):
		return impl.View{}, impl.ErrBad
	}
	return fullOf(number, w, h, rows), impl.OK
}

func modelDiffView(from, number, w, h int, old, rows []string) (impl.View, int) {
	switch {
	case len(old) > 4096 || len(rows) > 4096:
		return impl.View{}, impl.ErrLong
	case !inBounds(number, 0, 60) || !inBounds(from, 0, 60) || from >= number || !modelSizeOK(w, h):
		return impl.View{}, impl.ErrRange
	case !modelRowsOK(old, w, h) || !modelRowsOK(rows, w, h):
		return impl.View{}, impl.ErrBad
	}
	places := slices.DeleteFunc(placesUpTo(h), func(y int) bool { return old[y] == rows[y] })
	return someOf(from, number, w, h, rows, places...), impl.OK
}

// modelAccept keeps rows by their places.
func modelAccept(m impl.Mirror, v impl.View) (impl.Mirror, int) {
	switch {
	case !modelMirrorOK(m) || !modelViewOK(v):
		return impl.Mirror{}, impl.ErrBad
	case v.Number <= m.Number:
		return m, impl.ErrLate
	case !v.Full && (v.From != m.Number || v.W != m.W || v.H != m.H):
		return m, impl.ErrView
	}
	shown := map[int]string{}
	for y, row := range m.Rows {
		shown[y] = row
	}
	for _, row := range v.Rows {
		shown[row.Y] = row.Cells
	}
	next := impl.Mirror{Number: v.Number, W: v.W, H: v.H}
	for y := range v.H {
		next.Rows = append(next.Rows, shown[y])
	}
	return next, impl.OK
}

func modelViewFields(v impl.View) []string {
	fields := []string{modelNumbers(v.Number, v.From, oneIf(v.Full), v.W, v.H)}
	for _, row := range v.Rows {
		fields = append(fields, string([]byte{byte(row.Y)})+row.Cells)
	}
	return fields
}

func modelViewBytes(v impl.View) []byte { return fieldsOf(modelViewFields(v)) }

func modelReadView(b []byte) (impl.View, bool) {
	fields, ok := modelFields(b)
	if !ok || len(fields) == 0 {
		return impl.View{}, false
	}
	n := modelReadNumbers(fields[0], 5)
	if n == nil || !inBounds(n[2], 0, 1) {
		return impl.View{}, false
	}
	v := impl.View{Number: n[0], From: n[1], Full: n[2] == 1, W: n[3], H: n[4]}
	for _, field := range fields[1:] {
		if field == "" {
			return impl.View{}, false
		}
		v.Rows = append(v.Rows, impl.Row{Y: int(field[0]), Cells: field[1:]})
	}
	return v, modelViewOK(v)
}

func wantFullView(t *testing.T, number, w, h int, rows []string) (impl.View, int) {
	t.Helper()
	roomy, room := roomyTexts(rows)
	was := slices.Clone(room)
	got, code := impl.FullView(number, w, h, roomy)
	again, _ := impl.FullView(number, w, h, roomy)
	want, wantCode := modelFullView(number, w, h, rows)
	if code != wantCode || !sameViews(got, want) || impl.ViewOK(got) != (code == impl.OK) {
		t.Fatalf("FullView(%d, %d, %d) of %s: %s, %d\nnot %s, %d", number, w, h, listShown(rows), viewShown(got), code, viewShown(want), wantCode)
	}
	if !slices.Equal(room, was) {
		t.Fatalf("FullView(%d, %d, %d) writes into its rows, or behind them", number, w, h)
	}
	wantApart(t, "FullView", room, got, again)
	return got, code
}

func wantDiffView(t *testing.T, from, number, w, h int, old, rows []string) (impl.View, int) {
	t.Helper()
	roomyOld, oldRoom := roomyTexts(old)
	roomy, room := roomyTexts(rows)
	wasOld, was := slices.Clone(oldRoom), slices.Clone(room)
	got, code := impl.DiffView(from, number, w, h, roomyOld, roomy)
	again, _ := impl.DiffView(from, number, w, h, roomyOld, roomy)
	want, wantCode := modelDiffView(from, number, w, h, old, rows)
	if code != wantCode || !sameViews(got, want) || impl.ViewOK(got) != (code == impl.OK) {
		t.Fatalf("DiffView(%d, %d, %d, %d) of %s and %s: %s, %d\nnot %s, %d", from, number, w, h, listShown(old), listShown(rows), viewShown(got), code, viewShown(want), wantCode)
	}
	if !slices.Equal(room, was) || !slices.Equal(oldRoom, wasOld) {
		t.Fatalf("DiffView(%d, %d, %d, %d) writes into its rows, or behind them", from, number, w, h)
	}
	wantApart(t, "DiffView", oldRoom, room, got, again)
	return got, code
}

func wantAccepted(t *testing.T, m impl.Mirror, v impl.View) (impl.Mirror, int) {
	t.Helper()
	mirror, mirrorLists := roomyMirror(m)
	view, viewLists := roomyView(v)
	wasMirror, wasView := mirrorLists(), viewLists()
	got, code := impl.AcceptView(mirror, view)
	again, _ := impl.AcceptView(mirror, view)
	want, wantCode := modelAccept(m, v)
	if code != wantCode || !sameMirrors(got, want) {
		t.Fatalf("AcceptView(%s, %s) = %s, %d\nnot %s, %d", mirrorShown(m), viewShown(v), mirrorShown(got), code, mirrorShown(want), wantCode)
	}
	if impl.MirrorOK(got) != (code != impl.ErrBad) || code == impl.OK && got.Number <= m.Number {
		t.Fatalf("AcceptView(%s, %s), %d: %s", mirrorShown(m), viewShown(v), code, mirrorShown(got))
	}
	if mirrorLists() != wasMirror || viewLists() != wasView || !sameMirrors(mirror, m) || !sameViews(view, v) {
		t.Fatalf("AcceptView writes into its arguments, or behind them: %s, %s", mirrorShown(m), viewShown(v))
	}
	wantApart(t, "AcceptView", mirror, view, got, again)
	return got, code
}

// wantView holds ViewOK and a view's bytes against the model; those of a right one are read back.
func wantView(t *testing.T, v impl.View) bool {
	t.Helper()
	roomy, lists := roomyView(v)
	was := lists()
	right := modelViewOK(v)
	if got := impl.ViewOK(roomy); got != right {
		t.Fatalf("ViewOK(%s) = %v", viewShown(v), got)
	}
	b, code := impl.ViewBytes(roomy)
	again, _ := impl.ViewBytes(roomy)
	if lists() != was || !sameViews(roomy, v) {
		t.Fatal("ViewOK or ViewBytes writes into the view, or behind it:", viewShown(v))
	}
	wantApart(t, "ViewBytes", roomy, b, again)
	if !right {
		if len(b) != 0 || code != impl.ErrBad {
			t.Fatalf("ViewBytes(%s) = %.100q, %d", viewShown(v), b, code)
		}
		return false
	}
	if code != impl.OK || !bytes.Equal(b, modelViewBytes(v)) {
		t.Fatalf("ViewBytes(%s) = %.300q, %d", viewShown(v), b, code)
	}
	if back, code := impl.ReadView(b); code != impl.OK || !sameViews(back, v) {
		t.Fatalf("ReadView of the bytes of %s: %s, %d", viewShown(v), viewShown(back), code)
	}
	return true
}

// wantReadView holds bytes against the model, and those that are read against their own bytes.
func wantReadView(t *testing.T, b []byte) bool {
	t.Helper()
	room := append(bytes.Clone(b), "behind"...)
	was := bytes.Clone(room)
	want, ok := modelReadView(b)
	wantCode := impl.OK
	if !ok {
		want, wantCode = impl.View{}, impl.ErrForm
	}
	if len(b) > 65536 {
		want, ok, wantCode = impl.View{}, false, impl.ErrLong
	}
	got, code := impl.ReadView(room[:len(b)])
	again, _ := impl.ReadView(room[:len(b)])
	if code != wantCode || !sameViews(got, want) || !bytes.Equal(room, was) {
		t.Fatalf("ReadView(%.300q) = %s, %d\nnot %s, %d", b, viewShown(got), code, viewShown(want), wantCode)
	}
	wantApart(t, "ReadView", room, got, again)
	if clear(room); !sameViews(got, want) {
		t.Fatal("ReadView keeps its bytes")
	}
	if ok {
		if back, code := impl.ViewBytes(got); code != impl.OK || !bytes.Equal(back, b) || !impl.ViewOK(got) {
			t.Fatalf("ViewBytes of what %.300q is: %.300q, %d", b, back, code)
		}
	}
	return ok
}

// wantMirror holds MirrorOK and the rows' texts against the model.
func wantMirror(t *testing.T, m impl.Mirror) bool {
	t.Helper()
	roomy, lists := roomyMirror(m)
	was := lists()
	right := modelMirrorOK(m)
	if got := impl.MirrorOK(roomy); got != right {
		t.Fatalf("MirrorOK(%s) = %v", mirrorShown(m), got)
	}
	texts, code := impl.MirrorText(roomy)
	again, _ := impl.MirrorText(roomy)
	if lists() != was || !sameMirrors(roomy, m) {
		t.Fatal("MirrorOK or MirrorText writes into the mirror, or behind it:", mirrorShown(m))
	}
	wantApart(t, "MirrorText", roomy, texts, again)
	var want []string
	wantCode := impl.ErrBad
	if right {
		wantCode = impl.OK
		for _, text := range rowTexts(m.Rows) {
			want = append(want, strings.TrimRight(text, " "))
		}
	}
	if code != wantCode || !slices.Equal(texts, want) {
		t.Fatalf("MirrorText(%s) = %.300q, %d, not %.300q, %d", mirrorShown(m), texts, code, want, wantCode)
	}
	return right
}

// numbersAround are those at and beyond each bound of a view, and others far off.
func numbersAround() []int {
	list := slices.Clone(strayNumbers)
	for n := -3; n <= 64; n++ {
		list = append(list, n)
	}
	return list
}

func sizesToTry() [][2]int {
	return [][2]int{{2, 2}, {3, 2}, {2, 3}, {4, 3}, {24, 10}, {23, 9}, {24, 2}, {2, 10}, {12, 6}}
}

// wantViewIs is for what is written out by hand.
func wantViewIs(t *testing.T, what string, v impl.View, want bool) {
	t.Helper()
	if got := wantView(t, v); got != want || impl.ViewOK(v) != want {
		t.Errorf("%s: %s is right: %v", what, viewShown(v), got)
	}
	other := impl.Mirror{Number: -1}
	for _, m := range []impl.Mirror{other, mirrorOf(60, 4, 3, motleyRows(4, 3, 5))} {
		if got, code := wantAccepted(t, m, v); (code != impl.ErrBad) != want || code == impl.ErrBad && !sameMirrors(got, impl.Mirror{}) {
			t.Errorf("%s: AcceptView of %s: %s, %d", what, viewShown(v), mirrorShown(got), code)
		}
	}
}

func TestViewsAtEachBoundOfTheirNumbers(t *testing.T) {
	rows := motleyRows(4, 3, 0)
	for _, n := range numbersAround() {
		full, part := fullOf(7, 4, 3, rows), someOf(5, 10, 4, 3, rows, 1)
		full.Number, part.Number = n, n
		wantViewIs(t, "Number of a full one", full, n >= 0 && n <= 60)
		wantViewIs(t, "Number of one from 5", part, n >= 6 && n <= 60)
		full, part = fullOf(7, 4, 3, rows), someOf(5, 10, 4, 3, rows, 1)
		full.From, part.From = n, n
		wantViewIs(t, "From of a full one", full, n == 0)
		wantViewIs(t, "From of one of 10", part, n >= 0 && n <= 9)
		wantViewIs(t, "From of one of 60", someOf(n, 60, 4, 3, rows), n >= 0 && n <= 59)
		wantViewIs(t, "From of one of 1", someOf(n, 1, 4, 3, rows, 0, 2), n == 0)
		wantViewIs(t, "From of one of 0", someOf(n, 0, 4, 3, rows, 0), false)
		wantViewIs(t, "From at Number", someOf(n, n, 4, 3, rows, 0), false)
	}
}

func TestViewsAtEachBoundOfTheirSizes(t *testing.T) {
	for _, n := range numbersAround() {
		for _, base := range []impl.View{fullOf(7, 4, 3, motleyRows(4, 3, 0)), someOf(5, 10, 4, 3, motleyRows(4, 3, 0), 1), someOf(5, 10, 4, 3, nil)} {
			none := len(base.Rows) == 0
			v := cloneView(base)
			v.W = n
			wantViewIs(t, "W alone", v, n == 4 || none && n >= 2 && n <= 24)
			v = cloneView(base)
			v.H = n
			wantViewIs(t, "H alone", v, n == 3 || !base.Full && n >= 2 && n <= 10)
			v = cloneView(base)
			v.W, v.H = n, n
			wantViewIs(t, "W and H", v, none && n >= 2 && n <= 10 || n == 4 && !base.Full)
		}
		if !inBounds(n, 0, 64) {
			continue
		}
		wide, high := motleyRows(max(n, 1), 3, 0), motleyRows(4, n, 0)
		if n == 0 {
			wide = make([]string, 3)
		}
		wantViewIs(t, "a full one so wide", fullOf(7, n, 3, wide), n >= 2 && n <= 24)
		wantViewIs(t, "a part so wide", someOf(6, 7, n, 3, wide, 0, 1), n >= 2 && n <= 24)
		wantViewIs(t, "a full one so high", fullOf(7, 4, n, high), n >= 2 && n <= 10)
		if n > 0 {
			wantViewIs(t, "the last row of one so high", someOf(6, 7, 4, n, high, n-1), n >= 2 && n <= 10)
		}
	}
}

func TestViewsAtEachPlaceOfARow(t *testing.T) {
	rows := motleyRows(3, 10, 0)
	for h := 2; h <= 10; h++ {
		for _, y := range numbersAround() {
			v := someOf(5, 10, 3, h, rows, 0)
			v.Rows[0].Y = y
			wantViewIs(t, "a row's place", v, y >= 0 && y < h)
			v = fullOf(10, 3, h, rows[:h])
			v.Rows[h-1].Y = y
			wantViewIs(t, "the last row's place of a full one", v, y == h-1)
			v = fullOf(10, 3, h, rows[:h])
			v.Rows[0].Y = y
			wantViewIs(t, "the first row's place of a full one", v, y == 0)
			for _, other := range []int{0, h / 2, h - 1} {
				v = someOf(5, 10, 3, h, rows, 0, 1)
				v.Rows[0].Y, v.Rows[1].Y = y, other
				wantViewIs(t, "two places", v, y >= 0 && y < other)
				v.Rows[0].Y, v.Rows[1].Y = other, y
				wantViewIs(t, "two places", v, y > other && y < h)
			}
		}
	}
}

// bitsOf are the places of the bits of a number.
func bitsOf(set int) []int {
	return slices.DeleteFunc(placesUpTo(12), func(y int) bool { return set>>y&1 == 0 })
}

func TestViewsOfEverySetOfRows(t *testing.T) {
	for h := 2; h <= 10; h++ {
		rows, old := motleyRows(2, h, 0), motleyRows(2, h, 1)
		for set := range 1 << h {
			places := bitsOf(set)
			v := someOf(3, 4, 2, h, rows, places...)
			if !wantView(t, v) {
				t.Fatalf("rows %v of %d are not right", places, h)
			}
			now := slices.Clone(old)
			for _, y := range places {
				now[y] = rows[y]
			}
			if diff, code := wantDiffView(t, 3, 4, 2, h, old, now); code != impl.OK || !sameViews(diff, v) {
				t.Fatalf("DiffView in rows %v of %d: %s, %d", places, h, viewShown(diff), code)
			}
			if m, code := wantAccepted(t, mirrorOf(3, 2, h, old), v); code != impl.OK || !slices.Equal(m.Rows, now) || m.Number != 4 {
				t.Fatalf("AcceptView in rows %v of %d: %s, %d", places, h, mirrorShown(m), code)
			}
			full := viewOfRows(4, 0, true, 2, h, rows, places...)
			if wantView(t, full) != (set == 1<<h-1) {
				t.Fatalf("a full view of rows %v of %d", places, h)
			}
		}
	}
}

func TestViewsWhoseRowsDoNotRise(t *testing.T) {
	rows := motleyRows(2, 3, 0)
	for _, places := range [][]int{{0, 0}, {1, 0}, {2, 0}, {2, 1}, {1, 1}, {2, 2}, {0, 2, 1}, {1, 0, 2}, {1, 2, 0}, {2, 0, 1}, {2, 1, 0}, {0, 0, 1}, {0, 1, 1}, {0, 1, 0}, {0, 2, 2}, {0, 1, 2, 2}, {0, 1, 2, 0}, {0, 0, 1, 2}, {0, 1, 1, 2}} {
		wantViewIs(t, "a part", someOf(0, 1, 2, 3, rows, places...), false)
		wantViewIs(t, "a full one", viewOfRows(1, 0, true, 2, 3, rows, places...), false)
	}
	for _, places := range [][]int{nil, {0}, {1}, {2}, {0, 1}, {0, 2}, {1, 2}} {
		wantViewIs(t, "a part", someOf(0, 1, 2, 3, rows, places...), true)
		wantViewIs(t, "a full one with a row too few", viewOfRows(1, 0, true, 2, 3, rows, places...), false)
	}
	wantViewIs(t, "a part of all", someOf(0, 1, 2, 3, rows, 0, 1, 2), true)
	wantViewIs(t, "a full one", fullOf(1, 2, 3, rows), true)
	for _, n := range []int{impl.MaxList, impl.MaxList + 1, 100000} {
		v := someOf(0, 1, 2, 10, motleyRows(2, 10, 0), placesUpTo(10)...)
		v.Rows = append(v.Rows, make([]impl.Row, n)...)
		wantViewIs(t, "many rows behind the last", v, false)
		v.Full = true
		wantViewIs(t, "many rows behind the last", v, false)
		v.Rows = slices.Repeat(v.Rows[:1], n)
		wantViewIs(t, "a row many times", v, false)
	}
}

// wrongCells are no row of w cells, but for one thing a right one each.
func wrongCells(w int) []string {
	row := motleyRows(w, 1, 0)[0]
	list := []string{"", row[:1], row[:4*w-4], row[:4*w-1], row[1:], row + "\x00", row + cellBytes('a', 0), row + row, strings.Repeat("\x00", 4*w), strings.Repeat(row, impl.MaxText/len(row)+1)}
	for x := range w {
		for _, n := range []int{0, 1, 7, 10, 27, 31, 127, 0xd800, 0xdbff, 0xdc00, 0xdfff, 0x110000, 0x1fffff, 0xffffff} {
			list = append(list, row[:4*x]+cellBytes(n, 0)+row[4*x+4:])
		}
		for _, look := range []int{128, 129, 255} {
			list = append(list, row[:4*x]+cellBytes('a', look)+row[4*x+4:])
		}
	}
	return list
}

// edgeCells are right rows of w cells whose runes and looks are at their bounds.
func edgeCells(w int) []string {
	row := motleyRows(w, 1, 0)[0]
	list := []string{row, plainRow(w, ""), plainRow(w, "ab")}
	for x := range w {
		for _, n := range []int{32, 33, 126, 128, 159, 0xff, 0x100, 0xd7ff, 0xe000, 0xfffd, 0xffff, 0x10000, 0x10ffff} {
			list = append(list, row[:4*x]+cellBytes(n, 0)+row[4*x+4:])
		}
		for _, look := range []int{0, 1, 64, 126, 127} {
			list = append(list, row[:4*x]+cellBytes('a', look)+row[4*x+4:])
		}
	}
	return list
}

// wantCells asks each call for what it says of rows of which one has these cells.
func wantCells(t *testing.T, w, h, y int, cells string, right bool) {
	t.Helper()
	rows, old := motleyRows(w, h, 0), motleyRows(w, h, 1)
	rows[y] = cells
	wantViewIs(t, "a full view", fullOf(2, w, h, rows), right)
	wantViewIs(t, "a part", someOf(1, 2, w, h, rows, y), right)
	if wantMirror(t, mirrorOf(2, w, h, rows)) != right {
		t.Errorf("a mirror with the row %.100q", cells)
	}
	want := impl.OK
	if !right {
		want = impl.ErrBad
	}
	_, code := wantFullView(t, 2, w, h, rows)
	_, diff := wantDiffView(t, 1, 2, w, h, old, rows)
	_, back := wantDiffView(t, 1, 2, w, h, rows, old)
	_, same := wantDiffView(t, 1, 2, w, h, rows, rows)
	_, accepted := wantAccepted(t, mirrorOf(2, w, h, rows), fullOf(3, w, h, old))
	if code != want || diff != want || back != want || same != want || accepted != want {
		t.Errorf("the row %.100q: %d, %d, %d, %d, %d, not %d", cells, code, diff, back, same, accepted, want)
	}
}

func TestCellsThatAreARowAndNot(t *testing.T) {
	for _, size := range [][2]int{{2, 2}, {5, 3}, {24, 2}} {
		w, h := size[0], size[1]
		for y := range h {
			for _, cells := range wrongCells(w) {
				wantCells(t, w, h, y, cells, false)
			}
			for _, cells := range edgeCells(w) {
				wantCells(t, w, h, y, cells, true)
			}
		}
	}
	for _, s := range someScreens(t) {
		rows := screenRows(s)
		for y := range s.H {
			if cells, _ := impl.RowCells(s, y); cells != rows[y] {
				t.Fatalf("RowCells %q, not %q", cells, rows[y])
			}
			wantCells(t, s.W, s.H, y, rows[y], true)
		}
	}
}

// wantMirrorIs is for what is written out by hand.
func wantMirrorIs(t *testing.T, what string, m impl.Mirror, want bool) {
	t.Helper()
	if got := wantMirror(t, m); got != want || impl.MirrorOK(m) != want {
		t.Errorf("%s: %s is right: %v", what, mirrorShown(m), got)
	}
	for _, v := range []impl.View{fullOf(0, 4, 3, motleyRows(4, 3, 3)), fullOf(60, 2, 2, motleyRows(2, 2, 3)), someOf(59, 60, 4, 3, nil)} {
		if got, code := wantAccepted(t, m, v); (code != impl.ErrBad) != want || code == impl.ErrBad && !sameMirrors(got, impl.Mirror{}) {
			t.Errorf("%s: AcceptView on %s: %s, %d", what, mirrorShown(m), mirrorShown(got), code)
		}
	}
}

func TestMirrorsAtEachBound(t *testing.T) {
	for _, n := range numbersAround() {
		rows := motleyRows(4, 3, 0)
		wantMirrorIs(t, "Number", mirrorOf(n, 4, 3, rows), n >= 0 && n <= 60)
		wantMirrorIs(t, "Number with nothing else", impl.Mirror{Number: n}, n == -1)
		wantMirrorIs(t, "W alone", mirrorOf(5, n, 3, rows), n == 4)
		wantMirrorIs(t, "H alone", mirrorOf(5, 4, n, rows), n == 3)
		wantMirrorIs(t, "W and H of no rows", mirrorOf(5, n, n, nil), false)
		wantMirrorIs(t, "W of none", impl.Mirror{Number: -1, W: n}, n == 0)
		wantMirrorIs(t, "H of none", impl.Mirror{Number: -1, H: n}, n == 0)
		wantMirrorIs(t, "both of none", impl.Mirror{Number: -1, W: n, H: n}, n == 0)
		if !inBounds(n, 0, 64) {
			continue
		}
		wide, high := motleyRows(max(n, 1), 3, 0), motleyRows(4, n, 0)
		if n == 0 {
			wide = make([]string, 3)
		}
		wantMirrorIs(t, "so wide", mirrorOf(5, n, 3, wide), n >= 2 && n <= 24)
		wantMirrorIs(t, "so high", mirrorOf(5, 4, n, high), n >= 2 && n <= 10)
		wantMirrorIs(t, "so many rows", mirrorOf(5, 4, 3, high), n == 3)
	}
	for _, rows := range [][]string{{""}, {"", ""}, motleyRows(4, 3, 0), make([]string, impl.MaxList+1)} {
		wantMirrorIs(t, "none with rows", impl.Mirror{Number: -1, Rows: rows}, false)
		wantMirrorIs(t, "none with a size and rows", impl.Mirror{Number: -1, W: 4, H: 3, Rows: rows}, false)
	}
	for _, rows := range [][]string{nil, {}} {
		wantMirrorIs(t, "none", impl.Mirror{Number: -1, Rows: rows}, true)
		wantMirrorIs(t, "of Number 0, with nothing", impl.Mirror{Rows: rows}, false)
	}
	wantMirrorIs(t, "too many rows", mirrorOf(5, 4, 3, slices.Repeat(motleyRows(4, 1, 0), impl.MaxList+1)), false)
	for _, size := range sizesToTry() {
		wantMirrorIs(t, "of this size", mirrorOf(0, size[0], size[1], motleyRows(size[0], size[1], 0)), true)
		wantMirrorIs(t, "with a row of another width", mirrorOf(0, size[0], size[1], append(motleyRows(size[0], size[1]-1, 0), motleyRows(size[0]+1, 1, 0)...)), false)
	}
}

func TestFullViewOfEverySize(t *testing.T) {
	rows := motleyRows(4, 3, 0)
	for _, n := range numbersAround() {
		for _, c := range []struct {
			number, w, h int
			rows         []string
			right        bool
		}{
			{n, 4, 3, rows, n >= 0 && n <= 60}, {5, n, 3, rows, n == 4}, {5, 4, n, rows, n == 3}, {5, n, n, rows, false}, {n, n, n, nil, false},
		} {
			want := impl.OK
			if !inBounds(c.number, 0, 60) || !modelSizeOK(c.w, c.h) {
				want = impl.ErrRange
			} else if !c.right {
				want = impl.ErrBad
			}
			if v, code := wantFullView(t, c.number, c.w, c.h, c.rows); code != want || code != impl.OK && !sameViews(v, impl.View{}) {
				t.Errorf("FullView(%d, %d, %d): %s, %d, not %d", c.number, c.w, c.h, viewShown(v), code, want)
			}
		}
	}
	for w := 0; w < 28; w++ {
		for h := range 14 {
			rows := motleyRows(max(w, 1), h, 0)
			for number := range 3 {
				v, code := wantFullView(t, number*30, w, h, rows)
				if right := w >= 2 && w <= 24 && h >= 2 && h <= 10; right && (code != impl.OK || !v.Full || v.From != 0 || len(v.Rows) != h || v.Rows[h-1] != (impl.Row{Y: h - 1, Cells: rows[h-1]})) || !right && code != impl.ErrRange {
					t.Errorf("FullView(%d, %d, %d): %s, %d", number*30, w, h, viewShown(v), code)
				}
			}
		}
	}
}

func TestFullAndDiffViewsOfSoManyRows(t *testing.T) {
	for _, n := range []int{0, 1, 2, 3, 4, 5, 9, 10, 11, 12, 17, 60, 61, 64, 65, 4095, 4096, 4097, 10000} {
		for _, rows := range [][]string{slices.Repeat([]string{plainRow(4, "ab")}, n), make([]string, n)} {
			for _, size := range [][3]int{{5, 4, 3}, {5, 4, 10}, {61, 4, 3}, {5, 1, 3}, {5, 4, 11}, {-1, 25, n}} {
				number, w, h := size[0], size[1], size[2]
				right := n == h && number == 5 && modelSizeOK(w, h) && rows[0] != ""
				want := impl.ErrBad
				switch {
				case n > impl.MaxList:
					want = impl.ErrLong
				case !inBounds(number, 0, 60) || !modelSizeOK(w, h):
					want = impl.ErrRange
				case right:
					want = impl.OK
				}
				_, full := wantFullView(t, number, w, h, rows)
				_, both := wantDiffView(t, 0, number, w, h, rows, rows)
				if full != want || both != want {
					t.Errorf("of %d rows with %v: %d and %d, not %d", n, size, full, both, want)
				}
				if w != 4 || h > 10 {
					continue
				}
				good := motleyRows(w, h, 0)
				_, old := wantDiffView(t, 0, number, w, h, rows, good)
				_, now := wantDiffView(t, 0, number, w, h, good, rows)
				if old != want || now != want {
					t.Errorf("of %d rows with %v beside right ones: %d and %d, not %d", n, size, old, now, want)
				}
			}
		}
	}
	for _, n := range []int{1, 2, 13, 14, 30, 62, 100, 4093} {
		good := motleyRows(4, 3, 0)
		for _, behind := range [][]string{make([]string, n), slices.Repeat(good[:1], n), slices.Repeat([]string{plainRow(5, "ab")}, n)} {
			rows := append(slices.Clone(good), behind...)
			_, full := wantFullView(t, 1, 4, 3, rows)
			_, old := wantDiffView(t, 0, 1, 4, 3, rows, good)
			_, now := wantDiffView(t, 0, 1, 4, 3, good, rows)
			if full != impl.ErrBad || old != impl.ErrBad || now != impl.ErrBad || wantMirror(t, mirrorOf(1, 4, 3, rows)) {
				t.Errorf("with %d rows behind the last: %d, %d, %d", n, full, old, now)
			}
		}
	}
	for _, none := range [][]string{nil, {}} {
		if v, code := wantFullView(t, 1, 4, 3, none); code != impl.ErrBad || !sameViews(v, impl.View{}) {
			t.Error("FullView of no rows:", viewShown(v), code)
		}
	}
}

func TestDiffViewOfEveryNumberAndSize(t *testing.T) {
	a, b := plainRows(4, "ab", "cd", "ef"), plainRows(4, "ab", "cX", "ef")
	for _, from := range numbersAround() {
		for _, number := range numbersAround() {
			v, code := impl.DiffView(from, number, 4, 3, a, b)
			right := from >= 0 && number <= 60 && from < number
			if want := someOf(from, number, 4, 3, b, 1); right && (code != impl.OK || !sameViews(v, want)) || !right && (code != impl.ErrRange || !sameViews(v, impl.View{})) {
				t.Errorf("DiffView(%d, %d): %s, %d", from, number, viewShown(v), code)
			}
		}
		for _, c := range []struct {
			from, number, w, h int
			right              bool
		}{
			{from, 20, 4, 3, from >= 0 && from < 20}, {2, from, 4, 3, from > 2 && from <= 60}, {from, from, 4, 3, false}, {0, 1, from, 3, from == 4}, {0, 1, 4, from, from == 3}, {0, 1, from, from, false}, {1, 1, from, from, false},
		} {
			want := impl.OK
			if !inBounds(c.from, 0, 59) || !inBounds(c.number, c.from+1, 60) || !modelSizeOK(c.w, c.h) {
				want = impl.ErrRange
			} else if !c.right {
				want = impl.ErrBad
			}
			if v, code := wantDiffView(t, c.from, c.number, c.w, c.h, a, b); code != want || code != impl.OK && !sameViews(v, impl.View{}) {
				t.Errorf("DiffView(%d, %d, %d, %d): %s, %d, not %d", c.from, c.number, c.w, c.h, viewShown(v), code, want)
			}
		}
	}
	for w := 1; w < 28; w++ {
		for h := range 14 {
			old, rows := motleyRows(w, h, 0), motleyRows(w, h, 0)
			if h > 0 {
				rows[h-1] = motleyRows(w, h, 1)[h-1]
			}
			v, code := wantDiffView(t, 59, 60, w, h, old, rows)
			if right := modelSizeOK(w, h); right && (code != impl.OK || len(v.Rows) != 1 || v.Rows[0] != (impl.Row{Y: h - 1, Cells: rows[h-1]})) || !right && code != impl.ErrRange {
				t.Errorf("DiffView of %d by %d: %s, %d", w, h, viewShown(v), code)
			}
		}
	}
}

// The first code counts: that of the lists' lengths, then that of the numbers, then that of the rows.
func TestCodesOfViewsInTheirOrder(t *testing.T) {
	good, bad, long := plainRows(4, "ab", "cd", "ef"), plainRows(4, "ab", "cd"), make([]string, impl.MaxList+1)
	for _, c := range []struct {
		what               string
		from, number, w, h int
		old, rows          []string
		want               int
	}{
		{"nothing", 0, 1, 4, 3, good, good, impl.OK},
		{"bad old rows", 0, 1, 4, 3, bad, good, impl.ErrBad}, {"bad rows", 0, 1, 4, 3, good, bad, impl.ErrBad}, {"both bad", 0, 1, 4, 3, bad, bad, impl.ErrBad},
		{"long old rows", 0, 1, 4, 3, long, good, impl.ErrLong}, {"long rows", 0, 1, 4, 3, good, long, impl.ErrLong}, {"long rows behind bad ones", 0, 1, 4, 3, bad, long, impl.ErrLong}, {"long rows and a Number", 0, 61, 4, 3, good, long, impl.ErrLong}, {"long old rows and a size", 0, 1, 1, 3, long, good, impl.ErrLong}, {"long old rows and From", 1, 1, 4, 3, long, bad, impl.ErrLong},
		{"a Number and bad rows", 0, 61, 4, 3, bad, bad, impl.ErrRange}, {"From at the Number and bad rows", 1, 1, 4, 3, good, bad, impl.ErrRange}, {"From above the Number and bad rows", 2, 1, 4, 3, bad, good, impl.ErrRange}, {"From of -1 and bad rows", -1, 1, 4, 3, bad, good, impl.ErrRange}, {"a width and bad rows", 0, 1, 25, 3, good, bad, impl.ErrRange}, {"a height and bad rows", 0, 1, 4, 1, bad, good, impl.ErrRange},
		{"rows of another width", 0, 1, 5, 3, good, good, impl.ErrBad}, {"rows of another height", 0, 1, 4, 2, good, good, impl.ErrBad},
	} {
		if v, code := wantDiffView(t, c.from, c.number, c.w, c.h, c.old, c.rows); code != c.want || code != impl.OK && !sameViews(v, impl.View{}) {
			t.Errorf("DiffView with %s: %s, %d, not %d", c.what, viewShown(v), code, c.want)
		}
	}
	for _, c := range []struct {
		what         string
		number, w, h int
		rows         []string
		want         int
	}{
		{"nothing", 0, 4, 3, good, impl.OK}, {"bad rows", 0, 4, 3, bad, impl.ErrBad}, {"long rows", 0, 4, 3, long, impl.ErrLong}, {"long rows and a Number", -1, 4, 3, long, impl.ErrLong}, {"long rows and a size", 0, 25, 3, long, impl.ErrLong},
		{"a Number and bad rows", 61, 4, 3, bad, impl.ErrRange}, {"a Number of -1", -1, 4, 3, good, impl.ErrRange}, {"a width and bad rows", 0, 1, 3, bad, impl.ErrRange}, {"a height and bad rows", 0, 4, 11, bad, impl.ErrRange},
	} {
		if v, code := wantFullView(t, c.number, c.w, c.h, c.rows); code != c.want || code != impl.OK && !sameViews(v, impl.View{}) {
			t.Errorf("FullView with %s: %s, %d, not %d", c.what, viewShown(v), code, c.want)
		}
	}
}

// A row differs if a single bit of it does, also of a Look alone.
func TestDiffViewOfOneBit(t *testing.T) {
	rows := plainRows(3, "abc", "  d", "efg", "hij")
	if v, code := wantDiffView(t, 0, 60, 3, 4, rows, slices.Clone(rows)); code != impl.OK || v.Full || len(v.Rows) != 0 || v.From != 0 || v.Number != 60 || v.W != 3 || v.H != 4 {
		t.Error("DiffView of rows all alike:", viewShown(v), code)
	}
	if v, code := wantDiffView(t, 0, 60, 3, 4, rows, motleyRows(3, 4, 0)); code != impl.OK || v.Full || len(v.Rows) != 4 {
		t.Error("DiffView of rows that all differ:", viewShown(v), code)
	}
	changed := 0
	for y := range rows {
		for place := range 12 {
			for bit := range 8 {
				other := slices.Clone(rows)
				b := []byte(rows[y])
				b[place] ^= 1 << bit
				other[y] = string(b)
				v, code := wantDiffView(t, 1, 2, 3, 4, rows, other)
				if code == impl.OK && !slices.Equal(v.Rows, []impl.Row{{Y: y, Cells: other[y]}}) {
					t.Errorf("DiffView of one bit in row %d: %s", y, viewShown(v))
				}
				if back, fault := wantDiffView(t, 1, 2, 3, 4, other, rows); fault != code || code == impl.OK && !slices.Equal(back.Rows, []impl.Row{{Y: y, Cells: rows[y]}}) {
					t.Errorf("DiffView back of one bit in row %d: %s, %d", y, viewShown(back), fault)
				}
				changed += oneIf(code == impl.OK)
			}
		}
	}
	if changed < 150 {
		t.Error("only", changed, "rows were right")
	}
}

// wantAccept is for what is written out by hand: the mirror's Number, and its texts with a stroke between.
func wantAccept(t *testing.T, what string, m impl.Mirror, v impl.View, number int, texts string, want int) impl.Mirror {
	t.Helper()
	got, code := wantAccepted(t, m, v)
	shown, _ := impl.MirrorText(got)
	if code != want || got.Number != number || strings.Join(shown, "/") != texts {
		t.Errorf("%s: %d %q, %d, not %d %q, %d", what, got.Number, strings.Join(shown, "/"), code, number, texts, want)
	}
	if (want == impl.ErrLate || want == impl.ErrView) && !sameMirrors(got, m) {
		t.Errorf("%s: the mirror is %s, not as it was", what, mirrorShown(got))
	}
	return got
}

func TestAcceptViewWrittenOut(t *testing.T) {
	a, b, small := plainRows(4, "ab", "cd", "ef"), plainRows(4, "xy", "cX", "zz"), plainRows(2, "p", "q")
	none := impl.Mirror{Number: -1}
	for _, number := range []int{0, 1, 60} {
		wantAccept(t, "a full one on none", none, fullOf(number, 4, 3, a), number, "ab/cd/ef", impl.OK)
	}
	for from := range 3 {
		wantAccept(t, "a part on none", none, someOf(from, 5, 4, 3, a, 0, 1, 2), -1, "", impl.ErrView)
		wantAccept(t, "an empty part on none", none, someOf(from, 5, 4, 3, nil), -1, "", impl.ErrView)
	}
	m := mirrorOf(7, 4, 3, a)
	wantAccept(t, "late", m, fullOf(6, 4, 3, b), 7, "ab/cd/ef", impl.ErrLate)
	wantAccept(t, "late by far", m, fullOf(0, 4, 3, b), 7, "ab/cd/ef", impl.ErrLate)
	wantAccept(t, "the same", m, fullOf(7, 4, 3, b), 7, "ab/cd/ef", impl.ErrLate)
	wantAccept(t, "the same of another size", m, fullOf(7, 2, 2, small), 7, "ab/cd/ef", impl.ErrLate)
	wantAccept(t, "one above", m, fullOf(8, 4, 3, b), 8, "xy/cX/zz", impl.OK)
	wantAccept(t, "far above", m, fullOf(60, 4, 3, b), 60, "xy/cX/zz", impl.OK)
	wantAccept(t, "a late part", m, someOf(5, 6, 4, 3, b, 0), 7, "ab/cd/ef", impl.ErrLate)
	wantAccept(t, "a late part of another size", m, someOf(5, 7, 2, 2, small, 0), 7, "ab/cd/ef", impl.ErrLate)
	wantAccept(t, "a part to the same Number", m, someOf(6, 7, 4, 3, b, 0), 7, "ab/cd/ef", impl.ErrLate)
	wantAccept(t, "a part from it", m, someOf(7, 8, 4, 3, b, 1), 8, "ab/cX/ef", impl.OK)
	wantAccept(t, "a part from it by far", m, someOf(7, 60, 4, 3, b, 0, 2), 60, "xy/cd/zz", impl.OK)
	wantAccept(t, "a part of all from it", m, someOf(7, 9, 4, 3, b, 0, 1, 2), 9, "xy/cX/zz", impl.OK)
	wantAccept(t, "an empty part from it", m, someOf(7, 9, 4, 3, nil), 9, "ab/cd/ef", impl.OK)
	for from := range 20 {
		if from != 7 {
			wantAccept(t, "a part from elsewhere", m, someOf(from, 20, 4, 3, b, 1), 7, "ab/cd/ef", impl.ErrView)
			wantAccept(t, "an empty part from elsewhere", m, someOf(from, 20, 4, 3, nil), 7, "ab/cd/ef", impl.ErrView)
		}
	}
	wantAccept(t, "a part of all, from elsewhere", m, someOf(6, 8, 4, 3, b, 0, 1, 2), 7, "ab/cd/ef", impl.ErrView)
	for _, size := range [][2]int{{5, 3}, {3, 3}, {4, 4}, {4, 2}, {3, 4}, {2, 2}, {24, 10}} {
		w, h := size[0], size[1]
		rows := motleyRows(w, h, 1)
		wantAccept(t, "a part of another size", m, someOf(7, 8, w, h, rows, 0), 7, "ab/cd/ef", impl.ErrView)
		wantAccept(t, "a part of all of another size", m, someOf(7, 8, w, h, rows, placesUpTo(h)...), 7, "ab/cd/ef", impl.ErrView)
		wantAccept(t, "an empty part of another size", m, someOf(7, 8, w, h, nil), 7, "ab/cd/ef", impl.ErrView)
		got, code := wantAccepted(t, m, fullOf(8, w, h, rows))
		if code != impl.OK || got.W != w || got.H != h || !slices.Equal(got.Rows, rows) {
			t.Errorf("a full one of %v: %s, %d", size, mirrorShown(got), code)
		}
	}
	wantAccept(t, "a mirror that is not right", mirrorOf(7, 4, 3, small), fullOf(8, 4, 3, b), 0, "", impl.ErrBad)
	wantAccept(t, "one of Number 61", mirrorOf(61, 4, 3, a), fullOf(8, 4, 3, b), 0, "", impl.ErrBad)
	wantAccept(t, "none with a size", impl.Mirror{Number: -1, W: 4, H: 3}, fullOf(8, 4, 3, b), 0, "", impl.ErrBad)
	wantAccept(t, "a late view that is not right", m, someOf(3, 3, 4, 3, b, 1), 0, "", impl.ErrBad)
	wantAccept(t, "a view from elsewhere that is not right", m, someOf(9, 9, 4, 3, b, 1), 0, "", impl.ErrBad)
	wantAccept(t, "a full one with a row too few", m, viewOfRows(8, 0, true, 4, 3, b, 0, 1), 0, "", impl.ErrBad)
	wantAccept(t, "an empty view", m, impl.View{}, 0, "", impl.ErrBad)
	wantAccept(t, "an empty mirror of Number 0", impl.Mirror{}, fullOf(8, 4, 3, b), 0, "", impl.ErrBad)
}

func TestAcceptViewAtEveryNumber(t *testing.T) {
	a, b := motleyRows(3, 3, 0), motleyRows(3, 3, 1)
	for known := -1; known <= 60; known++ {
		m := impl.Mirror{Number: -1}
		if known >= 0 {
			m = mirrorOf(known, 3, 3, a)
		}
		for number := range 61 {
			want := impl.OK
			if number <= known {
				want = impl.ErrLate
			}
			if got, code := wantAccepted(t, m, fullOf(number, 3, 3, b)); code != want || want == impl.OK && (got.Number != number || !slices.Equal(got.Rows, b)) || want != impl.OK && !sameMirrors(got, m) {
				t.Errorf("%d on %d: %s, %d", number, known, mirrorShown(got), code)
			}
			for _, from := range []int{0, known - 1, known, known + 1, number - 1} {
				if from < 0 || from >= number {
					continue
				}
				want := impl.OK
				if number <= known {
					want = impl.ErrLate
				} else if from != known {
					want = impl.ErrView
				}
				got, code := wantAccepted(t, m, someOf(from, number, 3, 3, b, 2))
				if code != want || want == impl.OK && !slices.Equal(got.Rows, []string{a[0], a[1], b[2]}) || want != impl.OK && !sameMirrors(got, m) {
					t.Errorf("%d from %d on %d: %s, %d, not %d", number, from, known, mirrorShown(got), code, want)
				}
			}
		}
	}
}

// viewed is a mirror that follows, beside what the views that it accepted showed.
type viewed struct {
	t    *testing.T
	m    impl.Mirror
	rows []string
}

// take hands a view on by its bytes; what it shows is held against the mirror if it was accepted.
func (f *viewed) take(v impl.View, rows []string, want int) {
	f.t.Helper()
	b, code := impl.ViewBytes(v)
	if code != impl.OK {
		f.t.Fatalf("ViewBytes(%s): %d", viewShown(v), code)
	}
	back, code := impl.ReadView(b)
	if code != impl.OK || !sameViews(back, v) {
		f.t.Fatalf("ReadView: %s, %d, not %s", viewShown(back), code, viewShown(v))
	}
	was := cloneMirror(f.m)
	got, code := wantAccepted(f.t, f.m, back)
	if code != want {
		f.t.Fatalf("AcceptView(%s, %s): %d, not %d", mirrorShown(f.m), viewShown(v), code, want)
	}
	if f.m = got; code != impl.OK {
		if !sameMirrors(got, was) {
			f.t.Fatalf("with %d the mirror is %s, not %s", code, mirrorShown(got), mirrorShown(was))
		}
		return
	}
	f.rows = rows
	if got.Number != v.Number || got.W != v.W || got.H != v.H || !slices.Equal(got.Rows, rows) {
		f.t.Fatalf("behind %s the mirror is %s, not %.200q", viewShown(v), mirrorShown(got), rows)
	}
	wantMirror(f.t, got)
}

// drawnRows are as others, but for some rows.
func drawnRows(draw *rand.Rand, w int, old []string) []string {
	rows := slices.Clone(old)
	for y := range rows {
		if draw.Intn(3) == 0 {
			rows[y] = motleyRows(w, len(rows), draw.Intn(20))[y]
		}
	}
	return rows
}

func TestRowsOfViewsOfChangingRowsAndSizes(t *testing.T) {
	t.Parallel()
	draw := rand.New(rand.NewSource(11))
	counts := map[int]int{}
	for range 300 {
		w, h := 2+draw.Intn(23), 2+draw.Intn(9)
		f := viewed{t: t, m: impl.Mirror{Number: -1}}
		first := motleyRows(w, h, 0)
		v, _ := wantFullView(t, draw.Intn(5), w, h, first)
		f.take(v, first, impl.OK)
		for f.m.Number < 60 {
			number := min(f.m.Number+1+draw.Intn(4), 60)
			rows := drawnRows(draw, w, f.rows)
			kind := draw.Intn(7)
			switch kind {
			case 0:
				w, h = 2+draw.Intn(23), 2+draw.Intn(9)
				rows = motleyRows(w, h, draw.Intn(20))
				v, _ = wantFullView(t, number, w, h, rows)
				f.take(v, rows, impl.OK)
			case 1:
				v, _ = wantFullView(t, number, w, h, rows)
				f.take(v, rows, impl.OK)
			case 2:
				v, _ = wantFullView(t, draw.Intn(f.m.Number+1), w, h, rows)
				f.take(v, rows, impl.ErrLate)
			case 3:
				from := draw.Intn(number)
				if from == f.m.Number {
					continue
				}
				v, _ = wantDiffView(t, from, number, w, h, f.rows, rows)
				f.take(v, rows, impl.ErrView)
			case 4:
				other := w%24 + 1
				if other < 2 {
					other = 2
				}
				v, _ = wantDiffView(t, f.m.Number, number, other, h, motleyRows(other, h, 0), motleyRows(other, h, draw.Intn(2)))
				f.take(v, nil, impl.ErrView)
			default:
				v, _ = wantDiffView(t, f.m.Number, number, w, h, f.rows, rows)
				f.take(v, rows, impl.OK)
			}
			counts[kind]++
		}
		if !slices.Equal(f.m.Rows, f.rows) || f.m.Number != 60 {
			t.Fatal("the mirror ends as", mirrorShown(f.m))
		}
	}
	for kind := range 7 {
		if counts[kind] < 300 {
			t.Error("drawn too seldom:", kind, counts[kind])
		}
	}
}

// However a mirror goes from one to another of a row of screens it shows just the last one, as a full view of it would.
func TestViewsOfAScreenByAnyWay(t *testing.T) {
	draw := rand.New(rand.NewSource(12))
	for range 20 {
		w, h := 2+draw.Intn(23), 2+draw.Intn(9)
		s := newScreen(t, w, h)
		var frames [][]string
		p := impl.Parser{}
		for range 61 {
			frames = append(frames, screenRows(s))
			s, p, _ = impl.FeedScreen(s, p, []byte(drawnOutput(draw, draw.Intn(8))))
		}
		for i := range frames {
			for j := i + 1; j < len(frames); j += 1 + draw.Intn(9) {
				v, code := impl.DiffView(i, j, w, h, frames[i], frames[j])
				want, _ := modelDiffView(i, j, w, h, frames[i], frames[j])
				if code != impl.OK || !sameViews(v, want) {
					t.Fatalf("DiffView from %d to %d: %s, %d", i, j, viewShown(v), code)
				}
				got, code := impl.AcceptView(mirrorOf(i, w, h, frames[i]), v)
				full, _ := impl.FullView(j, w, h, frames[j])
				other, _ := impl.AcceptView(impl.Mirror{Number: -1}, full)
				if code != impl.OK || !sameMirrors(got, mirrorOf(j, w, h, frames[j])) || !sameMirrors(got, other) {
					t.Fatalf("from %d to %d the mirror is %s, %d", i, j, mirrorShown(got), code)
				}
			}
		}
		f := viewed{t: t, m: impl.Mirror{Number: -1}}
		v, _ := wantFullView(t, 0, w, h, frames[0])
		f.take(v, frames[0], impl.OK)
		for at := 0; at < 60; at = f.m.Number {
			next := at + 1 + draw.Intn(min(5, 60-at))
			v, _ := wantDiffView(t, at, next, w, h, frames[at], frames[next])
			f.take(v, frames[next], impl.OK)
		}
		if texts, code := impl.MirrorText(f.m); code != impl.OK || !slices.Equal(texts, modelRowTexts(frames[60])) {
			t.Fatalf("MirrorText %q, %d", texts, code)
		}
	}
}

func modelRowTexts(rows []string) []string {
	var list []string
	for _, text := range rowTexts(rows) {
		list = append(list, strings.TrimRight(text, " "))
	}
	return list
}

// A window of a multiplexer is followed, through splits, kills and other sizes, to just what it shows.
func TestViewsOfAWindow(t *testing.T) {
	resized := 0
	for seed := range int64(12) {
		draw := rand.New(rand.NewSource(seed))
		m := emptyMux(20, 8)
		m, _, _ = impl.ApplyCommand(m, from(9, at(1, windowCommand("main"))))
		f := viewed{t: t, m: impl.Mirror{Number: -1}}
		for number := range 61 {
			rows, code := impl.RenderWindow(m, "main")
			if code == impl.ErrNone {
				break
			}
			v, _ := wantFullView(t, number, m.W, m.H, rows)
			if number > 0 && f.m.W == m.W && f.m.H == m.H {
				v, _ = wantDiffView(t, f.m.Number, number, m.W, m.H, f.rows, rows)
			} else if number > 0 {
				part := someOf(f.m.Number, number, m.W, m.H, rows, 0)
				f.take(part, nil, impl.ErrView)
				resized++
			}
			f.take(v, rows, impl.OK)
			for _, late := range []impl.View{v, fullOf(number, m.W, m.H, rows), fullOf(0, 2, 2, motleyRows(2, 2, 0))} {
				f.take(late, nil, impl.ErrLate)
			}
			for range 1 + draw.Intn(4) {
				c := drawnCommand(draw, m)
				if c.Kind == impl.MxRename || c.Kind == impl.MxKill && len(m.Panes) == 1 {
					continue
				}
				c.Client, c.Seq = c.Client%3, 2+number*10+draw.Intn(10)
				m, _, _ = impl.ApplyCommand(m, c)
			}
		}
	}
	if resized < 20 {
		t.Error("only", resized, "sizes changed")
	}
}

func TestViewBytesWrittenOut(t *testing.T) {
	full := fullOf(60, 2, 2, []string{cellBytes('a', 1) + cellBytes(0x20ac, 127), cellBytes(' ', 0) + cellBytes(0x10ffff, 64)})
	want := "\x03\x00\x0f\x00\x00\x3d\x00\x00\x01\x00\x00\x02\x00\x00\x03\x00\x00\x03\x00\x09\x00\x00\x00a\x01\x00\x20\xac\x7f\x00\x09\x01\x00\x00 \x00\x10\xff\xff\x40"
	if b, code := impl.ViewBytes(full); code != impl.OK || string(b) != want {
		t.Errorf("ViewBytes of a full one: %q, %d", b, code)
	}
	part := someOf(4, 9, 3, 10, plainRows(3, "", "", "", "", "", "", "", "", "", "xyz"), 9)
	want = "\x02\x00\x0f\x00\x00\x0a\x00\x00\x05\x00\x00\x01\x00\x00\x04\x00\x00\x0b\x00\x0d\x09\x00\x00x\x00\x00\x00y\x00\x00\x00z\x00"
	if b, code := impl.ViewBytes(part); code != impl.OK || string(b) != want {
		t.Errorf("ViewBytes of a part: %q, %d", b, code)
	}
	none := someOf(0, 1, 24, 2, nil)
	want = "\x01\x00\x0f\x00\x00\x02\x00\x00\x01\x00\x00\x01\x00\x00\x19\x00\x00\x03"
	if b, code := impl.ViewBytes(none); code != impl.OK || string(b) != want {
		t.Errorf("ViewBytes of one without rows: %q, %d", b, code)
	}
	for _, v := range []impl.View{full, part, none} {
		b, _ := impl.ViewBytes(v)
		if back, code := impl.ReadView(b); code != impl.OK || !sameViews(back, v) {
			t.Errorf("ReadView: %s, %d, not %s", viewShown(back), code, viewShown(v))
		}
	}
}

// someViews are right ones: full, without rows, with one of them, with some and with all, of several sizes.
func someViews() []impl.View {
	var list []impl.View
	for i, size := range sizesToTry() {
		w, h := size[0], size[1]
		rows := motleyRows(w, h, i)
		list = append(list,
			fullOf(0, w, h, rows), fullOf(60, w, h, rows), fullOf(i, w, h, plainRows(w, make([]string, h)...)), someOf(0, 60, w, h, nil), someOf(59, 60, w, h, rows, h-1),
			someOf(0, 1, w, h, rows, 0), someOf(i, i+1, w, h, rows, placesUpTo(h)...), someOf(i, 30, w, h, rows, placesUpTo(h)[:h-1]...), someOf(i, 31, w, h, rows, placesUpTo(h)[1:]...))
	}
	return list
}

// wrongViews have but one thing wrong each.
func wrongViews() []impl.View {
	rows := motleyRows(4, 3, 0)
	var list []impl.View
	for _, base := range []impl.View{fullOf(7, 4, 3, rows), someOf(5, 7, 4, 3, rows, 0, 2), someOf(5, 7, 4, 3, nil)} {
		for _, n := range []int{math.MinInt, -1, 61, 1 << 32, math.MaxInt} {
			for _, change := range []func(*impl.View){func(v *impl.View) { v.Number = n }, func(v *impl.View) { v.From = n }, func(v *impl.View) { v.W = n }, func(v *impl.View) { v.H = n }} {
				v := cloneView(base)
				change(&v)
				list = append(list, v)
			}
			for i := range base.Rows {
				v := cloneView(base)
				v.Rows[i].Y = n
				list = append(list, v)
			}
		}
		for i := range base.Rows {
			for _, cells := range []string{"", rows[0][:15], rows[0] + "\x00", rows[0] + rows[1], rows[0][:12] + cellBytes(31, 0), rows[0][:12] + cellBytes('a', 128)} {
				v := cloneView(base)
				v.Rows[i].Cells = cells
				list = append(list, v)
			}
		}
	}
	return append(list, impl.View{}, impl.View{Full: true}, viewOfRows(7, 0, true, 4, 3, rows, 0, 1), viewOfRows(7, 0, true, 4, 3, rows), viewOfRows(7, 1, true, 4, 3, rows, 0, 1, 2), someOf(7, 7, 4, 3, rows, 1), someOf(0, 0, 4, 3, nil), someOf(5, 7, 4, 3, rows, 1, 1), someOf(5, 7, 4, 3, rows, 2, 1), someOf(5, 7, 4, 2, rows, 2))
}

// someMirrors are right ones.
func someMirrors() []impl.Mirror {
	list := []impl.Mirror{{Number: -1}}
	for i, size := range sizesToTry() {
		w, h := size[0], size[1]
		list = append(list, mirrorOf(0, w, h, motleyRows(w, h, i)), mirrorOf(i, w, h, plainRows(w, make([]string, h)...)), mirrorOf(59, w, h, motleyRows(w, h, i+1)), mirrorOf(60, w, h, motleyRows(w, h, i)))
	}
	return list
}

func wrongMirrors() []impl.Mirror {
	rows := motleyRows(4, 3, 0)
	list := []impl.Mirror{{}, {Number: 1}, {Number: -2}, {Number: -1, W: 4}, {Number: -1, H: 3}, {Number: -1, Rows: rows}, {Number: -1, Rows: []string{""}}, mirrorOf(-1, 4, 3, rows)}
	for _, n := range []int{math.MinInt, -1, 0, 1, 61, 1 << 32, math.MaxInt} {
		if n != 0 && n != 1 {
			list = append(list, mirrorOf(n, 4, 3, rows))
		}
		list = append(list, mirrorOf(7, n, 3, rows), mirrorOf(7, 4, n, rows), mirrorOf(7, n, n, nil))
	}
	for y := range rows {
		for _, cells := range []string{"", rows[0][:15], rows[0] + "\x00", rows[0] + rows[1], rows[0][:12] + cellBytes(127, 0), rows[0][:12] + cellBytes('a', 255)} {
			m := mirrorOf(7, 4, 3, rows)
			m.Rows[y] = cells
			list = append(list, m)
		}
	}
	return append(list, mirrorOf(7, 4, 3, rows[:2]), mirrorOf(7, 4, 3, append(slices.Clone(rows), rows[0])), mirrorOf(7, 4, 3, make([]string, impl.MaxList+1)))
}

func TestViewsAndMirrorsThatAreRightAndNot(t *testing.T) {
	for _, v := range someViews() {
		wantViewIs(t, "a right one", v, true)
		for _, m := range someMirrors() {
			wantAccepted(t, m, v)
		}
		for _, m := range wrongMirrors() {
			if got, code := wantAccepted(t, m, v); code != impl.ErrBad || !sameMirrors(got, impl.Mirror{}) {
				t.Errorf("AcceptView(%s, %s): %s, %d", mirrorShown(m), viewShown(v), mirrorShown(got), code)
			}
		}
	}
	for _, v := range wrongViews() {
		wantViewIs(t, "a wrong one", v, false)
		for _, m := range append(someMirrors(), wrongMirrors()...) {
			if got, code := wantAccepted(t, m, v); code != impl.ErrBad || !sameMirrors(got, impl.Mirror{}) {
				t.Errorf("AcceptView(%s, %s): %s, %d", mirrorShown(m), viewShown(v), mirrorShown(got), code)
			}
		}
	}
	for _, m := range someMirrors() {
		wantMirrorIs(t, "a right one", m, true)
	}
	for _, m := range wrongMirrors() {
		wantMirrorIs(t, "a wrong one", m, false)
		if texts, code := impl.MirrorText(m); code != impl.ErrBad || len(texts) != 0 {
			t.Errorf("MirrorText(%s) = %q, %d", mirrorShown(m), texts, code)
		}
	}
}

func TestBytesThatAreNoViews(t *testing.T) {
	t.Parallel()
	read := 0
	for _, v := range someViews() {
		b := modelViewBytes(v)
		if !wantReadView(t, b) {
			t.Fatal("the bytes of", viewShown(v), "are not read")
		}
		for _, behind := range []string{"\x00", "x", "\x00\x00", string(b)} {
			if wantReadView(t, append(bytes.Clone(b), behind...)) || wantReadView(t, append([]byte(behind), b...)) {
				t.Errorf("%q around %s is read", behind, viewShown(v))
			}
		}
		for place := range b {
			if wantReadView(t, b[:place]) || wantReadView(t, b[place+1:]) {
				t.Errorf("%s cut off at %d is read", viewShown(v), place)
			}
		}
		if len(b) > 70 {
			continue
		}
		for place := range b {
			wantReadView(t, slices.Delete(bytes.Clone(b), place, place+1))
			for value := range 256 {
				changed := bytes.Clone(b)
				if changed[place] = byte(value); wantReadView(t, changed) {
					read++
				}
			}
		}
		for place := range len(b) + 1 {
			for _, value := range []byte{0, 1, 2, 3, 4, 8, 9, 'a', 127, 128, 255} {
				wantReadView(t, slices.Insert(bytes.Clone(b), place, value))
			}
		}
	}
	if read < 3000 {
		t.Error("only", read, "of those with a byte changed were right")
	}
	for _, b := range someBytes() {
		wantReadView(t, b)
	}
}

func TestNumbersThatMakeNoRightView(t *testing.T) {
	for _, v := range []impl.View{fullOf(7, 4, 3, motleyRows(4, 3, 0)), fullOf(0, 2, 2, motleyRows(2, 2, 0)), someOf(5, 7, 4, 3, motleyRows(4, 3, 0), 0, 2), someOf(5, 7, 4, 3, nil)} {
		fields := modelViewFields(v)
		for place := range 5 {
			for _, n := range []int{-1, 0, 1, 2, 3, 4, 5, 6, 7, 8, 10, 11, 24, 25, 59, 60, 61, 255, 256, 257, 65535, 65536, 65537, 16777214} {
				numbers := []int{v.Number, v.From, oneIf(v.Full), v.W, v.H}
				numbers[place] = n
				other := append([]string{modelNumbers(numbers...)}, fields[1:]...)
				if ok := wantReadView(t, fieldsOf(other)); ok && place == 2 && n != 0 && n != 1 {
					t.Errorf("Full of %d is read", n)
				}
			}
		}
		for _, numbers := range []string{"", fields[0][:12], fields[0][:14], fields[0] + "\x00", fields[0] + modelNumbers(0), strings.Repeat("\x00", 15), strings.Repeat("\xff", 15)} {
			if wantReadView(t, fieldsOf(append([]string{numbers}, fields[1:]...))) {
				t.Errorf("the numbers %q are read", numbers)
			}
		}
		for i := range fields {
			wantReadView(t, fieldsOf(slices.Delete(slices.Clone(fields), i, i+1)))
			wantReadView(t, fieldsOf(slices.Insert(slices.Clone(fields), i, fields[i])))
			wantReadView(t, fieldsOf(slices.Insert(slices.Clone(fields), i, "")))
			for j := range i {
				other := slices.Clone(fields)
				other[i], other[j] = other[j], other[i]
				if wantReadView(t, fieldsOf(other)) {
					t.Errorf("fields %d and %d of %s in another order are read", i, j, viewShown(v))
				}
			}
		}
		if wantReadView(t, fieldsOf(append(slices.Clone(fields), ""))) {
			t.Error("an empty row is read")
		}
	}
}

func TestPlacesOfRowsThatAreRead(t *testing.T) {
	for h := 2; h <= 10; h++ {
		row := motleyRows(2, 1, 0)[0]
		numbers := modelNumbers(7, 5, 0, 2, h)
		for y := range 256 {
			field := string([]byte{byte(y)}) + row
			if got := wantReadView(t, fieldsOf([]string{numbers, field})); got != (y < h) {
				t.Errorf("a row at %d of %d is read: %v", y, h, got)
			}
			if got := wantReadView(t, fieldsOf([]string{numbers, "\x00" + row, field})); got != (y > 0 && y < h) {
				t.Errorf("rows at 0 and %d of %d are read: %v", y, h, got)
			}
		}
		for _, cells := range wrongCells(2) {
			if len(cells) < 20000 && wantReadView(t, fieldsOf([]string{numbers, "\x01" + cells})) {
				t.Errorf("the cells %.100q are read", cells)
			}
		}
		for _, cells := range edgeCells(2) {
			if !wantReadView(t, fieldsOf([]string{numbers, "\x01" + cells})) {
				t.Errorf("the cells %.100q are not read", cells)
			}
		}
	}
	for _, v := range wrongViews() {
		if !inBounds(v.Number, -1, 1000) || !inBounds(v.From, -1, 1000) || !inBounds(v.W, -1, 1000) || !inBounds(v.H, -1, 1000) || slices.ContainsFunc(v.Rows, func(row impl.Row) bool { return !inBounds(row.Y, 0, 255) }) {
			continue
		}
		if b := modelViewBytes(v); wantReadView(t, b) {
			t.Errorf("the bytes of %s are read", viewShown(v))
		}
	}
}

func TestReadingViewsBeyondTheLimit(t *testing.T) {
	right := modelViewBytes(fullOf(7, 4, 3, motleyRows(4, 3, 0)))
	for _, b := range [][]byte{make([]byte, impl.MaxText+1), append(bytes.Clone(right), make([]byte, impl.MaxText)...), fieldsOf(fullFields(1)), make([]byte, 3*impl.MaxText)} {
		if v, code := impl.ReadView(b); !sameViews(v, impl.View{}) || code != impl.ErrLong {
			t.Error("ReadView", viewShown(v), code)
		}
		wantReadView(t, b)
	}
	for _, b := range [][]byte{make([]byte, impl.MaxText), append(bytes.Clone(right), make([]byte, impl.MaxText-len(right))...), fieldsOf(fullFields(0)), nil, {}, fieldsOf(nil), fieldsOf([]string{""}), fieldsOf(make([]string, 60)), fieldsOf(make([]string, 61))} {
		if v, code := impl.ReadView(b); !sameViews(v, impl.View{}) || code != impl.ErrForm {
			t.Error("ReadView", viewShown(v), code)
		}
		wantReadView(t, b)
	}
}

func TestMirrorTextWrittenOut(t *testing.T) {
	texts := func(m impl.Mirror, want ...string) {
		t.Helper()
		wantMirror(t, m)
		if got, code := impl.MirrorText(m); code != impl.OK || !slices.Equal(got, want) {
			t.Errorf("MirrorText(%s) = %q, %d, not %q", mirrorShown(m), got, code, want)
		}
	}
	texts(impl.Mirror{Number: -1})
	texts(impl.Mirror{Number: -1, Rows: []string{}})
	texts(mirrorOf(0, 4, 3, plainRows(4, "ab", "", " c d")), "ab", "", " c d")
	texts(mirrorOf(60, 4, 2, plainRows(4, " ", "   a")), "", "   a")
	texts(mirrorOf(1, 3, 2, plainRows(3, "a b", "a  ")), "a b", "a")
	texts(mirrorOf(1, 4, 2, plainRows(4, "\u00e4\u20ac\U0001f600", " \U0010ffff \ufffd")), "\u00e4\u20ac\U0001f600", " \U0010ffff \ufffd")
	texts(mirrorOf(1, 3, 2, plainRows(3, "a\u00a0\u3000", "\u0080\u2003")), "a\u00a0\u3000", "\u0080\u2003")
	looks := cellBytes('a', 127) + cellBytes(' ', 127) + cellBytes(' ', 16)
	texts(mirrorOf(1, 3, 2, []string{looks, cellBytes(' ', 64) + cellBytes('b', 1) + cellBytes(' ', 1)}), "a", " b")
	wide := strings.Repeat("\U0001f600", 24)
	texts(mirrorOf(1, 24, 2, plainRows(24, wide, wide[4:])), wide, wide[4:])
	for _, m := range wrongMirrors() {
		if got, code := impl.MirrorText(m); code != impl.ErrBad || len(got) != 0 {
			t.Errorf("MirrorText(%s) = %q, %d", mirrorShown(m), got, code)
		}
	}
}

// The texts of a mirror of a screen are just those of the screen's rows.
func TestMirrorTextIsRowText(t *testing.T) {
	for _, s := range append(someScreens(t), rightScreens(t)...) {
		v, code := wantFullView(t, 3, s.W, s.H, screenRows(s))
		if code != impl.OK {
			t.Fatal("FullView", code)
		}
		m, code := wantAccepted(t, impl.Mirror{Number: -1}, v)
		texts, fault := impl.MirrorText(m)
		if code != impl.OK || fault != impl.OK || len(texts) != s.H {
			t.Fatal("MirrorText", texts, code, fault)
		}
		for y, text := range texts {
			if want, _ := impl.RowText(s, y); text != want {
				t.Errorf("row %d is %q, not %q", y, text, want)
			}
		}
	}
}

// spoiltView writes into the rows of an answer, and behind their end as far as their memory goes.
func spoiltView(v impl.View) {
	rows := v.Rows[:cap(v.Rows)]
	for i := range rows {
		rows[i] = impl.Row{Y: -5, Cells: "spoilt"}
	}
}

func spoiltMirror(m impl.Mirror) {
	rows := m.Rows[:cap(m.Rows)]
	for i := range rows {
		rows[i] = "spoilt"
	}
}

// What is written into an answer changes no argument, also where nothing changed; what is written into an argument later changes no answer.
func TestAnswersOfViewsAreTheirOwn(t *testing.T) {
	old, rows := motleyRows(4, 3, 0), motleyRows(4, 3, 1)
	for _, c := range []struct {
		v    impl.View
		code int
	}{
		{fullOf(8, 4, 3, rows), impl.OK}, {fullOf(7, 4, 3, rows), impl.ErrLate}, {someOf(7, 9, 4, 3, rows, 1), impl.OK}, {someOf(7, 9, 4, 3, nil), impl.OK}, {someOf(6, 9, 4, 3, rows, 1), impl.ErrView}, {someOf(7, 9, 4, 3, old, 0, 1, 2), impl.OK}, {fullOf(9, 4, 3, old), impl.OK},
	} {
		m, v := mirrorOf(7, 4, 3, old), cloneView(c.v)
		got, code := impl.AcceptView(m, v)
		kept := cloneMirror(got)
		if spoiltMirror(got); code != c.code || !sameMirrors(m, mirrorOf(7, 4, 3, old)) || !sameViews(v, c.v) {
			t.Errorf("AcceptView of %s shares memory with its arguments, %d", viewShown(c.v), code)
		}
		got, _ = impl.AcceptView(m, v)
		spoiltMirror(m)
		if spoiltView(v); !sameMirrors(got, kept) {
			t.Errorf("AcceptView of %s keeps its arguments", viewShown(c.v))
		}
	}
	wasOld, was := slices.Clone(old), slices.Clone(rows)
	full, _ := impl.FullView(1, 4, 3, rows)
	diff, _ := impl.DiffView(1, 2, 4, 3, old, rows)
	clear(rows)
	if clear(old); !sameViews(full, fullOf(1, 4, 3, was)) || !sameViews(diff, someOf(1, 2, 4, 3, was, 0, 1, 2)) {
		t.Error("views keep the rows that they were made of")
	}
	spoiltView(full)
	spoiltView(diff)
	if again, code := impl.DiffView(1, 2, 4, 3, wasOld, was); code != impl.OK || !sameViews(again, someOf(1, 2, 4, 3, was, 0, 1, 2)) {
		t.Error("DiffView hangs on an earlier answer:", viewShown(again), code)
	}
	m := mirrorOf(1, 4, 3, was)
	texts, _ := impl.MirrorText(m)
	if clear(texts); !sameMirrors(m, mirrorOf(1, 4, 3, was)) {
		t.Error("MirrorText shares memory with its mirror")
	}
}
