package tests

import (
	"fmt"
	"math"
	"math/rand"
	"slices"
	"strconv"
	"strings"
	"testing"

	"loop.example/g00308/impl"
)

func sameLayout(a, b impl.Layout) bool { return slices.Equal(a.Parts, b.Parts) }

func cloneLayout(l impl.Layout) impl.Layout { return impl.Layout{Parts: slices.Clone(l.Parts)} }

func partOf(pane int) impl.Part { return impl.Part{Pane: pane, Left: -1, Right: -1} }

func columnsOf(size, left, right int) impl.Part {
	return impl.Part{Size: size, Left: left, Right: right}
}

func rowsOf(size, left, right int) impl.Part {
	return impl.Part{Rows: true, Size: size, Left: left, Right: right}
}

func areaOf(pane, x, y, w, h int) impl.Area { return impl.Area{Pane: pane, X: x, Y: y, W: w, H: h} }

// linked is a layout of parts that stand in their order; where a split's parts are hangs on that alone.
func linked(parts []impl.Part) impl.Layout {
	parts = slices.Clone(parts)
	behind := make([]int, len(parts))
	for i := len(parts) - 1; i >= 0; i-- {
		behind[i] = i + 1
		if parts[i].Pane == 0 {
			parts[i].Left, parts[i].Right = i+1, behind[i+1]
			behind[i] = behind[behind[i+1]]
		}
	}
	return impl.Layout{Parts: parts}
}

// layoutOf reads a layout's text.
func layoutOf(text string) impl.Layout {
	var parts []impl.Part
	var splits []int
	for at := 0; at < len(text); {
		switch c := text[at]; c {
		case '(':
			splits = append(splits, len(parts))
			parts = append(parts, impl.Part{})
			at++
		case '|', '-':
			n, long := digitsAt(text[at+1:])
			last := &parts[splits[len(splits)-1]]
			last.Rows, last.Size = c == '-', n
			at += long + 2
		case ')':
			splits = splits[:len(splits)-1]
			at++
		default:
			n, long := digitsAt(text[at:])
			parts = append(parts, partOf(n))
			at += long
		}
	}
	return linked(parts)
}

func digitsAt(text string) (n, long int) {
	for long < len(text) && text[long] >= '0' && text[long] <= '9' {
		n = n*10 + int(text[long]-'0')
		long++
	}
	return n, long
}

// The model goes over the list of parts from one end to the other, where a split stands ahead of all that is in it.

func modelPlaces(l impl.Layout, w, h int) []impl.Area {
	places := make([]impl.Area, len(l.Parts))
	places[0] = impl.Area{W: w, H: h}
	for i, part := range l.Parts {
		if part.Pane != 0 {
			places[i].Pane = part.Pane
			continue
		}
		left, right := places[i], places[i]
		if part.Rows {
			left.H, right.H, right.Y = part.Size, right.H-part.Size, right.Y+part.Size
		} else {
			left.W, right.W, right.X = part.Size, right.W-part.Size, right.X+part.Size
		}
		places[part.Left], places[part.Right] = left, right
	}
	return places
}

func modelAreas(l impl.Layout, w, h int) []impl.Area {
	return slices.DeleteFunc(modelPlaces(l, w, h), func(a impl.Area) bool { return a.Pane == 0 })
}

// modelNeeds are the columns and rows that each part needs.
func modelNeeds(l impl.Layout) [][2]int {
	needs := make([][2]int, len(l.Parts))
	for i := len(l.Parts) - 1; i >= 0; i-- {
		part := l.Parts[i]
		if part.Pane != 0 {
			needs[i] = [2]int{2, 2}
			continue
		}
		along := 0
		if part.Rows {
			along = 1
		}
		across := 1 - along
		left, right := needs[part.Left], needs[part.Right]
		needs[i][along] = left[along] + right[along]
		needs[i][across] = left[across]
		if right[across] > left[across] {
			needs[i][across] = right[across]
		}
	}
	return needs
}

// modelSized has each Size, from the first one on, as pick tells it of the Size, and of the least and the most that leave both parts what they need.
func modelSized(l impl.Layout, w, h int, pick func(size, least, most int) int) impl.Layout {
	l = cloneLayout(l)
	needs := modelNeeds(l)
	for i := range l.Parts {
		part := &l.Parts[i]
		if part.Pane != 0 {
			continue
		}
		place := modelPlaces(l, w, h)[i]
		side, along := place.W, 0
		if part.Rows {
			side, along = place.H, 1
		}
		part.Size = pick(part.Size, needs[part.Left][along], side-needs[part.Right][along])
	}
	return l
}

// nearest looks for the Size one by one, ever farther off.
func nearest(size, least, most int) int {
	for off := 0; ; off++ {
		for _, n := range []int{size - off, size + off} {
			if n >= least && n <= most {
				return n
			}
		}
	}
}

func modelFits(l impl.Layout, w, h int) bool {
	needs := modelNeeds(l)[0]
	return needs[0] <= w && needs[1] <= h
}

func modelFit(l impl.Layout, w, h int) impl.Layout { return modelSized(l, w, h, nearest) }

func modelIndex(l impl.Layout, pane int) int {
	return slices.IndexFunc(l.Parts, func(part impl.Part) bool { return pane != 0 && part.Pane == pane })
}

// modelAbove is the place of the split that the part at i is itself a part of, -1 of the first one.
func modelAbove(l impl.Layout, i int) int {
	return slices.IndexFunc(l.Parts, func(part impl.Part) bool { return part.Pane == 0 && (part.Left == i || part.Right == i) })
}

func modelPanes(l impl.Layout) []int {
	var panes []int
	for _, part := range l.Parts {
		if part.Pane != 0 {
			panes = append(panes, part.Pane)
		}
	}
	return panes
}

func modelSplit(l impl.Layout, w, h, pane, fresh int, rows bool) (impl.Layout, int) {
	panes := modelPanes(l)
	switch {
	case !slices.Contains(panes, pane):
		return l, impl.ErrNone
	case slices.Contains(panes, fresh):
		return l, impl.ErrTwice
	case len(panes) == 6:
		return l, impl.ErrFull
	}
	i := modelIndex(l, pane)
	side := modelPlaces(l, w, h)[i].W
	if rows {
		side = modelPlaces(l, w, h)[i].H
	}
	if side < 4 {
		return l, impl.ErrSmall
	}
	split := impl.Part{Rows: rows, Size: (side - side%2) / 2}
	return linked(slices.Replace(slices.Clone(l.Parts), i, i+1, split, partOf(pane), partOf(fresh))), impl.OK
}

// modelSplitOf is the place of the pane, that of its split, and the code without one of them.
func modelSplitOf(l impl.Layout, pane int) (i, above, code int) {
	i = modelIndex(l, pane)
	if i < 0 {
		return 0, 0, impl.ErrNone
	}
	above = modelAbove(l, i)
	if above < 0 {
		return 0, 0, impl.ErrLast
	}
	return i, above, impl.OK
}

// modelKill takes the pane and its split out of the list: what is left stands in its order already.
func modelKill(l impl.Layout, w, h, pane int) (impl.Layout, int) {
	i, above, code := modelSplitOf(l, pane)
	if code != impl.OK {
		return l, code
	}
	parts := slices.Delete(slices.Clone(l.Parts), i, i+1)
	return modelFit(linked(slices.Delete(parts, above, above+1)), w, h), impl.OK
}

func modelMove(l impl.Layout, w, h, pane, by int) (impl.Layout, int) {
	if by < -100 || by > 100 {
		return impl.Layout{}, impl.ErrRange
	}
	_, above, code := modelSplitOf(l, pane)
	if code != impl.OK {
		return l, code
	}
	l = cloneLayout(l)
	l.Parts[above].Size += by
	return modelFit(l, w, h), impl.OK
}

func modelScreenSize(w, h int) bool { return w >= 2 && w <= 24 && h >= 2 && h <= 10 }

func modelFitLayout(l impl.Layout, nw, nh int) (impl.Layout, int) {
	if !modelScreenSize(nw, nh) {
		return impl.Layout{}, impl.ErrRange
	}
	if !modelFits(l, nw, nh) {
		return l, impl.ErrSmall
	}
	return modelFit(l, nw, nh), impl.OK
}

// modelText is made from the last part on, of the texts of the parts behind it.
func modelLayoutText(l impl.Layout) string {
	texts := make([]string, len(l.Parts))
	for i := len(l.Parts) - 1; i >= 0; i-- {
		part := l.Parts[i]
		switch {
		case part.Pane != 0:
			texts[i] = strconv.Itoa(part.Pane)
		case part.Rows:
			texts[i] = fmt.Sprintf("(%s-%d-%s)", texts[part.Left], part.Size, texts[part.Right])
		default:
			texts[i] = fmt.Sprintf("(%s|%d|%s)", texts[part.Left], part.Size, texts[part.Right])
		}
	}
	return texts[0]
}

// modelOrdered counts the parts that are still awaited: none is left behind the last one, and one at least ahead of each.
func modelOrdered(parts []impl.Part) bool {
	awaited := 1
	for _, part := range parts {
		if awaited == 0 {
			return false
		}
		if awaited--; part.Pane == 0 {
			awaited += 2
		}
	}
	return awaited == 0
}

func modelLayoutOK(l impl.Layout, w, h int) bool {
	panes := modelPanes(l)
	if !modelScreenSize(w, h) || len(panes) < 1 || len(panes) > 6 || !modelOrdered(l.Parts) || !sameLayout(l, linked(l.Parts)) {
		return false
	}
	for _, part := range l.Parts {
		if part.Pane != 0 && (part != partOf(part.Pane) || part.Pane < 1 || part.Pane > 1000) {
			return false
		}
		if part.Pane == 0 && (part.Size < 2 || part.Size > 22) {
			return false
		}
	}
	for _, area := range modelAreas(l, w, h) {
		if area.W < 2 || area.H < 2 {
			return false
		}
	}
	slices.Sort(panes)
	return len(slices.Compact(panes)) == len(modelPanes(l))
}

// shapes are all ways in which n panes may be laid out, without Sizes; a pane's number is told by nothing yet.
func shapes(n int) [][]impl.Part {
	if n == 1 {
		return [][]impl.Part{{partOf(1)}}
	}
	var list [][]impl.Part
	for first := 1; first < n; first++ {
		for _, left := range shapes(first) {
			for _, right := range shapes(n - first) {
				list = append(list, slices.Concat([]impl.Part{{}}, left, right), slices.Concat([]impl.Part{{Rows: true}}, left, right))
			}
		}
	}
	return list
}

// shapesUpTo are the layouts of 1 to n panes of every shape; their numbers neither rise nor fall.
func shapesUpTo(n int) []impl.Layout {
	numbers := []int{7, 1000, 1, 42, 3, 999}
	var list []impl.Layout
	for count := 1; count <= n; count++ {
		for _, parts := range shapes(count) {
			next := 0
			for i := range parts {
				if parts[i].Pane != 0 {
					parts[i].Pane = numbers[next]
					next++
				}
			}
			list = append(list, linked(parts))
		}
	}
	return list
}

func leastSize(_, least, _ int) int { return least }

func mostSize(_, _, most int) int { return most }

func middleSize(_, least, most int) int { return (least + most) / 2 }

// laid is a layout that is right for its size.
type laid struct {
	l    impl.Layout
	w, h int
}

func (a laid) String() string {
	return fmt.Sprintf("%s of %d by %d", modelLayoutText(a.l), a.w, a.h)
}

// laidOut are the layouts of 1 to n panes of every shape that a screen has room for: in just what they need, a little more, and all.
func laidOut(n int) []laid {
	var list []laid
	for _, shape := range shapesUpTo(n) {
		if !modelFits(shape, 24, 10) {
			continue
		}
		needs := modelNeeds(shape)[0]
		add := func(w, h int, pick func(size, least, most int) int) {
			list = append(list, laid{modelSized(shape, w, h, pick), w, h})
		}
		add(needs[0], needs[1], leastSize)
		add(min(needs[0]+3, 24), min(needs[1]+1, 10), mostSize)
		add(24, 10, leastSize)
		add(24, 10, middleSize)
		add(23, max(9, needs[1]), mostSize)
	}
	return list
}

func wantLayout(t *testing.T, what string, got impl.Layout, code int, want impl.Layout, wantCode int) {
	t.Helper()
	if code != wantCode || !sameLayout(got, want) {
		t.Errorf("%s: %+v, %d; want %+v, %d", what, got.Parts, code, want.Parts, wantCode)
	}
}

func TestLayoutConstants(t *testing.T) {
	if impl.MaxPanes != 6 {
		t.Error("MaxPanes", impl.MaxPanes)
	}
}

func TestOneLayout(t *testing.T) {
	for pane := -5; pane <= 1005; pane++ {
		l, code := impl.OneLayout(pane)
		if pane < 1 || pane > 1000 {
			wantLayout(t, fmt.Sprint("OneLayout ", pane), l, code, impl.Layout{}, impl.ErrRange)
			continue
		}
		wantLayout(t, fmt.Sprint("OneLayout ", pane), l, code, impl.Layout{Parts: []impl.Part{{Pane: pane, Left: -1, Right: -1}}}, impl.OK)
		if !impl.LayoutOK(l, 2, 2) || !impl.LayoutOK(l, 24, 10) {
			t.Error("LayoutOK of OneLayout", pane)
		}
	}
	for _, pane := range []int{math.MinInt, math.MaxInt, 1 << 32, 1<<32 + 1, -1 << 32} {
		l, code := impl.OneLayout(pane)
		wantLayout(t, fmt.Sprint("OneLayout ", pane), l, code, impl.Layout{}, impl.ErrRange)
	}
}

// wantCovered asks of areas that they cover each place of the whole once, none less than 2 by 2.
func wantCovered(t *testing.T, of string, areas []impl.Area, w, h int) {
	t.Helper()
	covered := make([]int, w*h)
	for _, a := range areas {
		if a.W < 2 || a.H < 2 || a.X < 0 || a.Y < 0 || a.X+a.W > w || a.Y+a.H > h {
			t.Fatalf("%s: the area %+v", of, a)
		}
		for y := a.Y; y < a.Y+a.H; y++ {
			for x := a.X; x < a.X+a.W; x++ {
				covered[y*w+x]++
			}
		}
	}
	if slices.Min(covered) != 1 || slices.Max(covered) != 1 {
		t.Errorf("%s: %v covers places %v times", of, areas, covered)
	}
}

func TestAreasOfEveryShapeCoverEachPlaceOnce(t *testing.T) {
	var counts [7]int
	for _, a := range laidOut(6) {
		areas, code := impl.LayoutAreas(a.l, a.w, a.h)
		if !impl.LayoutOK(a.l, a.w, a.h) || !modelLayoutOK(a.l, a.w, a.h) || code != impl.OK {
			t.Fatal("not right:", a, code)
		}
		wantCovered(t, a.String(), areas, a.w, a.h)
		if !slices.Equal(areas, modelAreas(a.l, a.w, a.h)) {
			t.Errorf("LayoutAreas of %v: %v", a, areas)
		}
		var panes []int
		for _, area := range areas {
			panes = append(panes, area.Pane)
		}
		if !slices.Equal(panes, modelPanes(a.l)) {
			t.Errorf("%v has the panes %v", a, panes)
		}
		counts[len(panes)]++
	}
	// Of six panes only those have no room that all stand one below the other.
	if want := [7]int{0, 5 * 1, 5 * 2, 5 * 8, 5 * 40, 5 * 224, 5 * (1344 - 42)}; counts != want {
		t.Errorf("layouts of so many panes: %v, want %v", counts, want)
	}
}

func TestAreasWrittenOut(t *testing.T) {
	for _, c := range []struct {
		text string
		w, h int
		want []impl.Area
	}{
		{"5", 2, 2, []impl.Area{areaOf(5, 0, 0, 2, 2)}},
		{"5", 24, 10, []impl.Area{areaOf(5, 0, 0, 24, 10)}},
		{"(2|2|1)", 4, 2, []impl.Area{areaOf(2, 0, 0, 2, 2), areaOf(1, 2, 0, 2, 2)}},
		{"(2-2-1)", 2, 4, []impl.Area{areaOf(2, 0, 0, 2, 2), areaOf(1, 0, 2, 2, 2)}},
		{"(2|3|1)", 24, 10, []impl.Area{areaOf(2, 0, 0, 3, 10), areaOf(1, 3, 0, 21, 10)}},
		{"(2-3-1)", 24, 10, []impl.Area{areaOf(2, 0, 0, 24, 3), areaOf(1, 0, 3, 24, 7)}},
		{"((4|5|3)-6-(2|7|1))", 12, 9, []impl.Area{areaOf(4, 0, 0, 5, 6), areaOf(3, 5, 0, 7, 6), areaOf(2, 0, 6, 7, 3), areaOf(1, 7, 6, 5, 3)}},
		{"((4-5-3)|6|(2-7-1))", 12, 9, []impl.Area{areaOf(4, 0, 0, 6, 5), areaOf(3, 0, 5, 6, 4), areaOf(2, 6, 0, 6, 7), areaOf(1, 6, 7, 6, 2)}},
		{"(1|4|(2|5|(3|6|4)))", 20, 5, []impl.Area{areaOf(1, 0, 0, 4, 5), areaOf(2, 4, 0, 5, 5), areaOf(3, 9, 0, 6, 5), areaOf(4, 15, 0, 5, 5)}},
		{"(((1-2-2)-4-3)-6-4)", 3, 9, []impl.Area{areaOf(1, 0, 0, 3, 2), areaOf(2, 0, 2, 3, 2), areaOf(3, 0, 4, 3, 2), areaOf(4, 0, 6, 3, 3)}},
		{"(1|4|(2-3-(3|5|(4-2-(5|3|6)))))", 14, 8, []impl.Area{areaOf(1, 0, 0, 4, 8), areaOf(2, 4, 0, 10, 3), areaOf(3, 4, 3, 5, 5), areaOf(4, 9, 3, 5, 2), areaOf(5, 9, 5, 3, 3), areaOf(6, 12, 5, 2, 3)}},
	} {
		areas, code := impl.LayoutAreas(layoutOf(c.text), c.w, c.h)
		if code != impl.OK || !slices.Equal(areas, c.want) {
			t.Errorf("%s: %v, %d", c.text, areas, code)
		}
		wantCovered(t, c.text, areas, c.w, c.h)
	}
}

func TestPartsAndTextsWrittenOut(t *testing.T) {
	for _, c := range []struct {
		text string
		want []impl.Part
	}{
		{"12", []impl.Part{partOf(12)}},
		{"(3|4|1000)", []impl.Part{columnsOf(4, 1, 2), partOf(3), partOf(1000)}},
		{"(3-5-2)", []impl.Part{rowsOf(5, 1, 2), partOf(3), partOf(2)}},
		{"((1-4-2)|10|3)", []impl.Part{columnsOf(10, 1, 4), rowsOf(4, 2, 3), partOf(1), partOf(2), partOf(3)}},
		{"(1|10|(2-4-3))", []impl.Part{columnsOf(10, 1, 2), partOf(1), rowsOf(4, 3, 4), partOf(2), partOf(3)}},
		{"((1|2|2)-4-(3|12|4))", []impl.Part{rowsOf(4, 1, 4), columnsOf(2, 2, 3), partOf(1), partOf(2), columnsOf(12, 5, 6), partOf(3), partOf(4)}},
	} {
		l := impl.Layout{Parts: c.want}
		text, code := impl.LayoutText(l, 24, 10)
		if text != c.text || code != impl.OK || !impl.LayoutOK(l, 24, 10) {
			t.Errorf("%s: %q, %d", c.text, text, code)
		}
		if !sameLayout(layoutOf(c.text), l) {
			t.Fatal("the tests read otherwise:", c.text)
		}
	}
}

func TestTextsOfEveryShape(t *testing.T) {
	for _, a := range laidOut(6) {
		text, code := impl.LayoutText(a.l, a.w, a.h)
		if text != modelLayoutText(a.l) || code != impl.OK {
			t.Errorf("LayoutText of %v: %q, %d", a, text, code)
		}
		if !sameLayout(layoutOf(text), a.l) {
			t.Errorf("the text of %v is not that of its parts", a)
		}
	}
}

// everySize are splits of all Sizes from -1 to most.
func everySize(l impl.Layout, most int, do func(l impl.Layout)) {
	l = cloneLayout(l)
	var set func(from int)
	set = func(from int) {
		for from < len(l.Parts) && l.Parts[from].Pane != 0 {
			from++
		}
		if from == len(l.Parts) {
			do(l)
			return
		}
		for size := -1; size <= most; size++ {
			l.Parts[from].Size = size
			set(from + 1)
		}
	}
	set(0)
}

func TestLayoutsOfEverySize(t *testing.T) {
	right := 0
	for _, shape := range shapesUpTo(4) {
		sizes := [][2]int{{2, 2}, {4, 2}, {5, 3}, {2, 5}, {6, 4}, {4, 6}, {8, 8}, {9, 4}}
		everySize(shape, 10, func(l impl.Layout) {
			for _, size := range sizes {
				want := modelLayoutOK(l, size[0], size[1])
				if impl.LayoutOK(l, size[0], size[1]) != want {
					t.Fatalf("LayoutOK of %+v for %v is not %v", l.Parts, size, want)
				}
				if want {
					right++
				}
			}
		})
	}
	if right < 500 {
		t.Error("only", right, "layouts were right")
	}
}

func TestSizesOfScreens(t *testing.T) {
	for _, l := range []impl.Layout{layoutOf("1"), layoutOf("(1|2|2)"), layoutOf("(1-2-2)"), layoutOf("(1|2|(2-3-3))")} {
		for _, w := range []int{math.MinInt, -2, -1, 0, 1, 2, 3, 4, 5, 23, 24, 25, 1 << 32, math.MaxInt} {
			for _, h := range []int{math.MinInt, -2, -1, 0, 1, 2, 3, 4, 5, 9, 10, 11, 1 << 32, math.MaxInt} {
				if want := modelLayoutOK(l, w, h); impl.LayoutOK(l, w, h) != want {
					t.Errorf("LayoutOK of %s for %d by %d is not %v", modelLayoutText(l), w, h, want)
				}
				if !modelLayoutOK(l, w, h) {
					wantBadLayout(t, l, w, h)
				}
			}
		}
	}
	one := layoutOf("1")
	for _, c := range []struct {
		w, h  int
		right bool
	}{{1, 5, false}, {2, 2, true}, {24, 10, true}, {25, 5, false}, {5, 1, false}, {5, 11, false}, {24, 2, true}, {2, 10, true}} {
		if impl.LayoutOK(one, c.w, c.h) != c.right {
			t.Error("LayoutOK of one pane for", c)
		}
	}
}

// wantBadLayout holds every call against ErrBad with nothing else, whatever other faults there are.
func wantBadLayout(t *testing.T, l impl.Layout, w, h int) {
	t.Helper()
	what := fmt.Sprintf("of %.300s for %d by %d", fmt.Sprintf("%+v", l.Parts), w, h)
	if impl.LayoutOK(l, w, h) {
		t.Error("LayoutOK", what)
	}
	if areas, code := impl.LayoutAreas(l, w, h); code != impl.ErrBad || len(areas) != 0 {
		t.Error("LayoutAreas", what, areas, code)
	}
	if text, code := impl.LayoutText(l, w, h); code != impl.ErrBad || text != "" {
		t.Error("LayoutText", what, text, code)
	}
	for _, n := range []int{-1, 0, 1, 2, 9, 1000, 1001} {
		got, code := impl.SplitArea(l, w, h, 1, n, n == 9)
		wantLayout(t, fmt.Sprint("SplitArea ", what), got, code, impl.Layout{}, impl.ErrBad)
		got, code = impl.SplitArea(l, w, h, n, 9, n != 9)
		wantLayout(t, fmt.Sprint("SplitArea ", what), got, code, impl.Layout{}, impl.ErrBad)
		got, code = impl.KillArea(l, w, h, n)
		wantLayout(t, fmt.Sprint("KillArea ", what), got, code, impl.Layout{}, impl.ErrBad)
		got, code = impl.MoveSplit(l, w, h, n, 1)
		wantLayout(t, fmt.Sprint("MoveSplit ", what), got, code, impl.Layout{}, impl.ErrBad)
		got, code = impl.MoveSplit(l, w, h, 1, n)
		wantLayout(t, fmt.Sprint("MoveSplit ", what), got, code, impl.Layout{}, impl.ErrBad)
		got, code = impl.FitLayout(l, w, h, n, 5)
		wantLayout(t, fmt.Sprint("FitLayout ", what), got, code, impl.Layout{}, impl.ErrBad)
		got, code = impl.FitLayout(l, w, h, 20, n)
		wantLayout(t, fmt.Sprint("FitLayout ", what), got, code, impl.Layout{}, impl.ErrBad)
	}
}

// wrongLayouts are such as are right for no size.
func wrongLayouts() []impl.Layout {
	list := []impl.Layout{
		{},
		layoutOf("(1|2|(2|2|(3|2|(4|2|(5|2|(6|2|7))))))"),
		layoutOf("(((1|2|2)-4-(3|2|4))|5|((5|2|6)-4-7))"),
		layoutOf("(1-2-(2-2-(3-2-(4-2-(5-2-6)))))"),
	}
	for _, parts := range slices.Concat(wrongPanes(), wrongSplits(), strayParts(), wrongSizes()) {
		list = append(list, impl.Layout{Parts: parts})
	}
	return append(list, manyParts(50)...)
}

// wrongPanes have a pane that is none, or stands twice.
func wrongPanes() [][]impl.Part {
	one, two := partOf(1), partOf(2)
	list := [][]impl.Part{
		{{Pane: 1, Rows: true, Left: -1, Right: -1}},
		{rowsOf(2, 1, 2), one, {Pane: 2, Rows: true, Left: -1, Right: -1}},
		{columnsOf(2, 1, 2), one, one},
		{rowsOf(2, 1, 2), two, two},
		{columnsOf(2, 1, 2), one, rowsOf(2, 3, 4), two, one},
		{columnsOf(2, 1, 2), one, rowsOf(2, 3, 4), two, two},
		{columnsOf(2, 1, 4), rowsOf(2, 2, 3), one, two, one},
	}
	for _, pane := range []int{0, -1, 1001, 1 << 32, 1<<32 + 1, math.MaxInt, math.MinInt} {
		list = append(list, []impl.Part{partOf(pane)}, []impl.Part{columnsOf(2, 1, 2), one, partOf(pane)}, []impl.Part{rowsOf(2, 1, 2), partOf(pane), two})
	}
	for _, n := range []int{-3, -2, 0, 1, 2, 3, 1 << 32, math.MaxInt, math.MinInt} {
		for _, wrong := range []impl.Part{{Pane: 5, Left: n, Right: -1}, {Pane: 5, Left: -1, Right: n}, {Pane: 5, Left: n, Right: n}} {
			list = append(list, []impl.Part{wrong}, []impl.Part{columnsOf(2, 1, 2), one, wrong}, []impl.Part{rowsOf(2, 1, 2), wrong, one})
		}
	}
	for _, n := range []int{-2, -1, 1, 2, 3, math.MaxInt, math.MinInt} {
		wrong := impl.Part{Pane: 5, Size: n, Left: -1, Right: -1}
		list = append(list, []impl.Part{wrong}, []impl.Part{columnsOf(2, 1, 2), one, wrong})
	}
	return list
}

// wrongSplits lead elsewhere than to where their parts stand.
func wrongSplits() [][]impl.Part {
	one, two, three := partOf(1), partOf(2), partOf(3)
	list := [][]impl.Part{
		{columnsOf(2, 1, 2), rowsOf(2, 3, 4), one, two, three},
		{columnsOf(2, 2, 1), one, two},
		{columnsOf(2, 2, 1), one, rowsOf(2, 3, 4), two, three},
		{columnsOf(2, 4, 1), rowsOf(2, 2, 3), one, two, three},
		{columnsOf(2, 3, 4), one, rowsOf(2, 1, 4), two, three},
		{one, two, columnsOf(2, 0, 1)},
		{one, columnsOf(2, 0, 2), two},
	}
	for _, n := range []int{-2, -1, 0, 1, 2, 3, 4, 1 << 32, 1<<32 + 1, 1<<32 + 2, math.MaxInt, math.MinInt} {
		if n != 1 {
			list = append(list, []impl.Part{columnsOf(2, n, 2), one, two}, []impl.Part{rowsOf(2, n, 2), one, two})
		}
		if n != 2 {
			list = append(list, []impl.Part{columnsOf(2, 1, n), one, two}, []impl.Part{rowsOf(2, 1, n), one, two})
		}
	}
	for n := -1; n <= 6; n++ {
		for m := -1; m <= 6; m++ {
			if n != 3 || m != 4 {
				list = append(list, []impl.Part{columnsOf(2, 1, 2), one, rowsOf(2, n, m), two, three})
			}
			if n != 2 || m != 3 {
				list = append(list, []impl.Part{rowsOf(2, 1, 4), columnsOf(2, n, m), one, two, three})
			}
			if n != 1 || m != 4 {
				list = append(list, []impl.Part{rowsOf(2, n, m), columnsOf(2, 2, 3), one, two, three})
			}
		}
	}
	return list
}

// strayParts have some that nothing leads to, or too few.
func strayParts() [][]impl.Part {
	one, two, three := partOf(1), partOf(2), partOf(3)
	return [][]impl.Part{
		{one, two},
		{one, columnsOf(2, 2, 3), two, three},
		{columnsOf(2, 1, 2), one, two, three},
		{columnsOf(2, 1, 2), one, two, rowsOf(2, 4, 5), three, partOf(4)},
		{columnsOf(2, 1, 2), one, two, rowsOf(2, 0, 1)},
		{columnsOf(2, 1, 2), one},
		{columnsOf(2, 1, 2)},
		{columnsOf(2, 1, 4), rowsOf(2, 2, 3), one, two},
		{columnsOf(2, 0, 0)},
		{columnsOf(2, 1, 2), columnsOf(2, 0, 2), one},
	}
}

// wrongSizes leave a part less than two columns or rows in every screen; sums of the greatest ones wrap round.
func wrongSizes() [][]impl.Part {
	one, two, three, four := partOf(1), partOf(2), partOf(3), partOf(4)
	var list [][]impl.Part
	for _, size := range []int{1, 0, -1, -2, 23, 24, 25, math.MinInt, math.MinInt + 1, math.MinInt + 25, math.MaxInt, math.MaxInt - 1, 1 << 32, 1<<32 + 2} {
		list = append(list,
			[]impl.Part{columnsOf(size, 1, 2), one, two},
			[]impl.Part{rowsOf(size, 1, 2), one, two},
			[]impl.Part{columnsOf(2, 1, 2), one, columnsOf(size, 3, 4), two, three},
			[]impl.Part{columnsOf(2, 1, 4), rowsOf(size, 2, 3), one, two, three},
			[]impl.Part{columnsOf(size, 1, 4), columnsOf(-size, 2, 3), one, two, columnsOf(size, 5, 6), three, four},
			[]impl.Part{rowsOf(size, 1, 4), rowsOf(size, 2, 3), one, two, rowsOf(-size, 5, 6), three, four},
			[]impl.Part{columnsOf(size, 1, 2), one, columnsOf(size, 3, 4), two, columnsOf(size, 5, 6), three, four})
	}
	return list
}

// manyParts are of so many panes, one in the other's split, side by side, and without an end.
func manyParts(n int) []impl.Layout {
	var right, left, splits []impl.Part
	for i := range n - 1 {
		right = append(right, impl.Part{Size: 2}, partOf(i+1))
		left = append(left, impl.Part{Size: 2})
		splits = append(splits, impl.Part{Size: 2, Left: i + 1, Right: i + 2})
	}
	for i := range n {
		left = append(left, partOf(i+1))
	}
	panes := left[n-1:]
	return []impl.Layout{linked(append(right, partOf(n))), linked(left), {Parts: splits}, {Parts: panes}}
}

func TestLayoutsThatAreNotRight(t *testing.T) {
	for _, l := range wrongLayouts() {
		for _, size := range [][2]int{{24, 10}, {20, 8}, {4, 2}, {2, 4}, {2, 2}, {0, 0}} {
			if modelLayoutOK(l, size[0], size[1]) {
				t.Fatalf("the model takes %+v for %v", l.Parts, size)
			}
			wantBadLayout(t, l, size[0], size[1])
		}
	}
}

func TestVeryManyParts(t *testing.T) {
	for _, n := range []int{7, 2048, 4096, 5000, 200000} {
		for _, l := range manyParts(n) {
			wantBadLayout(t, l, 24, 10)
		}
	}
}

func TestMaxPanesAndOneMore(t *testing.T) {
	six := layoutOf("(1|2|(2|2|(3|2|(4|2|(5|2|6)))))")
	if !impl.LayoutOK(six, 12, 2) || !impl.LayoutOK(six, 24, 10) || impl.LayoutOK(six, 11, 2) {
		t.Error("LayoutOK of six panes")
	}
	if impl.LayoutOK(layoutOf("(1|2|(2|2|(3|2|(4|2|(5|2|(6|2|7))))))"), 24, 10) {
		t.Error("LayoutOK of seven panes")
	}
}

// TestEveryPartOfALayoutChanged sets each field of each part to other values, and takes parts out and puts some in.
func TestEveryPartOfALayoutChanged(t *testing.T) {
	values := []int{math.MinInt, -2, -1, 0, 1, 2, 3, 4, 5, 6, 7, 8, 9, 10, 20, 22, 23, 42, 999, 1000, 1001, 1 << 32, math.MaxInt}
	hold := func(l impl.Layout, w, h int) {
		t.Helper()
		if want := modelLayoutOK(l, w, h); impl.LayoutOK(l, w, h) != want {
			t.Errorf("LayoutOK of %+v for %d by %d is not %v", l.Parts, w, h, want)
		}
	}
	for _, a := range laidOut(4) {
		for i := range a.l.Parts {
			for field := range 4 {
				for _, n := range values {
					l := cloneLayout(a.l)
					*[]*int{&l.Parts[i].Pane, &l.Parts[i].Size, &l.Parts[i].Left, &l.Parts[i].Right}[field] = n
					hold(l, a.w, a.h)
				}
			}
			l := cloneLayout(a.l)
			l.Parts[i].Rows = !l.Parts[i].Rows
			hold(l, a.w, a.h)
			hold(impl.Layout{Parts: slices.Delete(slices.Clone(a.l.Parts), i, i+1)}, a.w, a.h)
			hold(impl.Layout{Parts: slices.Insert(slices.Clone(a.l.Parts), i+1, partOf(55))}, a.w, a.h)
			hold(impl.Layout{Parts: slices.Insert(slices.Clone(a.l.Parts), i, a.l.Parts[0])}, a.w, a.h)
			for j := range a.l.Parts {
				l := cloneLayout(a.l)
				l.Parts[i], l.Parts[j] = l.Parts[j], l.Parts[i]
				hold(l, a.w, a.h)
			}
		}
	}
}

func TestHalvesOfEverySize(t *testing.T) {
	for w := 2; w <= 24; w++ {
		for h := 2; h <= 10; h++ {
			one := layoutOf("1")
			for _, rows := range []bool{false, true} {
				got, code := impl.SplitArea(one, w, h, 1, 2, rows)
				want, wantCode := modelSplit(one, w, h, 1, 2, rows)
				wantLayout(t, fmt.Sprintf("SplitArea of %d by %d, rows %v", w, h, rows), got, code, want, wantCode)
			}
		}
	}
	for _, c := range []struct {
		w, h          int
		columns, rows string
	}{
		{2, 2, "", ""}, {3, 3, "", ""}, {4, 4, "(1|2|2)", "(1-2-2)"}, {5, 5, "(1|2|2)", "(1-2-2)"},
		{6, 6, "(1|3|2)", "(1-3-2)"}, {7, 7, "(1|3|2)", "(1-3-2)"}, {4, 3, "(1|2|2)", ""}, {3, 4, "", "(1-2-2)"},
		{24, 10, "(1|12|2)", "(1-5-2)"}, {23, 9, "(1|11|2)", "(1-4-2)"}, {2, 5, "", "(1-2-2)"}, {5, 2, "(1|2|2)", ""},
	} {
		wantSplit(t, "1", c.w, c.h, 1, 2, false, c.columns)
		wantSplit(t, "1", c.w, c.h, 1, 2, true, c.rows)
	}
}

// wantSplit wants the text of a layout; none says that the pane is too small.
func wantSplit(t *testing.T, from string, w, h, pane, fresh int, rows bool, want string) {
	t.Helper()
	wantCode := impl.OK
	if want == "" {
		want, wantCode = from, impl.ErrSmall
	}
	got, code := impl.SplitArea(layoutOf(from), w, h, pane, fresh, rows)
	wantLayout(t, fmt.Sprintf("SplitArea of %s, %d by %d, pane %d, rows %v", from, w, h, pane, rows), got, code, layoutOf(want), wantCode)
}

func TestSplitsWrittenOut(t *testing.T) {
	from := "((1|5|2)-4-(3|9|4))"
	wantSplit(t, from, 14, 9, 1, 9, false, "(((1|2|9)|5|2)-4-(3|9|4))")
	wantSplit(t, from, 14, 9, 2, 9, false, "((1|5|(2|4|9))-4-(3|9|4))")
	wantSplit(t, from, 14, 9, 3, 9, false, "((1|5|2)-4-((3|4|9)|9|4))")
	wantSplit(t, from, 14, 9, 4, 9, false, "((1|5|2)-4-(3|9|(4|2|9)))")
	wantSplit(t, from, 14, 9, 1, 9, true, "(((1-2-9)|5|2)-4-(3|9|4))")
	wantSplit(t, from, 14, 9, 2, 1000, true, "((1|5|(2-2-1000))-4-(3|9|4))")
	wantSplit(t, from, 14, 9, 3, 9, true, "((1|5|2)-4-((3-2-9)|9|4))")
	wantSplit(t, from, 14, 9, 4, 9, true, "((1|5|2)-4-(3|9|(4-2-9)))")
	wantSplit(t, from, 12, 7, 4, 9, false, "")
	wantSplit(t, from, 12, 7, 4, 9, true, "")
	wantSplit(t, from, 12, 7, 1, 9, true, "(((1-2-9)|5|2)-4-(3|9|4))")
	wantSplit(t, from, 13, 8, 4, 9, false, "((1|5|2)-4-(3|9|(4|2|9)))")
	wantSplit(t, from, 13, 8, 4, 9, true, "((1|5|2)-4-(3|9|(4-2-9)))")
	wantSplit(t, "(1|3|2)", 6, 3, 1, 9, false, "")
	wantSplit(t, "(1|3|2)", 7, 3, 2, 9, false, "(1|3|(2|2|9))")
	wantSplit(t, "(1-3-2)", 3, 6, 1, 9, true, "")
	wantSplit(t, "(1-3-2)", 3, 7, 2, 9, true, "(1-3-(2-2-9))")
}

func TestSplitsOfEveryPane(t *testing.T) {
	t.Parallel()
	counts := map[int]int{}
	for _, a := range laidOut(6) {
		for _, pane := range append(modelPanes(a.l), 5) {
			for _, fresh := range []int{5, 1, 1000, 500} {
				for _, rows := range []bool{false, true} {
					got, code := impl.SplitArea(a.l, a.w, a.h, pane, fresh, rows)
					want, wantCode := modelSplit(a.l, a.w, a.h, pane, fresh, rows)
					wantLayout(t, fmt.Sprintf("SplitArea of %v, pane %d, fresh %d, rows %v", a, pane, fresh, rows), got, code, want, wantCode)
					if !impl.LayoutOK(got, a.w, a.h) {
						t.Errorf("not right: %+v", got.Parts)
					}
					counts[code]++
				}
			}
		}
	}
	for _, code := range []int{impl.OK, impl.ErrNone, impl.ErrTwice, impl.ErrFull, impl.ErrSmall} {
		if counts[code] < 100 {
			t.Errorf("only %d splits answered %s", counts[code], impl.CodeWord(code))
		}
	}
}

// renamed has another number in a pane's place.
func renamed(l impl.Layout, pane, other int) impl.Layout {
	l = cloneLayout(l)
	l.Parts[modelIndex(l, pane)].Pane = other
	return l
}

func TestWhatIsSplitAndKilledAgainIsAsItWas(t *testing.T) {
	done := 0
	for _, a := range laidOut(5) {
		for _, pane := range modelPanes(a.l) {
			for _, rows := range []bool{false, true} {
				split, code := impl.SplitArea(a.l, a.w, a.h, pane, 5, rows)
				if code != impl.OK {
					continue
				}
				got, code := impl.KillArea(split, a.w, a.h, 5)
				wantLayout(t, fmt.Sprintf("%v, pane %d split and killed", a, pane), got, code, a.l, impl.OK)
				got, code = impl.KillArea(split, a.w, a.h, pane)
				wantLayout(t, fmt.Sprintf("%v, pane %d split, itself killed", a, pane), got, code, renamed(a.l, pane, 5), impl.OK)
				done++
			}
		}
	}
	if done < 5000 {
		t.Error("only", done, "panes were split")
	}
}

func TestSplitsOfSplitsKilledOneByOne(t *testing.T) {
	l := layoutOf("1")
	was := []impl.Layout{l}
	for i, c := range []struct {
		pane int
		rows bool
	}{{1, false}, {2, true}, {1, true}, {3, false}, {1, false}} {
		split, code := impl.SplitArea(l, 24, 10, c.pane, i+2, c.rows)
		if code != impl.OK {
			t.Fatal(i, code)
		}
		l = split
		was = append(was, l)
	}
	for pane := 6; pane >= 2; pane-- {
		got, code := impl.KillArea(l, 24, 10, pane)
		wantLayout(t, fmt.Sprint("KillArea of ", pane), got, code, was[pane-2], impl.OK)
		l = got
	}
}

func wantKilled(t *testing.T, from string, w, h, pane int, want string) {
	t.Helper()
	got, code := impl.KillArea(layoutOf(from), w, h, pane)
	wantLayout(t, fmt.Sprintf("KillArea of %s, %d by %d, pane %d", from, w, h, pane), got, code, layoutOf(want), impl.OK)
}

func TestKillsWrittenOut(t *testing.T) {
	wantKilled(t, "(1|5|2)", 10, 5, 1, "2")
	wantKilled(t, "(1|5|2)", 10, 5, 2, "1")
	wantKilled(t, "(1-3-2)", 10, 5, 1, "2")
	wantKilled(t, "(1-3-2)", 10, 5, 2, "1")
	wantKilled(t, "(1|5|(2|2|3))", 10, 5, 1, "(2|2|3)")
	wantKilled(t, "(1|5|(2-2-3))", 10, 5, 1, "(2-2-3)")
	wantKilled(t, "((2|2|3)|5|1)", 10, 5, 1, "(2|2|3)")
	wantKilled(t, "((2-2-3)|5|1)", 10, 5, 1, "(2-2-3)")
	wantKilled(t, "(1-2-(2|4|3))", 10, 5, 1, "(2|4|3)")
	wantKilled(t, "((2-2-3)-6-1)", 10, 9, 1, "(2-2-3)")
	wantKilled(t, "((1|5|2)-4-(3|9|4))", 14, 9, 1, "(2-4-(3|9|4))")
	wantKilled(t, "((1|5|2)-4-(3|9|4))", 14, 9, 2, "(1-4-(3|9|4))")
	wantKilled(t, "((1|5|2)-4-(3|9|4))", 14, 9, 3, "((1|5|2)-4-4)")
	wantKilled(t, "((1|5|2)-4-(3|9|4))", 14, 9, 4, "((1|5|2)-4-3)")
	wantKilled(t, "(1|4|(2|5|((3-2-4)|6|5)))", 20, 5, 2, "(1|4|((3-2-4)|6|5))")
	wantKilled(t, "(1|4|(2|5|((3-2-4)|6|5)))", 20, 5, 5, "(1|4|(2|5|(3-2-4)))")
	wantKilled(t, "(1|4|(2|5|((3-2-4)|6|5)))", 20, 5, 3, "(1|4|(2|5|(4|6|5)))")
	wantKilled(t, "(((1|2|2)-2-(3|2|4))|5|(5-4-6))", 9, 8, 5, "(((1|2|2)-2-(3|2|4))|5|6)")
}

func TestKillsOfEveryPane(t *testing.T) {
	for _, a := range laidOut(6) {
		for _, pane := range append(modelPanes(a.l), 5, 0, -1, 1001, math.MinInt, math.MaxInt) {
			got, code := impl.KillArea(a.l, a.w, a.h, pane)
			want, wantCode := modelKill(a.l, a.w, a.h, pane)
			wantLayout(t, fmt.Sprintf("KillArea of %v, pane %d", a, pane), got, code, want, wantCode)
			if !impl.LayoutOK(got, a.w, a.h) {
				t.Errorf("not right: %+v", got.Parts)
			}
		}
	}
}

func wantMoved(t *testing.T, from string, w, h, pane, by int, want string) {
	t.Helper()
	got, code := impl.MoveSplit(layoutOf(from), w, h, pane, by)
	wantLayout(t, fmt.Sprintf("MoveSplit of %s, %d by %d, pane %d, by %d", from, w, h, pane, by), got, code, layoutOf(want), impl.OK)
}

func TestMovesWrittenOut(t *testing.T) {
	for _, c := range []struct {
		by   int
		want string
	}{{-100, "(1|2|2)"}, {-4, "(1|2|2)"}, {-3, "(1|2|2)"}, {-2, "(1|3|2)"}, {-1, "(1|4|2)"}, {0, "(1|5|2)"}, {1, "(1|6|2)"}, {2, "(1|7|2)"}, {3, "(1|8|2)"}, {4, "(1|8|2)"}, {100, "(1|8|2)"}} {
		for pane := 1; pane <= 2; pane++ {
			wantMoved(t, "(1|5|2)", 10, 5, pane, c.by, c.want)
			wantMoved(t, "(1-5-2)", 5, 10, pane, c.by, strings.ReplaceAll(c.want, "|", "-"))
		}
	}
	// The other part needs four columns side by side, two one below the other.
	wantMoved(t, "(1|5|(2|2|3))", 12, 5, 1, 3, "(1|8|(2|2|3))")
	wantMoved(t, "(1|5|(2|2|3))", 12, 5, 1, 4, "(1|8|(2|2|3))")
	wantMoved(t, "(1|5|(2|4|3))", 12, 5, 1, 1, "(1|6|(2|4|3))")
	wantMoved(t, "(1|5|(2|4|3))", 12, 5, 1, 2, "(1|7|(2|3|3))")
	wantMoved(t, "(1|5|(2|4|3))", 12, 5, 1, 100, "(1|8|(2|2|3))")
	wantMoved(t, "(1|5|(2-2-3))", 12, 5, 1, 100, "(1|10|(2-2-3))")
	wantMoved(t, "((2|3|3)|7|1)", 12, 5, 1, -1, "((2|3|3)|6|1)")
	wantMoved(t, "((2|3|3)|7|1)", 12, 5, 1, -2, "((2|3|3)|5|1)")
	wantMoved(t, "((2|3|3)|7|1)", 12, 5, 1, -3, "((2|2|3)|4|1)")
	wantMoved(t, "((2|3|3)|7|1)", 12, 5, 1, -4, "((2|2|3)|4|1)")
	wantMoved(t, "((2-3-3)|7|1)", 12, 5, 1, -100, "((2-3-3)|2|1)")
	// Of a pane that is not itself a part of the first split its own split moves, within its place.
	wantMoved(t, "((2|3|3)|7|1)", 12, 5, 2, 100, "((2|5|3)|7|1)")
	wantMoved(t, "((2|3|3)|7|1)", 12, 5, 3, -100, "((2|2|3)|7|1)")
	wantMoved(t, "((1-3-2)|6|(3-5-4))", 12, 9, 1, 100, "((1-7-2)|6|(3-5-4))")
	wantMoved(t, "((1-3-2)|6|(3-5-4))", 12, 9, 4, -1, "((1-3-2)|6|(3-4-4))")
	// Each Size behind the one that moves is fitted to what is left of its place.
	wantMoved(t, "(1|2|((2|4|3)|10|(4|4|5)))", 24, 5, 1, 10, "(1|12|((2|4|3)|8|(4|2|5)))")
	wantMoved(t, "(1|2|((2|4|3)|10|(4|4|5)))", 24, 5, 1, 12, "(1|14|((2|4|3)|6|(4|2|5)))")
	wantMoved(t, "(1|2|((2|4|3)|10|(4|4|5)))", 24, 5, 1, 13, "(1|15|((2|3|3)|5|(4|2|5)))")
	wantMoved(t, "(1|2|((2|4|3)|10|(4|4|5)))", 24, 5, 1, 14, "(1|16|((2|2|3)|4|(4|2|5)))")
	wantMoved(t, "(1|2|((2|4|3)|10|(4|4|5)))", 24, 5, 1, 15, "(1|16|((2|2|3)|4|(4|2|5)))")
	wantMoved(t, "(1|2|((2|4|3)|10|(4|4|5)))", 24, 5, 1, -1, "(1|2|((2|4|3)|10|(4|4|5)))")
}

func TestMovesOfEveryPane(t *testing.T) {
	t.Parallel()
	for _, a := range laidOut(6) {
		for _, pane := range append(modelPanes(a.l), 5, 0, -1, 1001) {
			for _, by := range []int{math.MinInt, -101, -100, -99, -4, -3, -2, -1, 0, 1, 2, 3, 4, 99, 100, 101, math.MaxInt} {
				got, code := impl.MoveSplit(a.l, a.w, a.h, pane, by)
				want, wantCode := modelMove(a.l, a.w, a.h, pane, by)
				if code != wantCode || !sameLayout(got, want) {
					t.Fatalf("MoveSplit of %v, pane %d, by %d: %+v, %d; want %+v, %d", a, pane, by, got.Parts, code, want.Parts, wantCode)
				}
				if code != impl.ErrRange && !impl.LayoutOK(got, a.w, a.h) {
					t.Errorf("not right: %+v", got.Parts)
				}
			}
		}
	}
}

func wantFitted(t *testing.T, from string, w, h, nw, nh int, want string, wantCode int) {
	t.Helper()
	got, code := impl.FitLayout(layoutOf(from), w, h, nw, nh)
	wantLayout(t, fmt.Sprintf("FitLayout of %s, %d by %d, to %d by %d", from, w, h, nw, nh), got, code, layoutOf(want), wantCode)
}

func TestFitsWrittenOut(t *testing.T) {
	wantFitted(t, "1", 24, 10, 2, 2, "1", impl.OK)
	wantFitted(t, "1", 2, 2, 24, 10, "1", impl.OK)
	wantFitted(t, "(1|10|2)", 20, 8, 24, 10, "(1|10|2)", impl.OK)
	wantFitted(t, "(1|10|2)", 20, 8, 12, 2, "(1|10|2)", impl.OK)
	wantFitted(t, "(1|10|2)", 20, 8, 11, 2, "(1|9|2)", impl.OK)
	wantFitted(t, "(1|10|2)", 20, 8, 4, 2, "(1|2|2)", impl.OK)
	wantFitted(t, "(1|10|2)", 20, 8, 3, 2, "(1|10|2)", impl.ErrSmall)
	wantFitted(t, "(1-5-2)", 20, 8, 2, 7, "(1-5-2)", impl.OK)
	wantFitted(t, "(1-5-2)", 20, 8, 2, 6, "(1-4-2)", impl.OK)
	wantFitted(t, "(1-5-2)", 20, 8, 2, 4, "(1-2-2)", impl.OK)
	wantFitted(t, "(1-5-2)", 20, 8, 2, 3, "(1-5-2)", impl.ErrSmall)
	// Several Sizes at once: the first one takes what its parts need, the others what that leaves.
	wantFitted(t, "(1|10|(2|5|3))", 20, 8, 18, 8, "(1|10|(2|5|3))", impl.OK)
	wantFitted(t, "(1|10|(2|5|3))", 20, 8, 17, 8, "(1|10|(2|5|3))", impl.OK)
	wantFitted(t, "(1|10|(2|5|3))", 20, 8, 16, 8, "(1|10|(2|4|3))", impl.OK)
	wantFitted(t, "(1|10|(2|5|3))", 20, 8, 14, 8, "(1|10|(2|2|3))", impl.OK)
	wantFitted(t, "(1|10|(2|5|3))", 20, 8, 13, 8, "(1|9|(2|2|3))", impl.OK)
	wantFitted(t, "(1|10|(2|5|3))", 20, 8, 6, 8, "(1|2|(2|2|3))", impl.OK)
	wantFitted(t, "(1|10|(2|5|3))", 20, 8, 5, 8, "(1|10|(2|5|3))", impl.ErrSmall)
	wantFitted(t, "((1|5|2)|10|3)", 20, 8, 11, 8, "((1|5|2)|9|3)", impl.OK)
	wantFitted(t, "((1|5|2)|10|3)", 20, 8, 8, 8, "((1|4|2)|6|3)", impl.OK)
	wantFitted(t, "((1|5|2)|10|3)", 20, 8, 6, 8, "((1|2|2)|4|3)", impl.OK)
	wantFitted(t, "((1|5|2)|10|3)", 20, 8, 5, 8, "((1|5|2)|10|3)", impl.ErrSmall)
	// Across, the parts of a split need what the greater one does.
	wantFitted(t, "((1|5|2)-4-3)", 20, 8, 4, 4, "((1|2|2)-2-3)", impl.OK)
	wantFitted(t, "((1|5|2)-4-3)", 20, 8, 3, 4, "((1|5|2)-4-3)", impl.ErrSmall)
	wantFitted(t, "((1|5|2)-4-3)", 20, 8, 4, 3, "((1|5|2)-4-3)", impl.ErrSmall)
	wantFitted(t, "(1|10|((2-2-3)-5-4))", 20, 8, 4, 6, "(1|2|((2-2-3)-4-4))", impl.OK)
	wantFitted(t, "(1|10|((2-2-3)-5-4))", 20, 8, 4, 5, "(1|10|((2-2-3)-5-4))", impl.ErrSmall)
	wantFitted(t, "((1|5|2)-4-(3|8|(4|9|5)))", 20, 8, 6, 4, "((1|4|2)-2-(3|2|(4|2|5)))", impl.OK)
	wantFitted(t, "((1|5|2)-4-(3|8|(4|9|5)))", 20, 8, 5, 4, "((1|5|2)-4-(3|8|(4|9|5)))", impl.ErrSmall)
	wantFitted(t, "((1-3-(2-2-3))|9|(4-6-5))", 20, 8, 4, 6, "((1-2-(2-2-3))|2|(4-4-5))", impl.OK)
	wantFitted(t, "((1-3-(2-2-3))|9|(4-6-5))", 20, 8, 4, 5, "((1-3-(2-2-3))|9|(4-6-5))", impl.ErrSmall)
}

// fitSizes are those around what a layout needs, and the edges of a screen's.
func fitSizes(l impl.Layout) [][2]int {
	needs := modelNeeds(l)[0]
	list := [][2]int{{2, 2}, {24, 10}, {25, 10}, {24, 11}, {1, 10}, {24, 1}, {0, 0}, {-1, 5}, {5, math.MinInt}, {math.MaxInt, 5}}
	for more := -1; more <= 4; more++ {
		list = append(list, [2]int{needs[0] + more, 10}, [2]int{24, needs[1] + more}, [2]int{needs[0] + more, needs[1]}, [2]int{needs[0], needs[1] + more}, [2]int{needs[0] + more, needs[1] + more})
	}
	return list
}

func TestFitsOfEveryShape(t *testing.T) {
	t.Parallel()
	for _, a := range laidOut(6) {
		for _, size := range fitSizes(a.l) {
			got, code := impl.FitLayout(a.l, a.w, a.h, size[0], size[1])
			want, wantCode := modelFitLayout(a.l, size[0], size[1])
			if code != wantCode || !sameLayout(got, want) {
				t.Fatalf("FitLayout of %v to %v: %+v, %d; want %+v, %d", a, size, got.Parts, code, want.Parts, wantCode)
			}
			if code == impl.OK && !impl.LayoutOK(got, size[0], size[1]) {
				t.Errorf("not right: %+v", got.Parts)
			}
		}
	}
}

func TestFitsToEverySize(t *testing.T) {
	for _, a := range laidOut(4) {
		for w := 1; w <= 25; w++ {
			for h := 1; h <= 11; h++ {
				got, code := impl.FitLayout(a.l, a.w, a.h, w, h)
				want, wantCode := modelFitLayout(a.l, w, h)
				if code != wantCode || !sameLayout(got, want) {
					t.Fatalf("FitLayout of %v to %d by %d: %+v, %d; want %+v, %d", a, w, h, got.Parts, code, want.Parts, wantCode)
				}
			}
		}
	}
}

func TestFitToItsOwnSizeChangesNothing(t *testing.T) {
	for _, a := range laidOut(6) {
		got, code := impl.FitLayout(a.l, a.w, a.h, a.w, a.h)
		wantLayout(t, fmt.Sprint("FitLayout of ", a), got, code, a.l, impl.OK)
	}
}

func TestDrawnSplitsKillsMovesAndFits(t *testing.T) {
	draw := rand.New(rand.NewSource(5))
	for range 300 {
		a := laid{layoutOf("1"), 24, 10}
		for range 60 {
			a = drawnStep(t, draw, a)
			areas, code := impl.LayoutAreas(a.l, a.w, a.h)
			if code != impl.OK || !impl.LayoutOK(a.l, a.w, a.h) {
				t.Fatalf("not right: %+v, %d", a.l.Parts, code)
			}
			wantCovered(t, a.String(), areas, a.w, a.h)
		}
	}
}

// drawnStep is a split, a kill, a move or a fit, held against the model.
func drawnStep(t *testing.T, draw *rand.Rand, a laid) laid {
	t.Helper()
	var got, want impl.Layout
	var code, wantCode int
	pane, fresh, rows, by := 1+draw.Intn(8), 1+draw.Intn(8), draw.Intn(2) == 0, draw.Intn(15)-7
	w, h := a.w, a.h
	how := draw.Intn(7)
	switch how {
	case 0, 1, 2:
		got, code = impl.SplitArea(a.l, w, h, pane, fresh, rows)
		want, wantCode = modelSplit(a.l, w, h, pane, fresh, rows)
	case 3:
		got, code = impl.KillArea(a.l, w, h, pane)
		want, wantCode = modelKill(a.l, w, h, pane)
	case 4, 5:
		got, code = impl.MoveSplit(a.l, w, h, pane, by)
		want, wantCode = modelMove(a.l, w, h, pane, by)
	case 6:
		nw, nh := 2+draw.Intn(23), 2+draw.Intn(9)
		got, code = impl.FitLayout(a.l, w, h, nw, nh)
		want, wantCode = modelFitLayout(a.l, nw, nh)
		if code == impl.OK {
			w, h = nw, nh
		}
	}
	wantLayout(t, fmt.Sprintf("step %d of %v, pane %d, fresh %d, rows %v, by %d", how, a, pane, fresh, rows, by), got, code, want, wantCode)
	return laid{got, w, h}
}

func TestSplitCodesInTheirOrder(t *testing.T) {
	full := "(1|2|(2|2|(3|2|(4|2|(5|2|6)))))"
	for _, c := range []struct {
		from             string
		w, h             int
		pane, fresh      int
		wantCode         int
		wantsNothingElse bool
	}{
		{"(1|2|2)", 3, 2, 9, 0, impl.ErrBad, true},
		{"(1|2|2)", 4, 1, 1, 3, impl.ErrBad, true},
		{"(1|2|1)", 4, 2, 9, 1001, impl.ErrBad, true},
		{"(1|2|2)", 4, 2, 9, 0, impl.ErrRange, true},
		{"(1|2|2)", 4, 2, 1, 1001, impl.ErrRange, true},
		{"(1|2|2)", 4, 2, 1, -1, impl.ErrRange, true},
		{"(1|2|2)", 4, 2, 1, math.MinInt, impl.ErrRange, true},
		{"(1|2|2)", 4, 2, 1, math.MaxInt, impl.ErrRange, true},
		{full, 12, 2, 9, 0, impl.ErrRange, true},
		{full, 12, 2, 9, 1, impl.ErrNone, false},
		{full, 12, 2, 0, 1, impl.ErrNone, false},
		{full, 12, 2, 9, 9, impl.ErrNone, false},
		{"(1|2|2)", 4, 2, 9, 3, impl.ErrNone, false},
		{"(1|2|2)", 4, 2, -1, 3, impl.ErrNone, false},
		{"(1|2|2)", 4, 2, 1001, 3, impl.ErrNone, false},
		{"(1|2|2)", 4, 2, math.MinInt, 1000, impl.ErrNone, false},
		{"(1|2|2)", 4, 2, math.MaxInt, 1, impl.ErrNone, false},
		{full, 12, 2, 1, 6, impl.ErrTwice, false},
		{full, 12, 2, 1, 1, impl.ErrTwice, false},
		{"(1|2|2)", 4, 2, 1, 2, impl.ErrTwice, false},
		{"(1|2|2)", 4, 2, 2, 2, impl.ErrTwice, false},
		{full, 12, 2, 1, 7, impl.ErrFull, false},
		{full, 24, 10, 6, 1000, impl.ErrFull, false},
		{"(1|2|2)", 4, 2, 1, 3, impl.ErrSmall, false},
		{"(1|2|(2|2|(3|2|(4|2|5))))", 10, 2, 5, 6, impl.ErrSmall, false},
	} {
		for _, rows := range []bool{false, true} {
			want := impl.Layout{}
			if !c.wantsNothingElse {
				want = layoutOf(c.from)
			}
			got, code := impl.SplitArea(layoutOf(c.from), c.w, c.h, c.pane, c.fresh, rows)
			wantLayout(t, fmt.Sprintf("SplitArea of %+v", c), got, code, want, c.wantCode)
		}
	}
}

// TestKillMoveAndFitCodesInTheirOrder tells in want the text of the layout that is as it was, none if nothing else is told.
func TestKillMoveAndFitCodesInTheirOrder(t *testing.T) {
	kill := func(l impl.Layout, w, h, pane, _ int) (impl.Layout, int) { return impl.KillArea(l, w, h, pane) }
	for _, c := range []struct {
		name     string
		do       func(l impl.Layout, w, h, n, m int) (impl.Layout, int)
		from     string
		w, h     int
		n, m     int
		want     string
		wantCode int
	}{
		{"KillArea", kill, "1", 1, 2, 9, 0, "", impl.ErrBad},
		{"KillArea", kill, "1", 2, 11, 1, 0, "", impl.ErrBad},
		{"KillArea", kill, "(1|2|2)", 3, 2, 9, 0, "", impl.ErrBad},
		{"KillArea", kill, "1", 2, 2, 9, 0, "1", impl.ErrNone},
		{"KillArea", kill, "(1|2|2)", 4, 2, 0, 0, "(1|2|2)", impl.ErrNone},
		{"KillArea", kill, "(1|2|2)", 4, 2, -1, 0, "(1|2|2)", impl.ErrNone},
		{"KillArea", kill, "1", 2, 2, 1, 0, "1", impl.ErrLast},
		{"MoveSplit", impl.MoveSplit, "1", 25, 2, 9, 101, "", impl.ErrBad},
		{"MoveSplit", impl.MoveSplit, "(1|2|2)", 3, 2, 1, 101, "", impl.ErrBad},
		{"MoveSplit", impl.MoveSplit, "1", 2, 2, 9, 101, "", impl.ErrRange},
		{"MoveSplit", impl.MoveSplit, "1", 2, 2, 1, -101, "", impl.ErrRange},
		{"MoveSplit", impl.MoveSplit, "(1|2|2)", 4, 2, 1, 101, "", impl.ErrRange},
		{"MoveSplit", impl.MoveSplit, "(1|2|2)", 4, 2, 1, math.MinInt, "", impl.ErrRange},
		{"MoveSplit", impl.MoveSplit, "(1|2|2)", 4, 2, 1, math.MaxInt, "", impl.ErrRange},
		{"MoveSplit", impl.MoveSplit, "1", 2, 2, 9, 100, "1", impl.ErrNone},
		{"MoveSplit", impl.MoveSplit, "(1|2|2)", 4, 2, 9, -100, "(1|2|2)", impl.ErrNone},
		{"MoveSplit", impl.MoveSplit, "(1|2|2)", 4, 2, 0, 1, "(1|2|2)", impl.ErrNone},
		{"MoveSplit", impl.MoveSplit, "1", 2, 2, 1, 0, "1", impl.ErrLast},
		{"FitLayout", impl.FitLayout, "(1|2|2)", 3, 2, 25, 2, "", impl.ErrBad},
		{"FitLayout", impl.FitLayout, "(1|2|2)", 3, 2, 4, 2, "", impl.ErrBad},
		{"FitLayout", impl.FitLayout, "(1|2|2)", 4, 2, 25, 2, "", impl.ErrRange},
		{"FitLayout", impl.FitLayout, "(1|2|2)", 4, 2, 24, 11, "", impl.ErrRange},
		{"FitLayout", impl.FitLayout, "(1|2|2)", 4, 2, 1, 2, "", impl.ErrRange},
		{"FitLayout", impl.FitLayout, "(1|2|2)", 4, 2, 4, 1, "", impl.ErrRange},
		{"FitLayout", impl.FitLayout, "(1|2|2)", 4, 2, 3, 11, "", impl.ErrRange},
		{"FitLayout", impl.FitLayout, "(1|2|2)", 4, 2, 3, 10, "(1|2|2)", impl.ErrSmall},
		{"FitLayout", impl.FitLayout, "(1|2|2)", 4, 2, 2, 2, "(1|2|2)", impl.ErrSmall},
	} {
		got, code := c.do(layoutOf(c.from), c.w, c.h, c.n, c.m)
		wantLayout(t, fmt.Sprintf("%s of %s, %d by %d, %d, %d", c.name, c.from, c.w, c.h, c.n, c.m), got, code, layoutOf(c.want), c.wantCode)
	}
}

// roomyLayout has memory behind its parts, which no call may write to; room is all of it.
func roomyLayout(l impl.Layout) (roomy impl.Layout, room []impl.Part) {
	room = append(slices.Clone(l.Parts), slices.Repeat([]impl.Part{{Pane: -7, Rows: true, Size: -7, Left: -7, Right: -7}}, 12)...)
	return impl.Layout{Parts: room[:len(l.Parts)]}, room
}

// spoiltLayout writes into an answer's parts, and behind their end as far as their memory goes.
func spoiltLayout(l impl.Layout) {
	parts := l.Parts[:cap(l.Parts)]
	for i := range parts {
		parts[i] = impl.Part{Pane: -5, Rows: true, Size: -5, Left: -5, Right: -5}
	}
}

// layoutAnswers are the calls that answer layouts, such as change it and such as leave it as it was.
func layoutAnswers(a laid) map[string]func(l impl.Layout) (impl.Layout, int) {
	first := modelPanes(a.l)[0]
	list := map[string]func(l impl.Layout) (impl.Layout, int){
		"OneLayout": func(l impl.Layout) (impl.Layout, int) { return impl.OneLayout(first) },
	}
	for _, pane := range []int{first, 5} {
		for _, fresh := range []int{6, first} {
			list[fmt.Sprintf("SplitArea %d %d columns", pane, fresh)] = func(l impl.Layout) (impl.Layout, int) { return impl.SplitArea(l, a.w, a.h, pane, fresh, false) }
			list[fmt.Sprintf("SplitArea %d %d rows", pane, fresh)] = func(l impl.Layout) (impl.Layout, int) { return impl.SplitArea(l, a.w, a.h, pane, fresh, true) }
		}
		list[fmt.Sprint("KillArea ", pane)] = func(l impl.Layout) (impl.Layout, int) { return impl.KillArea(l, a.w, a.h, pane) }
		for _, by := range []int{-100, 0, 1} {
			list[fmt.Sprint("MoveSplit ", pane, by)] = func(l impl.Layout) (impl.Layout, int) { return impl.MoveSplit(l, a.w, a.h, pane, by) }
		}
	}
	for _, size := range [][2]int{{a.w, a.h}, {24, 10}, {2, 2}} {
		list[fmt.Sprint("FitLayout ", size)] = func(l impl.Layout) (impl.Layout, int) { return impl.FitLayout(l, a.w, a.h, size[0], size[1]) }
	}
	return list
}

func TestLayoutsAreNotChangedAndAnswersAreNewMemory(t *testing.T) {
	for i, a := range laidOut(6) {
		if i%5 != 0 && len(a.l.Parts) > 7 {
			continue
		}
		l, room := roomyLayout(a.l)
		was := slices.Clone(room)
		for what, do := range layoutAnswers(a) {
			first, code := do(l)
			kept := cloneLayout(first)
			second, again := do(l)
			if !slices.Equal(room, was) {
				t.Fatalf("%s writes into %v, or behind it", what, a)
			}
			if spoiltLayout(first); !slices.Equal(room, was) || !sameLayout(second, kept) || code != again {
				t.Fatalf("%s of %v shares memory", what, a)
			}
		}
		first, _ := impl.LayoutAreas(l, a.w, a.h)
		kept := slices.Clone(first)
		second, _ := impl.LayoutAreas(l, a.w, a.h)
		clear(first[:cap(first)])
		impl.LayoutText(l, a.w, a.h)
		impl.LayoutOK(l, a.w, a.h)
		if !slices.Equal(room, was) || !slices.Equal(second, kept) {
			t.Fatalf("LayoutAreas of %v shares memory", a)
		}
	}
}

func TestWrongLayoutsAreNotChanged(t *testing.T) {
	for _, from := range wrongLayouts() {
		l, room := roomyLayout(from)
		was := slices.Clone(room)
		for _, c := range layoutCalls(l, 24, 10) {
			if c.do(); !slices.Equal(room, was) {
				t.Fatal(c.name, "writes into its argument, or behind it")
			}
		}
	}
}

func TestPartsBehindTheEndDoNotCount(t *testing.T) {
	whole := layoutOf("(1|5|(2-3-3))")
	if impl.LayoutOK(impl.Layout{Parts: whole.Parts[:4]}, 10, 6) || impl.LayoutOK(impl.Layout{Parts: whole.Parts[:2]}, 10, 6) || impl.LayoutOK(impl.Layout{Parts: whole.Parts[:0]}, 10, 6) {
		t.Error("LayoutOK of parts that are cut off")
	}
	if !impl.LayoutOK(impl.Layout{Parts: whole.Parts[1:2]}, 10, 6) || !impl.LayoutOK(impl.Layout{Parts: whole.Parts[4:]}, 10, 6) {
		t.Error("LayoutOK of one of the panes")
	}
}
