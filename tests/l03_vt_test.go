package tests

import (
	"fmt"
	"math"
	"math/rand"
	"slices"
	"strings"
	"testing"
	"unicode/utf8"

	"loop.example/g00308/impl"
)

func sameParser(p, q impl.Parser) bool {
	return p.State == q.State && slices.Equal(p.Args, q.Args) && p.Private == q.Private && p.Text == q.Text && p.Utf == q.Utf
}

func sameAction(a, b impl.Action) bool {
	return a.Kind == b.Kind && a.N == b.N && a.Private == b.Private && slices.Equal(a.Args, b.Args) && a.Text == b.Text
}

func sameActions(a, b []impl.Action) bool {
	return slices.EqualFunc(a, b, sameAction)
}

func printOf(n int) impl.Action { return impl.Action{Kind: impl.AcPrint, N: n} }

func controlOf(n int) impl.Action { return impl.Action{Kind: impl.AcControl, N: n} }

func escapeOf(n int) impl.Action { return impl.Action{Kind: impl.AcEscape, N: n} }

func csiOf(n int, args ...int) impl.Action { return impl.Action{Kind: impl.AcCsi, N: n, Args: args} }

func privateOf(n int, args ...int) impl.Action {
	return impl.Action{Kind: impl.AcCsi, N: n, Private: true, Args: args}
}

func oscOf(text string) impl.Action { return impl.Action{Kind: impl.AcOsc, Text: text} }

// printsOf are the runes of a text, each printed.
func printsOf(text string) []impl.Action {
	var list []impl.Action
	for _, n := range text {
		list = append(list, printOf(int(n)))
	}
	return list
}

// modelMayFollow has the bounds of each byte written out, as the shortest forms have them.
func modelMayFollow(utf string, b int) bool {
	if len(utf) == 1 {
		switch utf[0] {
		case 0xe0:
			return b >= 0xa0 && b <= 0xbf
		case 0xed:
			return b >= 0x80 && b <= 0x9f
		case 0xf0:
			return b >= 0x90 && b <= 0xbf
		case 0xf4:
			return b >= 0x80 && b <= 0x8f
		}
	}
	return b >= 0x80 && b <= 0xbf
}

func modelRuneSize(lead byte) int {
	switch {
	case lead >= 0xc2 && lead <= 0xdf:
		return 2
	case lead >= 0xe0 && lead <= 0xef:
		return 3
	case lead >= 0xf0 && lead <= 0xf4:
		return 4
	}
	return 0
}

func modelIsControl(b int) bool { return b >= 7 && b <= 10 || b == 13 }

func modelGround(b int) (impl.Parser, []impl.Action) {
	switch {
	case b == 27:
		return impl.Parser{State: 1}, nil
	case modelIsControl(b):
		return impl.Parser{}, []impl.Action{controlOf(b)}
	case b >= 32 && b <= 126:
		return impl.Parser{}, []impl.Action{printOf(b)}
	case b < 128:
		return impl.Parser{}, nil
	case modelRuneSize(byte(b)) > 0:
		return impl.Parser{State: 6, Utf: string([]byte{byte(b)})}, nil
	}
	return impl.Parser{}, []impl.Action{printOf(0xfffd)}
}

func modelUtf(utf string, b int) (impl.Parser, []impl.Action) {
	if !modelMayFollow(utf, b) {
		p, list := modelGround(b)
		return p, append([]impl.Action{printOf(0xfffd)}, list...)
	}
	utf += string([]byte{byte(b)})
	if len(utf) < modelRuneSize(utf[0]) {
		return impl.Parser{State: 6, Utf: utf}, nil
	}
	return impl.Parser{}, []impl.Action{printOf(int([]rune(utf)[0]))}
}

func modelEscape(b int) (impl.Parser, []impl.Action) {
	switch {
	case b == '[':
		return impl.Parser{State: 2, Args: []int{-1}}, nil
	case b == ']':
		return impl.Parser{State: 4}, nil
	case b == 27:
		return impl.Parser{State: 1}, nil
	case b == '7' || b == '8' || b == 'D' || b == 'E' || b == 'M' || b == 'c':
		return impl.Parser{}, []impl.Action{escapeOf(b)}
	}
	return impl.Parser{}, nil
}

func modelCsi(p impl.Parser, b int) (impl.Parser, []impl.Action) {
	args := slices.Clone(p.Args)
	last := args[len(args)-1]
	switch {
	case b == 27:
		return impl.Parser{State: 1}, nil
	case modelIsControl(b):
		return p, []impl.Action{controlOf(b)}
	case b >= '0' && b <= '9':
		if last == -1 {
			last = 0
		}
		if last = last*10 + b - '0'; last > 9999 {
			last = 9999
		}
		return impl.Parser{State: 2, Private: p.Private, Args: append(args[:len(args)-1], last)}, nil
	case b == ';' && len(args) < 8:
		return impl.Parser{State: 2, Private: p.Private, Args: append(args, -1)}, nil
	case b == '?' && len(args) == 1 && last == -1 && !p.Private:
		return impl.Parser{State: 2, Private: true, Args: args}, nil
	case b >= 64 && b <= 126:
		return impl.Parser{}, []impl.Action{{Kind: impl.AcCsi, N: b, Private: p.Private, Args: args}}
	}
	return impl.Parser{State: 3}, nil
}

func modelOsc(text string, b int) (impl.Parser, []impl.Action) {
	switch {
	case b == 7:
		return impl.Parser{}, []impl.Action{oscOf(text)}
	case b == 27:
		return impl.Parser{State: 5, Text: text}, nil
	case b >= 32 && b <= 126 && len(text) < 40:
		return impl.Parser{State: 4, Text: text + string(rune(b))}, nil
	}
	return impl.Parser{State: 4, Text: text}, nil
}

// modelByte does the chapter's words state by state; what is told is held against it.
func modelByte(p impl.Parser, b int) (impl.Parser, []impl.Action) {
	switch p.State {
	case impl.PsEscape:
		return modelEscape(b)
	case impl.PsCsi:
		return modelCsi(p, b)
	case impl.PsSkip:
		switch {
		case b == 27:
			return impl.Parser{State: 1}, nil
		case b >= 64 && b <= 126:
			return impl.Parser{}, nil
		}
		return p, nil
	case impl.PsOsc:
		return modelOsc(p.Text, b)
	case impl.PsOscEnd:
		if b == '\\' {
			return impl.Parser{}, []impl.Action{oscOf(p.Text)}
		}
		return modelEscape(b)
	case impl.PsUtf:
		return modelUtf(p.Utf, b)
	}
	return modelGround(b)
}

func modelBytes(p impl.Parser, b []byte) (impl.Parser, []impl.Action) {
	var all []impl.Action
	for _, c := range b {
		var list []impl.Action
		p, list = modelByte(p, int(c))
		all = append(all, list...)
	}
	return p, all
}

// runeBeginnings are all of one and two bytes, and of three those at the edges of the third.
func runeBeginnings() []string {
	var list []string
	for lead := range 256 {
		first := string([]byte{byte(lead)})
		if modelRuneSize(byte(lead)) == 0 {
			continue
		}
		list = append(list, first)
		for b := range 256 {
			second := first + string([]byte{byte(b)})
			if modelRuneSize(byte(lead)) == 2 || !modelMayFollow(first, b) {
				continue
			}
			list = append(list, second)
			if modelRuneSize(byte(lead)) == 4 {
				list = append(list, second+"\x80", second+"\x8f", second+"\x90", second+"\xbf")
			}
		}
	}
	return list
}

func someArgs() [][]int {
	return [][]int{
		{-1}, {0}, {5}, {99}, {999}, {1000}, {9998}, {9999}, {-1, -1}, {0, -1}, {1, 2}, {-1, 9999}, {9999, -1}, {1, 2, 3, 4, 5, 6},
		{1, 2, 3, 4, 5, 6, 7}, {-1, -1, -1, -1, -1, -1, -1}, {1, 2, 3, 4, 5, 6, 7, 8}, {-1, -1, -1, -1, -1, -1, -1, -1}, {0, 0, 0, 0, 0, 0, 0, 9999},
	}
}

func someTitles() []string {
	return []string{"", " ", "t", "~", "0;title", "\\", "[A", strings.Repeat("t", 38), strings.Repeat("t", 39), strings.Repeat("t", 40), " !\"#$%&'()*+,-./0123456789:;<=>?@ABCDEFG"[:40]}
}

// someParsers are right ones of every state.
func someParsers() []impl.Parser {
	list := []impl.Parser{{}, {State: impl.PsEscape}, {State: impl.PsSkip}, {Args: []int{}}}
	for _, args := range someArgs() {
		list = append(list, impl.Parser{State: impl.PsCsi, Args: args}, impl.Parser{State: impl.PsCsi, Args: args, Private: true})
	}
	for _, text := range someTitles() {
		list = append(list, impl.Parser{State: impl.PsOsc, Text: text}, impl.Parser{State: impl.PsOscEnd, Text: text})
	}
	for _, utf := range []string{"\xc2", "\xdf", "\xe0", "\xed", "\xf0", "\xf4", "\xe2\x82", "\xf0\x9f", "\xf0\x9f\x98", "\xf4\x8f\xbf"} {
		list = append(list, impl.Parser{State: impl.PsUtf, Utf: utf})
	}
	return list
}

func TestParserConstants(t *testing.T) {
	got := []int{impl.PsGround, impl.PsEscape, impl.PsCsi, impl.PsSkip, impl.PsOsc, impl.PsOscEnd, impl.PsUtf, impl.AcPrint, impl.AcControl, impl.AcEscape, impl.AcCsi, impl.AcOsc, impl.MaxArgs, impl.MaxTitle}
	if !slices.Equal(got, []int{0, 1, 2, 3, 4, 5, 6, 1, 2, 3, 4, 5, 8, 40}) {
		t.Error(got)
	}
}

// wantByte holds one byte against the model, by itself and as a piece.
func wantByte(t *testing.T, p impl.Parser, b int) {
	t.Helper()
	next, want := modelByte(p, b)
	got, list, code := impl.ParseByte(p, b)
	if !sameParser(got, next) || !sameActions(list, want) || code != impl.OK {
		t.Errorf("ParseByte(%+v, %d) = %+v, %+v, %d, not %+v, %+v", p, b, got, list, code, next, want)
	}
	again, piece, code := impl.ParseBytes(p, []byte{byte(b)})
	if !sameParser(again, next) || !sameActions(piece, want) || code != impl.OK {
		t.Errorf("ParseBytes(%+v, %d) = %+v, %+v, %d, not %+v, %+v", p, b, again, piece, code, next, want)
	}
	if !impl.ParserOK(got) {
		t.Errorf("ParseByte(%+v, %d) leads to what is not right: %+v", p, b, got)
	}
	for _, a := range list {
		if !impl.ActionOK(a) {
			t.Errorf("ParseByte(%+v, %d) tells what is not right: %+v", p, b, a)
		}
	}
}

func TestEveryStateWithEveryByte(t *testing.T) {
	for _, p := range someParsers() {
		if !impl.ParserOK(p) {
			t.Errorf("ParserOK(%+v)", p)
		}
		for b := range 256 {
			wantByte(t, p, b)
		}
	}
}

func TestEveryBeginningOfARuneWithEveryByte(t *testing.T) {
	for _, utf := range runeBeginnings() {
		p := impl.Parser{State: impl.PsUtf, Utf: utf}
		if !impl.ParserOK(p) {
			t.Fatalf("ParserOK(%+v)", p)
		}
		for b := range 256 {
			wantByte(t, p, b)
		}
	}
}

func TestParseByteOutOfRange(t *testing.T) {
	for _, p := range someParsers() {
		for _, b := range []int{-1, -2, -256, -229, 256, 257, 256 + 65, 512 + 27, 1 << 32, 1<<32 + 65, math.MaxInt, math.MinInt, math.MinInt + 65} {
			if got, list, code := impl.ParseByte(p, b); !sameParser(got, impl.Parser{}) || len(list) != 0 || code != impl.ErrRange {
				t.Errorf("ParseByte(%+v, %d) = %+v, %+v, %d", p, b, got, list, code)
			}
		}
	}
}

// wantParsed holds bytes, in one piece, in two at every place, and byte by byte, against what is wanted.
func wantParsed(t *testing.T, from impl.Parser, in string, to impl.Parser, want []impl.Action) {
	t.Helper()
	check := func(how string, p impl.Parser, list []impl.Action) {
		t.Helper()
		if !sameParser(p, to) || !sameActions(list, want) {
			t.Errorf("%q behind %+v %s: %+v, %+v, not %+v, %+v", in, from, how, p, list, to, want)
		}
	}
	piece := func(p impl.Parser, text string) (impl.Parser, []impl.Action) {
		q, list, code := impl.ParseBytes(p, []byte(text))
		if code != impl.OK || !impl.ParserOK(q) {
			t.Errorf("ParseBytes(%+v, %q) = %+v, %d", p, text, q, code)
		}
		return q, list
	}
	p, list := piece(from, in)
	check("in one piece", p, list)
	for cut := range len(in) + 1 {
		middle, first := piece(from, in[:cut])
		p, rest := piece(middle, in[cut:])
		check(fmt.Sprint("cut at ", cut), p, append(first, rest...))
	}
	p, list = from, nil
	for i := range len(in) {
		next, some, code := impl.ParseByte(p, int(in[i]))
		if code != impl.OK {
			t.Errorf("ParseByte(%+v, %d): %d", p, in[i], code)
		}
		p, list = next, append(list, some...)
	}
	check("byte by byte", p, list)
}

func wantGround(t *testing.T, in string, want ...impl.Action) {
	t.Helper()
	wantParsed(t, impl.Parser{}, in, impl.Parser{}, want)
}

func TestGround(t *testing.T) {
	wantGround(t, "")
	wantGround(t, "ab ~", printOf('a'), printOf('b'), printOf(' '), printOf('~'))
	wantGround(t, "\a\b\t\n\r", controlOf(7), controlOf(8), controlOf(9), controlOf(10), controlOf(13))
	wantGround(t, "\x00\x01\x06\x0b\x0c\x0e\x1a\x1c\x1f\x7f")
	wantGround(t, "\x80\xbf\xc0\xc1\xf5\xfe\xff", slices.Repeat([]impl.Action{printOf(0xfffd)}, 7)...)
	wantParsed(t, impl.Parser{}, "a\x1b", impl.Parser{State: impl.PsEscape}, []impl.Action{printOf('a')})
}

func TestEscape(t *testing.T) {
	wantGround(t, "\x1b7\x1b8\x1bD\x1bE\x1bM\x1bc", escapeOf('7'), escapeOf('8'), escapeOf('D'), escapeOf('E'), escapeOf('M'), escapeOf('c'))
	wantGround(t, "\x1b6a\x1b9b\x1bCc\x1bFd\x1b\ne\x1b\af\x1b\x7fg\x1b\xe2h", printsOf("abcdefgh")...)
	wantGround(t, "\x1b\x1b\x1bc", escapeOf('c'))
	wantGround(t, "\x1b\\x", printOf('x'))
	wantParsed(t, impl.Parser{}, "\x1b[", impl.Parser{State: impl.PsCsi, Args: []int{-1}}, nil)
	wantParsed(t, impl.Parser{}, "\x1b]", impl.Parser{State: impl.PsOsc}, nil)
	wantParsed(t, impl.Parser{}, "\x1b\x1b", impl.Parser{State: impl.PsEscape}, nil)
}

func TestArgs(t *testing.T) {
	wantGround(t, "\x1b[A", csiOf('A', -1))
	wantGround(t, "\x1b[0A\x1b[00A\x1b[007A", csiOf('A', 0), csiOf('A', 0), csiOf('A', 7))
	wantGround(t, "\x1b[;m\x1b[;5H\x1b[5;H", csiOf('m', -1, -1), csiOf('H', -1, 5), csiOf('H', 5, -1))
	wantGround(t, "\x1b[@\x1b[~\x1b[[\x1b[]", csiOf('@', -1), csiOf('~', -1), csiOf('[', -1), csiOf(']', -1))
	for _, c := range []struct {
		digits string
		want   int
	}{
		{"999", 999}, {"9998", 9998}, {"9999", 9999}, {"10000", 9999}, {"99990", 9999}, {"99999", 9999}, {"123456", 9999},
		{"09999", 9999}, {"0001000", 1000}, {strings.Repeat("9", 100), 9999}, {strings.Repeat("0", 100) + "1", 1},
	} {
		wantGround(t, "\x1b["+c.digits+"A", csiOf('A', c.want))
		wantGround(t, "\x1b[3;"+c.digits+";4A", csiOf('A', 3, c.want, 4))
	}
	for _, b := range "0123456789" {
		wantParsed(t, impl.Parser{State: impl.PsCsi, Args: []int{4, 9999}}, string(b), impl.Parser{State: impl.PsCsi, Args: []int{4, 9999}}, nil)
	}
}

func TestMaxArgsAndOneMore(t *testing.T) {
	wantGround(t, "\x1b[1;2;3;4;5;6;7;8m", csiOf('m', 1, 2, 3, 4, 5, 6, 7, 8))
	wantGround(t, "\x1b[;;;;;;;m", csiOf('m', -1, -1, -1, -1, -1, -1, -1, -1))
	wantGround(t, "\x1b[1;2;3;4;5;6;7;8;mx", printOf('x'))
	wantGround(t, "\x1b[;;;;;;;;mx", printOf('x'))
	wantParsed(t, impl.Parser{}, "\x1b[;;;;;;;;", impl.Parser{State: impl.PsSkip}, nil)
	wantParsed(t, impl.Parser{}, "\x1b[?;;;;;;;;9", impl.Parser{State: impl.PsSkip}, nil)
	wantParsed(t, impl.Parser{}, "\x1b[;;;;;;;", impl.Parser{State: impl.PsCsi, Args: []int{-1, -1, -1, -1, -1, -1, -1, -1}}, nil)
}

func TestPrivate(t *testing.T) {
	wantGround(t, "\x1b[?h", privateOf('h', -1))
	wantGround(t, "\x1b[?25;1h", privateOf('h', 25, 1))
	wantGround(t, "\x1b[\n?25h", controlOf(10), privateOf('h', 25))
	wantGround(t, "\x1b[?25h\x1b[25h", privateOf('h', 25), csiOf('h', 25))
	for _, ahead := range []string{"?", "1", "0", ";", "1;", "?1", "?;", "\n1", "?\n"} {
		ahead = "\x1b[" + ahead
		_, controls := modelBytes(impl.Parser{}, []byte(ahead))
		wantParsed(t, impl.Parser{}, ahead+"?", impl.Parser{State: impl.PsSkip}, controls)
		wantGround(t, ahead+"?1hx", append(controls, printOf('x'))...)
	}
}

func TestWithinArgs(t *testing.T) {
	wantGround(t, "\x1b[1\a2\b;\t3\n\r4A", controlOf(7), controlOf(8), controlOf(9), controlOf(10), controlOf(13), csiOf('A', 12, 34))
	wantGround(t, "\x1b[?1;2\x1b[3A", csiOf('A', 3))
	wantGround(t, "\x1b[1\x1bDa", escapeOf('D'), printOf('a'))
	wantParsed(t, impl.Parser{}, "\x1b[?1;2\x1b", impl.Parser{State: impl.PsEscape}, nil)
	for _, b := range []string{"\x00", "\x06", "\x0b", "\x0c", "\x0e", "\x1a", "\x1c", "\x1f", " ", "!", "$", "/", ":", "<", "=", ">", "\x7f", "\x80", "\xc2", "\xe2", "\xff"} {
		wantParsed(t, impl.Parser{}, "\x1b[?1;2"+b, impl.Parser{State: impl.PsSkip}, nil)
	}
}

func TestSkip(t *testing.T) {
	wantGround(t, "\x1b[ \n\r\a0;?\x7f\x80\xe2\xffAx", printOf('x'))
	wantGround(t, "\x1b[1$\x1b[2A", csiOf('A', 2))
	wantGround(t, "\x1b[ @x\x1b[ ~y", printOf('x'), printOf('y'))
	wantParsed(t, impl.Parser{}, "\x1b[ ?", impl.Parser{State: impl.PsSkip}, nil)
}

func TestTitles(t *testing.T) {
	all := "\x1b]"
	for b := 0; b < 256; b++ {
		if b != 7 && b != 27 && (b < 32 || b > 126) {
			all += string([]byte{byte(b)})
		}
	}
	wantGround(t, all+"\a", oscOf(""))
	wantGround(t, all+" t~\x1b\\", oscOf(" t~"))
	full := strings.Repeat("0123456789", 4)
	for _, end := range []string{"\a", "\x1b\\"} {
		wantGround(t, "\x1b]"+end, oscOf(""))
		wantGround(t, "\x1b]"+full[:39]+end, oscOf(full[:39]))
		wantGround(t, "\x1b]"+full+end, oscOf(full))
		wantGround(t, "\x1b]"+full+"x"+end+"y", oscOf(full), printOf('y'))
		wantGround(t, "\x1b]"+full+full+"\n"+end, oscOf(full))
		wantGround(t, "\x1b]one"+end+"\x1b]two"+end, oscOf("one"), oscOf("two"))
	}
	wantParsed(t, impl.Parser{}, "\x1b]"+full+"x", impl.Parser{State: impl.PsOsc, Text: full}, nil)
	wantParsed(t, impl.Parser{}, "\x1b]t\xc3\xa4", impl.Parser{State: impl.PsOsc, Text: "t"}, nil)
}

func TestTitlesThatAreBrokenOff(t *testing.T) {
	ahead := "\x1b]title\x1b"
	wantParsed(t, impl.Parser{}, ahead, impl.Parser{State: impl.PsOscEnd, Text: "title"}, nil)
	wantParsed(t, impl.Parser{}, ahead+"\x1b", impl.Parser{State: impl.PsEscape}, nil)
	wantParsed(t, impl.Parser{}, ahead+"[", impl.Parser{State: impl.PsCsi, Args: []int{-1}}, nil)
	wantParsed(t, impl.Parser{}, ahead+"]", impl.Parser{State: impl.PsOsc}, nil)
	wantGround(t, ahead+"]t\a", oscOf("t"))
	wantGround(t, ahead+"\x1b\\x", printOf('x'))
	wantGround(t, ahead+"7\x1b]t\x1bDx", escapeOf('7'), escapeOf('D'), printOf('x'))
	for _, b := range []string{"\a", "\n", "\x00", "x", " ", "\x7f", "\x80", "\xc3", "\xff"} {
		wantGround(t, ahead+b)
	}
}

func TestEveryRuneIsPrinted(t *testing.T) {
	t.Parallel()
	var text []byte
	var want []impl.Action
	check := func() {
		t.Helper()
		p, list, code := impl.ParseBytes(impl.Parser{}, text)
		if !sameParser(p, impl.Parser{}) || !sameActions(list, want) || code != impl.OK {
			t.Fatalf("ParseBytes of runes up to %#x: %+v, %d actions, %d", want[len(want)-1].N, p, len(list), code)
		}
		text, want = nil, nil
	}
	for n := rune(128); n <= 0x10ffff; n++ {
		if n >= 0xd800 && n <= 0xdfff {
			continue
		}
		text, want = utf8.AppendRune(text, n), append(want, printOf(int(n)))
		if len(text) > impl.MaxText-4 {
			check()
		}
	}
	check()
}

func TestRunesCutOffAtEveryPlace(t *testing.T) {
	for _, n := range []rune{0x80, 0xe4, 0x7ff, 0x800, 0xfff, 0x1000, 0x20ac, 0xcfff, 0xd7ff, 0xe000, 0xfffd, 0xffff, 0x10000, 0x1f600, 0x3ffff, 0x40000, 0xfffff, 0x10ffff} {
		whole := string(n)
		wantGround(t, "a"+whole+"b", printOf('a'), printOf(int(n)), printOf('b'))
		for cut := 1; cut < len(whole); cut++ {
			part := whole[:cut]
			wantParsed(t, impl.Parser{}, part, impl.Parser{State: impl.PsUtf, Utf: part}, nil)
			for _, behind := range []string{"\x00", "\x7f", "\xff", "\xc0", "\xf5", "\n", "a", " ", "~", "\u00e4", "\u20ac", "\U0001f600", "\x1b[A", "\x1b]t\a", "\x1b", "\xc2", "\xe2", "\xf0"} {
				to, list := modelBytes(impl.Parser{}, []byte(behind))
				wantParsed(t, impl.Parser{}, part+behind, to, append([]impl.Action{printOf(0xfffd)}, list...))
			}
			wantParsed(t, impl.Parser{}, part+part, impl.Parser{State: impl.PsUtf, Utf: part}, []impl.Action{printOf(0xfffd)})
		}
	}
}

// wantBroken holds bytes of which none may join another against one 0xfffd of each.
func wantBroken(t *testing.T, in string) {
	t.Helper()
	wantGround(t, in, slices.Repeat([]impl.Action{printOf(0xfffd)}, len(in))...)
}

func TestRunesThatAreNone(t *testing.T) {
	for _, in := range []string{
		"\xc0\x80", "\xc0\xaf", "\xc1\xbf", "\xe0\x80\x80", "\xe0\x9f\xbf", "\xf0\x80\x80\x80", "\xf0\x8f\xbf\xbf", "\xf8\x88\x80\x80\x80",
		"\xf4\x90\x80\x80", "\xf4\xbf\xbf\xbf", "\xf5\x80\x80\x80", "\xf7\xbf\xbf\xbf", "\xff\xff", "\x80", "\xbf\xbf\xbf\xbf",
	} {
		wantBroken(t, in)
	}
	for second := 0xa0; second <= 0xbf; second++ {
		for third := 0x80; third <= 0xbf; third++ {
			wantBroken(t, string([]byte{0xed, byte(second), byte(third)}))
		}
	}
	wantGround(t, "\xe2\x82\xe2\x82\xac", printOf(0xfffd), printOf(0x20ac))
	wantGround(t, "\xf0\x9f\x98\xf0\x9f\x98\x80", printOf(0xfffd), printOf(0x1f600))
	wantGround(t, "\xc3\xc3\xa4\xa4", printOf(0xfffd), printOf(0xe4), printOf(0xfffd))
	wantGround(t, "\xe0\x80\x1b[A", printOf(0xfffd), printOf(0xfffd), csiOf('A', -1))
}

func TestProgramsBytesInPieces(t *testing.T) {
	for _, in := range []string{
		"$ ls\r\n\x1b[1;34mdir\x1b[0m  file\r\n\x1b]0;~/dir\a$ ",
		"\x1b[?1049h\x1b[2J\x1b[1;1H\xe2\x94\x8c\xe2\x94\x80\xe2\x94\x90\x1b[?25l\x1b7\x1b8\x1bM",
		"\x1b]2;one\x1b\\\x1b]two\x1b]three\a\xf0\x9f\x98\x1b[5\xe2\x82Ax\xe2\x82",
		"\x1b[1;2;3;4;5;6;7;8;9mx\x1b[99999;;?1hy\x1b[ qz\x1b\x1b\x1b[",
	} {
		to, want := modelBytes(impl.Parser{}, []byte(in))
		wantParsed(t, impl.Parser{}, in, to, want)
	}
}

// likelyBytes are drawn of those that mean something in one state or another.
func likelyBytes(draw *rand.Rand, n int) []byte {
	const likely = "\x1b\x1b\x1b\x1b[[[]]\\\a\n\r019;;;?mAHcD7~ x\x00\x7f\x80\x9f\xa0\xbf\xc0\xc3\xe0\xe2\xed\xf0\xf4\xf5\xff"
	b := make([]byte, n)
	for i := range b {
		b[i] = likely[draw.Intn(len(likely))]
	}
	return b
}

func TestDrawnBytesInPieces(t *testing.T) {
	draw := rand.New(rand.NewSource(3))
	starts := someParsers()
	for range 3000 {
		from := starts[draw.Intn(len(starts))]
		in := likelyBytes(draw, draw.Intn(24))
		to, want := modelBytes(from, in)
		wantParsed(t, from, string(in), to, want)
	}
}

func TestManyBytesInManyPieces(t *testing.T) {
	t.Parallel()
	draw := rand.New(rand.NewSource(4))
	for range 20 {
		in := likelyBytes(draw, impl.MaxText)
		to, want := modelBytes(impl.Parser{}, in)
		p, list := impl.Parser{}, []impl.Action(nil)
		for at := 0; at < len(in); {
			end := min(len(in), at+draw.Intn(5000))
			next, some, code := impl.ParseBytes(p, in[at:end])
			if code != impl.OK {
				t.Fatal(code)
			}
			p, list, at = next, append(list, some...), end
		}
		if !sameParser(p, to) || !sameActions(list, want) {
			t.Error("many pieces tell otherwise than the model")
		}
		if whole, all, code := impl.ParseBytes(impl.Parser{}, in); !sameParser(whole, to) || !sameActions(all, want) || code != impl.OK {
			t.Error("one piece tells otherwise than the model")
		}
	}
}

func TestParseBytesOfMaxTextAndOneMore(t *testing.T) {
	for _, text := range []string{"a", "\x1b", "\xff", "\n", "\x00"} {
		in := []byte(strings.Repeat(text, impl.MaxText+1))
		to, want := modelBytes(impl.Parser{}, in[:impl.MaxText])
		if p, list, code := impl.ParseBytes(impl.Parser{}, in[:impl.MaxText]); !sameParser(p, to) || !sameActions(list, want) || code != impl.OK {
			t.Errorf("ParseBytes of MaxText %q: %+v, %d actions, %d", text, p, len(list), code)
		}
		for _, p := range []impl.Parser{{}, {State: impl.PsOsc, Text: "t"}, {State: 7}, {Text: "x"}} {
			if q, list, code := impl.ParseBytes(p, in); !sameParser(q, impl.Parser{}) || len(list) != 0 || code != impl.ErrLong {
				t.Errorf("ParseBytes(%+v) of one more: %+v, %d actions, %d", p, q, len(list), code)
			}
		}
	}
}

func wrongParsers() []impl.Parser {
	var list []impl.Parser
	for _, state := range []int{-1, 7, 8, 255, 256, 1 << 32, math.MinInt, math.MaxInt} {
		list = append(list, impl.Parser{State: state})
	}
	for _, state := range []int{0, 1, 3, 4, 5, 6} {
		utf := ""
		if state == impl.PsUtf {
			utf = "\xe2"
		}
		list = append(list, impl.Parser{State: state, Args: []int{-1}, Utf: utf}, impl.Parser{State: state, Private: true, Utf: utf}, impl.Parser{State: state, Args: []int{0, 1}, Private: true, Utf: utf})
	}
	for _, state := range []int{0, 1, 3} {
		list = append(list, impl.Parser{State: state, Text: "t"}, impl.Parser{State: state, Utf: "\xe2"})
	}
	list = append(list, impl.Parser{State: impl.PsUtf, Utf: "\xe2", Text: "t"}, impl.Parser{State: impl.PsCsi, Args: []int{-1}, Text: "t"}, impl.Parser{State: impl.PsCsi, Args: []int{-1}, Utf: "\xe2"})
	for _, args := range [][]int{nil, {}, {-2}, {10000}, {1, -2}, {10000, 1}, {math.MinInt}, {math.MaxInt}, {1<<32 + 5}, make([]int, 9), make([]int, 100000), {0, 0, 0, 0, 0, 0, 0, 10000}} {
		list = append(list, impl.Parser{State: impl.PsCsi, Args: args}, impl.Parser{State: impl.PsCsi, Args: args, Private: true})
	}
	for _, state := range []int{impl.PsOsc, impl.PsOscEnd} {
		for _, text := range []string{strings.Repeat("t", 41), strings.Repeat("t", impl.MaxText+1), "\x1f", "\x7f", "a\x80", "\n", "\a", "\x1b", "t\x00", "\u00e4", "\xff"} {
			list = append(list, impl.Parser{State: state, Text: text})
		}
		list = append(list, impl.Parser{State: state, Utf: "\xe2"})
	}
	for _, utf := range []string{
		"", "a", "\x7f", "\x80", "\xbf", "\xc0", "\xc1", "\xf5", "\xff", "\u00e4", "\u20ac", "\U0001f600", "\xc3a", "\xe2\x82a", "\xe0\x80", "\xe0\x9f", "\xed\xa0", "\xed\xbf",
		"\xf0\x80", "\xf0\x8f", "\xf4\x90", "\xf0\x9f\x1b", "\xf0\x9f\xc0", "\xe2\x7f", "\xe2\xc0", "\xe2\x82\x82\x82", "\xf0\x9f\x98\x80\x80", "a\xe2", "\xe2\xe2", strings.Repeat("\xe2", impl.MaxText+1),
	} {
		list = append(list, impl.Parser{State: impl.PsUtf, Utf: utf})
	}
	return list
}

func TestParsersThatAreNotRight(t *testing.T) {
	for _, p := range wrongParsers() {
		if impl.ParserOK(p) {
			t.Errorf("ParserOK(%.200q)", fmt.Sprintf("%+v", p))
		}
		for _, b := range []int{0, 27, 'a', 255, -1, 256} {
			if q, list, code := impl.ParseByte(p, b); !sameParser(q, impl.Parser{}) || len(list) != 0 || code != impl.ErrBad {
				t.Errorf("ParseByte(%.200q, %d) = %+v, %+v, %d", fmt.Sprintf("%+v", p), b, q, list, code)
			}
		}
		for _, in := range []string{"", "a", "\x1b[A", strings.Repeat("a", impl.MaxText)} {
			if q, list, code := impl.ParseBytes(p, []byte(in)); !sameParser(q, impl.Parser{}) || len(list) != 0 || code != impl.ErrBad {
				t.Errorf("ParseBytes(%.200q, %.20q) = %+v, %+v, %d", fmt.Sprintf("%+v", p), in, q, list, code)
			}
		}
	}
}

func TestParserOKOfEveryTitleByte(t *testing.T) {
	for b := range 256 {
		text := string([]byte{'a', byte(b), 'c'})
		want := b >= 32 && b <= 126
		if impl.ParserOK(impl.Parser{State: impl.PsOsc, Text: text}) != want || impl.ParserOK(impl.Parser{State: impl.PsOscEnd, Text: text}) != want || impl.ActionOK(oscOf(text)) != want {
			t.Errorf("Text %q", text)
		}
	}
}

// someActions are right ones of every kind.
func someActions() []impl.Action {
	var list []impl.Action
	for n := 32; n < 127; n++ {
		list = append(list, printOf(n))
	}
	for _, n := range []int{128, 0x9f, 0xa0, 0xff, 0x7ff, 0x800, 0xd7ff, 0xe000, 0xfffd, 0xfffe, 0xffff, 0x10000, 0x1f600, 0x10fffe, 0x10ffff} {
		list = append(list, printOf(n))
	}
	for _, n := range []int{7, 8, 9, 10, 13} {
		list = append(list, controlOf(n))
	}
	for _, n := range "78DEMc" {
		list = append(list, escapeOf(int(n)))
	}
	for n := 64; n < 127; n++ {
		for _, args := range someArgs() {
			list = append(list, csiOf(n, args...), privateOf(n, args...))
		}
	}
	for _, text := range someTitles() {
		list = append(list, oscOf(text))
	}
	return list
}

func TestAnActionsTextBringsAboutJustIt(t *testing.T) {
	for _, a := range someActions() {
		text, code := impl.ActionText(a)
		if !impl.ActionOK(a) || code != impl.OK {
			t.Fatalf("ActionText(%+v) = %q, %d", a, text, code)
		}
		wantGround(t, text, a)
	}
}

func TestActionTextOfEveryRune(t *testing.T) {
	for n := -300; n <= 0x110100; n++ {
		want := n >= 32 && n <= 126 || n >= 128 && n <= 0xd7ff || n >= 0xe000 && n <= 0x10ffff
		text, code := impl.ActionText(printOf(n))
		if impl.ActionOK(printOf(n)) != want || (code == impl.OK) != want || want && text != string(rune(n)) || !want && (text != "" || code != impl.ErrBad) {
			t.Fatalf("ActionText of rune %#x = %q, %d", n, text, code)
		}
	}
}

func TestActionTexts(t *testing.T) {
	for _, c := range []struct {
		a    impl.Action
		want string
	}{
		{printOf('a'), "a"}, {printOf(0xe4), "\xc3\xa4"}, {printOf(0x20ac), "\xe2\x82\xac"}, {printOf(0x1f600), "\xf0\x9f\x98\x80"}, {controlOf(7), "\x07"}, {controlOf(13), "\r"},
		{escapeOf('7'), "\x1b7"}, {escapeOf('c'), "\x1bc"}, {csiOf('A', -1), "\x1b[A"}, {csiOf('A', 0), "\x1b[0A"}, {csiOf('H', -1, 5), "\x1b[;5H"}, {csiOf('H', 5, -1), "\x1b[5;H"},
		{privateOf('h', -1), "\x1b[?h"}, {privateOf('h', 25, 9999), "\x1b[?25;9999h"}, {csiOf('m', -1, -1, -1, -1, -1, -1, -1, -1), "\x1b[;;;;;;;m"}, {oscOf(""), "\x1b]\x07"}, {oscOf("0;a b"), "\x1b]0;a b\x07"},
	} {
		if text, code := impl.ActionText(c.a); text != c.want || code != impl.OK {
			t.Errorf("ActionText(%+v) = %q, %d, not %q", c.a, text, code, c.want)
		}
	}
}

func wrongActions() []impl.Action {
	var list []impl.Action
	for _, kind := range []int{-1, 0, 6, 7, 256 + 1, 1<<32 + 1, math.MinInt, math.MaxInt} {
		list = append(list, impl.Action{Kind: kind}, impl.Action{Kind: kind, N: 'A'}, impl.Action{Kind: kind, N: 'A', Args: []int{-1}})
	}
	for _, n := range []int{math.MinInt, -1, 0, 7, 27, 31, 127, 0xd800, 0xdabc, 0xdfff, 0x110000, 1 << 31, 1<<32 + 'a', math.MaxInt} {
		list = append(list, printOf(n))
	}
	for n := -1; n < 300; n++ {
		if !slices.Contains([]int{7, 8, 9, 10, 13}, n) {
			list = append(list, controlOf(n))
		}
		if !strings.Contains("78DEMc", string(rune(n))) {
			list = append(list, escapeOf(n))
		}
		if n < 64 || n > 126 {
			list = append(list, csiOf(n, -1), privateOf(n, 1, 2))
		}
		if n != 0 {
			list = append(list, impl.Action{Kind: impl.AcOsc, N: n, Text: "t"})
		}
	}
	for _, args := range [][]int{nil, {}, {-2}, {10000}, {1, -2}, {10000, 1}, {math.MinInt}, {math.MaxInt}, make([]int, 9), make([]int, 5000)} {
		list = append(list, csiOf('A', args...), privateOf('A', args...))
	}
	for _, text := range []string{strings.Repeat("t", 41), strings.Repeat("t", impl.MaxText+1), "\n", "\x1f", "\x7f", "\x80", "\u00e4", "a\a"} {
		list = append(list, oscOf(text))
	}
	for _, a := range []impl.Action{printOf('a'), controlOf(10), escapeOf('D'), oscOf("t"), csiOf('A', -1)} {
		if a.Kind != impl.AcOsc {
			a.Text = "t"
			list = append(list, a)
			a.Text = ""
		}
		if a.Kind != impl.AcCsi {
			list = append(list, withArgs(a, false, -1), withArgs(a, true), withArgs(a, true, 5, 6))
		}
	}
	return list
}

func withArgs(a impl.Action, private bool, args ...int) impl.Action {
	a.Private, a.Args = private, args
	return a
}

func TestActionsThatAreNotRight(t *testing.T) {
	for _, a := range wrongActions() {
		if impl.ActionOK(a) {
			t.Errorf("ActionOK(%.200q)", fmt.Sprintf("%+v", a))
		}
		if text, code := impl.ActionText(a); text != "" || code != impl.ErrBad {
			t.Errorf("ActionText(%.200q) = %q, %d", fmt.Sprintf("%+v", a), text, code)
		}
		for _, i := range []int{-1, 0, 7, 8} {
			for _, other := range []int{-2, -1, 9999, 10000} {
				if n, code := impl.ArgOf(a, i, other); n != 0 || code != impl.ErrBad {
					t.Errorf("ArgOf(%.200q, %d, %d) = %d, %d", fmt.Sprintf("%+v", a), i, other, n, code)
				}
			}
		}
	}
}

func TestArgOf(t *testing.T) {
	actions := []impl.Action{printOf('a'), controlOf(10), escapeOf('7'), oscOf("t"), csiOf('A', -1), csiOf('A', 0), csiOf('H', 5, -1, 9999), privateOf('h', -1, 25), csiOf('m', 1, 2, 3, 4, 5, 6, 7, 8), csiOf('m', -1, -1, -1, -1, -1, -1, -1, -1)}
	for _, a := range actions {
		for i := -2; i < 12; i++ {
			for _, other := range []int{-2, -1, 0, 1, 7, 9998, 9999, 10000} {
				want, wantCode := other, impl.OK
				if i < 0 || i > 7 || other < -1 || other > 9999 {
					want, wantCode = 0, impl.ErrRange
				} else if i < len(a.Args) && a.Args[i] != -1 {
					want = a.Args[i]
				}
				if n, code := impl.ArgOf(a, i, other); n != want || code != wantCode {
					t.Errorf("ArgOf(%+v, %d, %d) = %d, %d, not %d, %d", a, i, other, n, code, want, wantCode)
				}
			}
		}
		for _, n := range []int{math.MinInt, math.MaxInt, 1 << 32} {
			_, one := impl.ArgOf(a, n, 0)
			if _, other := impl.ArgOf(a, 0, n); one != impl.ErrRange || other != impl.ErrRange {
				t.Errorf("ArgOf(%+v) at %d: %d, %d", a, n, one, other)
			}
		}
	}
}

// roomyArgs are Args with memory behind them, which no call may write to.
func roomyArgs(args []int) (room, part []int) {
	room = append(slices.Clone(args), slices.Repeat([]int{-77}, 20)...)
	return room, room[:len(args)]
}

func TestArgsAreNotChangedNorWhatStandsBehindThem(t *testing.T) {
	pieces := []string{"", "\n", "5", ";", ";;5", "1;2\n3A", "A", "?", "\x1b[7;8", "\x00A\x1b[1;2;3A\x1b[4", ";9;9;9;9;9;9;9;9"}
	for _, args := range someArgs() {
		room, part := roomyArgs(args)
		was := slices.Clone(room)
		p := impl.Parser{State: impl.PsCsi, Args: part}
		a := csiOf('A', part...)
		for b := range 256 {
			impl.ParseByte(p, b)
		}
		for _, in := range pieces {
			impl.ParseBytes(p, []byte(in))
		}
		impl.ParserOK(p)
		impl.ActionOK(a)
		impl.ActionText(a)
		impl.ArgOf(a, 0, 5)
		if !slices.Equal(room, was) {
			t.Errorf("Args %v, or what stands behind them, became %v", args, room)
		}
	}
}

// spoilt writes into every list of an answer, and behind its end as far as its memory goes.
func spoilt(p impl.Parser, list []impl.Action) {
	spoil := func(args []int) {
		for i := range args[:cap(args)] {
			args[:cap(args)][i] = -55
		}
	}
	spoil(p.Args)
	for _, a := range list {
		spoil(a.Args)
	}
}

func TestAnswersAreNewMemory(t *testing.T) {
	for _, args := range someArgs() {
		for _, in := range []string{"", "\n", "\a\a", "5", ";", "A", "?", "\x1b[7;8", "\n;5"} {
			room, part := roomyArgs(args)
			was := slices.Clone(room)
			p := impl.Parser{State: impl.PsCsi, Args: part}
			first, told, _ := impl.ParseBytes(p, []byte(in))
			wantParser, want := modelBytes(p, []byte(in))
			second, toldAgain, _ := impl.ParseBytes(p, []byte(in))
			spoilt(first, told)
			if !slices.Equal(room, was) || !sameParser(second, wantParser) || !sameActions(toldAgain, want) {
				t.Errorf("ParseBytes(%v, %q) shares memory", args, in)
			}
			if len(in) == 1 {
				one, list, _ := impl.ParseByte(p, int(in[0]))
				other, listAgain, _ := impl.ParseByte(p, int(in[0]))
				if spoilt(one, list); !slices.Equal(room, was) || !sameParser(other, wantParser) || !sameActions(listAgain, want) {
					t.Errorf("ParseByte(%v, %q) shares memory", args, in)
				}
			}
		}
	}
}

func TestListsOfOneAnswerShareNoMemory(t *testing.T) {
	from := impl.Parser{State: impl.PsCsi, Args: []int{1, 2}}
	for _, end := range []string{"", "\x1b[6;7", "\x1b[6;7\x1b", "\x1b[6;7 "} {
		in := []byte("3A\x1b[1;2A\x1b[A\x1b[3;4;5B\x1b[?25;1h\x1b[;;;;;;;m" + end)
		to, want := modelBytes(from, in)
		for i := range want {
			p, list, _ := impl.ParseBytes(from, in)
			spoilt(impl.Parser{}, list[i:i+1])
			list[i] = want[i]
			if !sameParser(p, to) || !sameActions(list, want) {
				t.Errorf("the Args of action %d are others', too: %+v, %+v", i, p, list)
			}
		}
		p, list, _ := impl.ParseBytes(from, in)
		if spoilt(p, nil); !sameActions(list, want) {
			t.Errorf("the parser's Args are an action's, too: %+v", list)
		}
	}
}

func TestParsedBytesAreNotKept(t *testing.T) {
	in := []byte("\x1b]title\a\xe2\x82\xac\x1b[1;2A\x1b]rest")
	to, want := modelBytes(impl.Parser{}, in)
	p, list, _ := impl.ParseBytes(impl.Parser{}, in)
	clear(in)
	if !sameParser(p, to) || !sameActions(list, want) {
		t.Errorf("answers share memory with bytes that were parsed: %+v, %+v", p, list)
	}
}
