package tests

import (
	"math"
	"strings"
	"testing"

	"loop.example/g00308/impl"
)

func codeTable() []struct {
	number, constant int
	word             string
} {
	return []struct {
		number, constant int
		word             string
	}{
		{0, impl.OK, "ok"},
		{1, impl.ErrBad, "bad"},
		{2, impl.ErrLong, "long"},
		{3, impl.ErrForm, "form"},
		{4, impl.ErrRange, "range"},
		{5, impl.ErrNone, "none"},
		{6, impl.ErrMany, "many"},
		{7, impl.ErrFull, "full"},
		{8, impl.ErrSum, "sum"},
		{9, impl.ErrTwice, "twice"},
		{10, impl.ErrSmall, "small"},
		{11, impl.ErrStale, "stale"},
		{12, impl.ErrLeader, "leader"},
		{13, impl.ErrDown, "down"},
		{14, impl.ErrAgain, "again"},
		{15, impl.ErrLate, "late"},
		{16, impl.ErrToken, "token"},
		{17, impl.ErrLast, "last"},
		{18, impl.ErrLost, "lost"},
		{19, impl.ErrView, "view"},
	}
}

func TestLimits(t *testing.T) {
	if impl.MaxText != 65536 || impl.MaxList != 4096 || impl.MaxName != 40 || impl.HashSize != 32 {
		t.Error(impl.MaxText, impl.MaxList, impl.MaxName, impl.HashSize)
	}
}

func TestCodeWordOfEveryCode(t *testing.T) {
	for _, c := range codeTable() {
		if c.constant != c.number {
			t.Errorf("constant of %q is %d, not %d", c.word, c.constant, c.number)
		}
		if got := impl.CodeWord(c.number); got != c.word {
			t.Errorf("CodeWord(%d) = %q, not %q", c.number, got, c.word)
		}
		if got := impl.CodeOf(c.word); got != c.number {
			t.Errorf("CodeOf(%q) = %d, not %d", c.word, got, c.number)
		}
	}
}

func TestCodeWordOfOtherNumbers(t *testing.T) {
	for _, n := range []int{-1, -2, -19, 20, 21, 255, 256, 1 << 32, 1<<32 + 1, math.MinInt, math.MinInt + 1, math.MaxInt} {
		if got := impl.CodeWord(n); got != "" {
			t.Errorf("CodeWord(%d) = %q", n, got)
		}
	}
}

func TestCodeOfOtherTexts(t *testing.T) {
	others := []string{
		"", " ", "o", "k", "OK", "Ok", "ok ", " ok", "okok", "ok\x00", "\x00", "\n", "ErrBad", "0", "-1",
		"views", "vie", "leade", "leader\n", "Stale", "sta1e", "lon\xe7",
		strings.Repeat("ok", impl.MaxText/2), strings.Repeat("v", impl.MaxText+1),
		"view" + strings.Repeat(" ", impl.MaxText),
	}
	for _, c := range codeTable() {
		others = append(others, strings.ToUpper(c.word), c.word+"x", c.word[1:], c.word[:len(c.word)-1])
	}
	for _, word := range others {
		if got := impl.CodeOf(word); got != -1 {
			t.Errorf("CodeOf(%.20q) = %d", word, got)
		}
	}
}

func TestNameOKOfEveryByte(t *testing.T) {
	const letters = "abcdefghijklmnopqrstuvwxyzABCDEFGHIJKLMNOPQRSTUVWXYZ_"
	for i := range 256 {
		c := string([]byte{byte(i)})
		letter := strings.Contains(letters, c)
		digit := strings.Contains("0123456789", c)
		if got := impl.NameOK(c); got != letter {
			t.Errorf("NameOK(%q) = %v", c, got)
		}
		if got := impl.NameOK(c + "a"); got != letter {
			t.Errorf("NameOK(%q) = %v", c+"a", got)
		}
		for _, name := range []string{"a" + c, "a" + c + "b", strings.Repeat("Z", 39) + c} {
			if got := impl.NameOK(name); got != (letter || digit) {
				t.Errorf("NameOK(%q) = %v", name, got)
			}
		}
	}
}

func TestNameOKOfEveryLength(t *testing.T) {
	for n := range 100 {
		want := n >= 1 && n <= 40
		if got := impl.NameOK(strings.Repeat("n", n)); got != want {
			t.Errorf("NameOK of %d bytes = %v", n, got)
		}
	}
	for _, n := range []int{impl.MaxText - 1, impl.MaxText, impl.MaxText + 1} {
		if impl.NameOK(strings.Repeat("n", n)) {
			t.Errorf("NameOK of %d bytes", n)
		}
	}
}

func TestNameOKOfWholeTexts(t *testing.T) {
	for name, want := range map[string]bool{
		"main": true, "_": true, "_1": true, "A9_z": true, "a" + strings.Repeat("0", 39): true,
		"1": false, "1a": false, "a-b": false, "a b": false, "a\n": false, " a": false, "é": false, "aé": false, "ａ": false,
	} {
		if got := impl.NameOK(name); got != want {
			t.Errorf("NameOK(%q) = %v", name, got)
		}
	}
}
