package tests

import (
	"bytes"
	"fmt"
	"math"
	"strings"
	"sync"
	"testing"

	"loop.example/g00308/impl"
)

// call is one call with its arguments bound; its answer is told as a text, to be held against others.
type call struct {
	name string
	do   func() string
}

func bytesCalls(b []byte) []call {
	return []call{
		{fmt.Sprintf("Hash of %d bytes", len(b)), func() string { return impl.Hash(b) }},
		{fmt.Sprintf("Check32 of %d bytes", len(b)), func() string { return fmt.Sprint(impl.Check32(b)) }},
	}
}

func textCalls(text string) []call {
	named := func(name string) string { return fmt.Sprintf("%s(%.12q) of %d bytes", name, text, len(text)) }
	coded := func(f func(string) (string, int)) func() string {
		return func() string { answer, code := f(text); return fmt.Sprintf("%q %d", answer, code) }
	}
	return []call{
		{named("NameOK"), func() string { return fmt.Sprint(impl.NameOK(text)) }},
		{named("CodeOf"), func() string { return fmt.Sprint(impl.CodeOf(text)) }},
		{named("HashText"), coded(impl.HashText)},
		{named("ReadHash"), coded(impl.ReadHash)},
		{named("HashBits"), coded(impl.HashBits)},
	}
}

func allCalls() []call {
	var list []call
	for _, n := range []int{0, 1, 55, 56, 63, 64, 65, 119, 120, 127, 128, impl.MaxText - 1, impl.MaxText, impl.MaxText + 1} {
		list = append(list, bytesCalls(sampleBytes(n))...)
		list = append(list, textCalls(string(sampleBytes(n)))...)
		list = append(list, textCalls(strings.Repeat("a", n))...)
	}
	list = append(list, bytesCalls(nil)...)
	for _, text := range []string{"ok", "view", "A", "9", strings.Repeat("x", 40), strings.Repeat("x", 41), impl.Hash(nil)} {
		list = append(list, textCalls(text)...)
	}
	for _, n := range []int{math.MinInt, -1, 0, 7, 19, 20, math.MaxInt} {
		list = append(list, call{fmt.Sprintf("CodeWord(%d)", n), func() string { return impl.CodeWord(n) }})
	}
	return list
}

func TestAnswersDoNotHangOnCallsAhead(t *testing.T) {
	calls := allCalls()
	first := make([]string, len(calls))
	for i, c := range calls {
		first[i] = c.do()
	}
	for i := len(calls) - 1; i >= 0; i-- {
		if calls[i].do() != first[i] || calls[i].do() != first[i] {
			t.Error(calls[i].name, "answers otherwise when it comes again")
		}
	}
}

func TestAnswersDoNotHangOnCallsBeside(t *testing.T) {
	calls := allCalls()
	alone := make([]string, len(calls))
	for i, c := range calls {
		alone[i] = c.do()
	}
	beside := make([]string, len(calls))
	var group sync.WaitGroup
	for i, c := range calls {
		group.Go(func() { beside[i] = c.do() })
	}
	group.Wait()
	for i, c := range calls {
		if beside[i] != alone[i] {
			t.Error(c.name, "answers otherwise beside others")
		}
	}
}

func TestBytesAreNotChangedNorWhatStandsBehindThem(t *testing.T) {
	for _, n := range []int{0, 1, 54, 55, 56, 57, 63, 64, 65, 119, 120, 128, impl.MaxText, impl.MaxText + 1} {
		room := bytes.Repeat([]byte{0xa5}, n+200)
		copy(room, sampleBytes(n))
		was := bytes.Clone(room)
		for _, c := range bytesCalls(room[:n]) {
			c.do()
			if !bytes.Equal(room, was) {
				t.Error(c.name, "writes into its argument, or behind it")
			}
		}
	}
}

func TestAlikeBytesHaveAlikeAnswers(t *testing.T) {
	for _, n := range []int{0, 1, 55, 56, 64, 120, impl.MaxText, impl.MaxText + 1} {
		tight := sampleBytes(n)
		roomy := append(make([]byte, 0, n+300), tight...)
		wantAlike(t, tight, roomy)
	}
	wantAlike(t, nil, []byte{})
}

func wantAlike(t *testing.T, a, b []byte) {
	t.Helper()
	one, other := bytesCalls(a), bytesCalls(b)
	for i := range one {
		if one[i].do() != other[i].do() {
			t.Error(one[i].name, "answers otherwise of alike bytes")
		}
	}
}

func TestAnswersStayWhenTheArgumentChangesLater(t *testing.T) {
	b := sampleBytes(100)
	answer := impl.Hash(b)
	kept := strings.Clone(answer)
	clear(b)
	if answer != kept || impl.Hash(b) == kept {
		t.Error("Hash shares memory with its argument")
	}
}
