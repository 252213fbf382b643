package tests

import (
	"bytes"
	"crypto/hmac"
	"crypto/sha256"
	"encoding/binary"
	"encoding/hex"
	"hash/crc32"
	"math"
	"slices"
	"strings"
	"testing"

	"loop.example/g00308/impl"
)

func wantKeyed(key, msg string) string {
	sum := hmac.New(sha256.New, []byte(key))
	sum.Write([]byte(msg))
	return string(sum.Sum(nil))
}

func TestHmacOfKnownTexts(t *testing.T) {
	for _, c := range []struct{ key, msg, want string }{
		{"", "", "b613679a0814d9ec772f95d778c35fc5ff1697c493715653c6c712144292c5ad"},
		{strings.Repeat("\x0b", 20), "Hi There", "b0344c61d8db38535ca8afceaf0bf12b881dc200c9833da726e9376c2e32cff7"},
		{strings.Repeat("\xaa", 20), strings.Repeat("\xdd", 50), "773ea91e36800e46854db8ebd09181a72959098b3ef8c122d9635514ced565fe"},
	} {
		h, code := impl.Hmac(c.key, c.msg)
		if got := hex.EncodeToString([]byte(h)); got != c.want || code != impl.OK {
			t.Errorf("Hmac(%q, %q) = %s, %d, not %s", c.key, c.msg, got, code, c.want)
		}
	}
}

func TestHmacOfEveryKeyLength(t *testing.T) {
	lengths := []int{impl.MaxText - 64, impl.MaxText - 1, impl.MaxText}
	for n := range 200 {
		lengths = append(lengths, n)
	}
	for _, n := range lengths {
		key := string(sampleBytes(n))
		for _, msg := range []string{"", "m", key, string(sampleBytes(63)), string(sampleBytes(64))} {
			if h, code := impl.Hmac(key, msg); h != wantKeyed(key, msg) || code != impl.OK {
				t.Fatalf("Hmac of %d and %d bytes = %x, %d", n, len(msg), h, code)
			}
		}
	}
}

func TestHmacOfEveryMessageLength(t *testing.T) {
	for _, n := range edgeLengths() {
		msg := string(sampleBytes(n))
		for _, key := range []string{"", "k", string(sampleBytes(64)), string(sampleBytes(65))} {
			if h, code := impl.Hmac(key, msg); h != wantKeyed(key, msg) || code != impl.OK {
				t.Fatalf("Hmac of %d and %d bytes = %x, %d", len(key), n, h, code)
			}
		}
	}
}

func TestHmacIsThatOfTheKeyPutTwiceAround(t *testing.T) {
	for _, n := range []int{0, 1, 32, 63, 64, 65, 131} {
		key, msg := sampleBytes(n), "a message"
		block := make([]byte, 64)
		if copy(block, key); n > 64 {
			clear(block)
			copy(block, impl.Hash(key))
		}
		inner, outer := bytes.Clone(block), bytes.Clone(block)
		for i := range block {
			inner[i] ^= 0x36
			outer[i] ^= 0x5c
		}
		want := impl.Hash(append(outer, impl.Hash(append(inner, msg...))...))
		if h, code := impl.Hmac(string(key), msg); h != want || code != impl.OK {
			t.Errorf("Hmac of a key of %d bytes = %x, %d", n, h, code)
		}
	}
}

func TestHmacBeyondTheLimit(t *testing.T) {
	long := strings.Repeat("k", impl.MaxText+1)
	for _, c := range [][2]string{{long, ""}, {"", long}, {long, long}, {"k", long}, {long, "m"}, {long + long, "m"}} {
		if h, code := impl.Hmac(c[0], c[1]); h != "" || code != impl.ErrLong {
			t.Errorf("Hmac of %d and %d bytes = %x, %d", len(c[0]), len(c[1]), h, code)
		}
	}
}

// frameOf is worked out without the program.
func frameOf(data string) []byte {
	length := binary.BigEndian.AppendUint32(nil, uint32(len(data)))[1:]
	sum := crc32.ChecksumIEEE(append(slices.Clone(length), data...))
	return append(binary.BigEndian.AppendUint32(slices.Clone(length), sum), data...)
}

func TestFrameBytesOfEveryLength(t *testing.T) {
	lengths := []int{4095, 4096, 65279, 65280, 65528, 65529, 65530, 65532, 65533}
	for n := 1; n < 600; n++ {
		lengths = append(lengths, n)
	}
	for _, n := range lengths {
		data := string(sampleBytes(n))
		if b, code := impl.FrameBytes(data); !bytes.Equal(b, frameOf(data)) || code != impl.OK {
			t.Fatalf("FrameBytes of %d bytes = %.20q.., %d", n, b, code)
		}
	}
}

// Check32 is 0 of more than MaxText bytes, and a frame's sum is Check32 of the length and the data.
func TestFrameBytesWhoseSumIsOfMoreThanMaxText(t *testing.T) {
	for n := impl.MaxText - 2; n <= impl.MaxText; n++ {
		data := string(sampleBytes(n))
		head := binary.BigEndian.AppendUint32(nil, uint32(n))[1:]
		want := string(head) + "\x00\x00\x00\x00" + data
		if b, code := impl.FrameBytes(data); string(b) != want || code != impl.OK {
			t.Errorf("FrameBytes of %d bytes = %.20q.., %d", n, b, code)
		}
	}
}

func TestFrameBytesOfNoneAndBeyondTheLimit(t *testing.T) {
	for n, want := range map[int]int{0: impl.ErrRange, impl.MaxText + 1: impl.ErrLong, 1 << 24: impl.ErrLong} {
		if b, code := impl.FrameBytes(strings.Repeat("f", n)); len(b) != 0 || code != want {
			t.Errorf("FrameBytes of %d bytes = %d bytes, %d, not %d", n, len(b), code, want)
		}
	}
}

func wantFrames(t *testing.T, b []byte, want []string, read, fault int) {
	t.Helper()
	list, n, code := impl.ReadFrames(b)
	if !slices.Equal(list, want) || n != read || code != fault {
		t.Errorf("ReadFrames(%.40q) of %d bytes = %.40q (%d), %d, %d, not %.40q (%d), %d, %d", b, len(b), list, len(list), n, code, want, len(want), read, fault)
	}
}

func frameBytes(t *testing.T, list []string) []byte {
	t.Helper()
	var out []byte
	for _, data := range list {
		b, code := impl.FrameBytes(data)
		if code != impl.OK {
			t.Fatalf("FrameBytes of %d bytes: %d", len(data), code)
		}
		out = append(out, b...)
	}
	return out
}

func TestFramesAreReadBack(t *testing.T) {
	many := slices.Repeat([]string{"x"}, impl.MaxText/8)
	for _, list := range [][]string{
		nil, {"a"}, {"\x00"}, {"a", "b"}, {"a", "bc", "def", "\x00\x00\x01", strings.Repeat("z", 300)},
		{string(sampleBytes(impl.MaxText - 7))}, {"a", string(sampleBytes(impl.MaxText - 15))},
		{string(sampleBytes(impl.MaxText - 15)), "a"}, {string(sampleBytes(255)), string(sampleBytes(256))}, many,
	} {
		b := frameBytes(t, list)
		wantFrames(t, b, list, len(b), impl.OK)
	}
}

func TestFramesCutOffAtEveryPlace(t *testing.T) {
	list := []string{"a", "bcd", string(sampleBytes(300)), "\x00", "end"}
	all := frameBytes(t, list)
	whole, read := 0, 0
	for n := range len(all) + 1 {
		if whole < len(list) && n == read+7+len(list[whole]) {
			whole, read = whole+1, n
		}
		code := impl.ErrAgain
		if n == read {
			code = impl.OK
		}
		wantFrames(t, all[:n], list[:whole], read, code)
	}
}

func TestFramesWithOneWrongBit(t *testing.T) {
	first, second := frameOf("first"), frameOf("second one")
	for place := range len(second) * 8 {
		b := slices.Concat(first, second, frameOf("third"))
		b[len(first)+place/8] ^= 1 << (place % 8)
		size := int(binary.BigEndian.Uint32(append([]byte{0}, b[len(first):len(first)+3]...)))
		code := impl.ErrSum
		if size >= 1 && size <= impl.MaxText && len(first)+7+size > len(b) {
			code = impl.ErrAgain
		}
		wantFrames(t, b, []string{"first"}, len(first), code)
	}
}

func TestFramesOfWrongLengths(t *testing.T) {
	front := frameOf("front")
	for _, ahead := range [][]byte{nil, front} {
		var want []string
		if ahead != nil {
			want = []string{"front"}
		}
		for _, c := range []struct{ size, code int }{
			{0, impl.ErrSum}, {impl.MaxText + 1, impl.ErrSum}, {impl.MaxText + 256, impl.ErrSum}, {1<<24 - 1, impl.ErrSum},
			{1 << 23, impl.ErrSum}, {impl.MaxText, impl.ErrAgain}, {impl.MaxText - 1, impl.ErrAgain}, {9, impl.ErrAgain}, {8, impl.ErrSum},
		} {
			head := binary.BigEndian.AppendUint32(nil, uint32(c.size))[1:]
			b := slices.Concat(ahead, head, []byte("sumsdata-8bt"))
			b = b[:len(ahead)+7+8]
			wantFrames(t, b, want, len(ahead), c.code)
			for n := 1; n < 7; n++ {
				wantFrames(t, b[:len(ahead)+n], want, len(ahead), impl.ErrAgain)
			}
			short := c.code
			if c.size >= 1 && c.size <= impl.MaxText {
				short = impl.ErrAgain
			}
			wantFrames(t, b[:len(ahead)+7], want, len(ahead), short)
		}
	}
}

func TestFrameOfNoBytesWithTheRightSum(t *testing.T) {
	b := frameOf("")
	wantFrames(t, b, nil, 0, impl.ErrSum)
	wantFrames(t, slices.Concat(frameOf("a"), b, frameOf("b")), []string{"a"}, 8, impl.ErrSum)
}

func TestFramesBeyondTheLimit(t *testing.T) {
	b := frameBytes(t, slices.Repeat([]string{"x"}, impl.MaxText/8))
	wantFrames(t, append(b, 0), nil, 0, impl.ErrLong)
	wantFrames(t, frameBytes(t, []string{string(sampleBytes(impl.MaxText - 6))}), nil, 0, impl.ErrLong)
	wantFrames(t, make([]byte, impl.MaxText+1), nil, 0, impl.ErrLong)
	wantFrames(t, make([]byte, impl.MaxText), nil, 0, impl.ErrSum)
}

// fieldsOf is worked out without the program.
func fieldsOf(list []string) []byte {
	out := []byte{byte(len(list))}
	for _, field := range list {
		out = append(binary.BigEndian.AppendUint16(out, uint16(len(field))), field...)
	}
	return out
}

// fullFields are four whose bytes are MaxText and so many more in all.
func fullFields(more int) []string {
	rest := impl.MaxText - 1 - 4*2 - 3*20000 + more
	return []string{strings.Repeat("a", 20000), string(sampleBytes(20000)), strings.Repeat("c", 20000), string(sampleBytes(rest))}
}

func TestFieldsAreReadBack(t *testing.T) {
	for _, list := range [][]string{
		nil, {""}, {"", ""}, {"a"}, {"", "b", ""}, {"\x00", "\xff\xff"}, make([]string, 60), slices.Repeat([]string{"ab"}, 60),
		{string(sampleBytes(255)), string(sampleBytes(256)), string(sampleBytes(257))}, {string(sampleBytes(20000))},
		{string(sampleBytes(19999)), "", string(sampleBytes(20000))}, fullFields(0), fullFields(-1),
	} {
		b, code := impl.FieldsBytes(list)
		if !bytes.Equal(b, fieldsOf(list)) || code != impl.OK {
			t.Fatalf("FieldsBytes of %d fields = %.40q, %d", len(list), b, code)
		}
		if back, code := impl.ReadFields(b); !slices.Equal(back, list) || code != impl.OK {
			t.Errorf("ReadFields of %d fields = %.40q, %d", len(list), back, code)
		}
	}
}

func TestFieldsThatAreNotTold(t *testing.T) {
	long := strings.Repeat("f", 20001)
	for _, c := range []struct {
		list []string
		want int
	}{
		{make([]string, 61), impl.ErrMany}, {make([]string, 255), impl.ErrMany}, {make([]string, 256), impl.ErrMany},
		{make([]string, impl.MaxList), impl.ErrMany}, {make([]string, impl.MaxList+1), impl.ErrLong},
		{append(make([]string, 60), long), impl.ErrMany}, {append(make([]string, impl.MaxList), long), impl.ErrLong},
		{[]string{long}, impl.ErrRange}, {append(make([]string, 59), long), impl.ErrRange}, {[]string{long, "a", ""}, impl.ErrRange},
		{[]string{strings.Repeat("f", impl.MaxText+1)}, impl.ErrRange}, {append(fullFields(1), long), impl.ErrRange},
		{append([]string{long}, fullFields(1)...), impl.ErrRange}, {fullFields(1), impl.ErrFull},
		{append(fullFields(0), ""), impl.ErrFull}, {slices.Repeat([]string{long[1:]}, 60), impl.ErrFull},
	} {
		if b, code := impl.FieldsBytes(c.list); len(b) != 0 || code != c.want {
			t.Errorf("FieldsBytes of %d fields = %.20q, %d, not %d", len(c.list), b, code, c.want)
		}
	}
}

func wantFieldsFault(t *testing.T, b []byte, want int) {
	t.Helper()
	if list, code := impl.ReadFields(b); len(list) != 0 || code != want {
		t.Errorf("ReadFields(%.40q) of %d bytes = %.40q, %d, not %d", b, len(b), list, code, want)
	}
}

func TestFieldsCutOffAtEveryPlace(t *testing.T) {
	for _, list := range [][]string{nil, {""}, {"a", "", "bc"}, {"", ""}, {"x", string(sampleBytes(300))}, make([]string, 60)} {
		b := fieldsOf(list)
		for n := range len(b) {
			wantFieldsFault(t, b[:n], impl.ErrForm)
		}
		for _, behind := range []string{"\x00", "\x00\x00", "\x00\x01x", "abcdef"} {
			wantFieldsFault(t, append(slices.Clone(b), behind...), impl.ErrForm)
		}
	}
}

func TestFieldsOutOfTheirBounds(t *testing.T) {
	for count := 61; count < 256; count++ {
		wantFieldsFault(t, fieldsOf(make([]string, count)), impl.ErrForm)
	}
	wantFieldsFault(t, fieldsOf([]string{strings.Repeat("f", 20001)}), impl.ErrForm)
	wantFieldsFault(t, fieldsOf([]string{"a", strings.Repeat("f", 32768), ""}), impl.ErrForm)
	wantFieldsFault(t, make([]byte, impl.MaxText), impl.ErrForm)
	wantFieldsFault(t, make([]byte, impl.MaxText+1), impl.ErrLong)
	wantFieldsFault(t, fieldsOf(fullFields(1)), impl.ErrLong)
}

func TestNumbersAreReadBack(t *testing.T) {
	most := make([]int, impl.MaxList)
	for i := range most {
		most[i] = i*4096 - 1
	}
	for _, list := range [][]int{
		nil, {-1}, {0}, {1}, {254}, {255}, {256}, {65534}, {65535}, {65536}, {16777213}, {16777214},
		{-1, -1}, {16777214, -1, 0, 258}, most, make([]int, impl.MaxList),
	} {
		var want []byte
		for _, n := range list {
			want = append(want, binary.BigEndian.AppendUint32(nil, uint32(n+1))[1:]...)
		}
		b, code := impl.NumbersBytes(list)
		if !bytes.Equal(b, want) || code != impl.OK {
			t.Fatalf("NumbersBytes(%.40v) = %.40q, %d", list, b, code)
		}
		if back, code := impl.ReadNumbers(b); !slices.Equal(back, list) || code != impl.OK {
			t.Errorf("ReadNumbers of %v = %v, %d", list, back, code)
		}
	}
}

func TestNumbersOutOfTheirBounds(t *testing.T) {
	for _, n := range []int{-2, -3, -16777217, 16777215, 16777216, 1 << 31, 1 << 32, 1<<32 - 1, math.MaxInt, math.MaxInt - 1, math.MinInt, math.MinInt + 1} {
		for _, list := range [][]int{{n}, {0, n}, {n, 0}, append(make([]int, impl.MaxList-1), n)} {
			if b, code := impl.NumbersBytes(list); len(b) != 0 || code != impl.ErrRange {
				t.Errorf("NumbersBytes of %d numbers with %d = %.20q, %d", len(list), n, b, code)
			}
		}
	}
	for _, list := range [][]int{make([]int, impl.MaxList+1), append(make([]int, impl.MaxList), -2), make([]int, 3*impl.MaxList)} {
		if b, code := impl.NumbersBytes(list); len(b) != 0 || code != impl.ErrLong {
			t.Errorf("NumbersBytes of %d numbers = %.20q, %d", len(list), b, code)
		}
	}
}

func TestReadNumbersOfEveryLength(t *testing.T) {
	lengths := []int{
		3*impl.MaxList - 1, 3 * impl.MaxList, 3*impl.MaxList + 1, 3*impl.MaxList + 2, 3*impl.MaxList + 3, 3*impl.MaxList + 4,
		impl.MaxText - 2, impl.MaxText - 1, impl.MaxText, impl.MaxText + 1, impl.MaxText + 2, 3 * impl.MaxText,
	}
	for n := range 40 {
		lengths = append(lengths, n)
	}
	for _, n := range lengths {
		want := impl.OK
		switch {
		case n > impl.MaxText:
			want = impl.ErrLong
		case n%3 != 0:
			want = impl.ErrForm
		case n > 3*impl.MaxList:
			want = impl.ErrMany
		}
		list, code := impl.ReadNumbers(make([]byte, n))
		if code != want || code != impl.OK && len(list) != 0 || code == impl.OK && !slices.Equal(list, slices.Repeat([]int{-1}, n/3)) {
			t.Errorf("ReadNumbers of %d bytes = %d numbers, %d, not %d", n, len(list), code, want)
		}
	}
}

func TestReadBytesAreNotShared(t *testing.T) {
	frames, fields, numbers := frameOf("data"), fieldsOf([]string{"one", "two"}), []byte{0, 0, 6, 0, 1, 0}
	data, _, _ := impl.ReadFrames(frames)
	texts, _ := impl.ReadFields(fields)
	list, _ := impl.ReadNumbers(numbers)
	clear(frames)
	clear(fields)
	clear(numbers)
	if !slices.Equal(data, []string{"data"}) || !slices.Equal(texts, []string{"one", "two"}) || !slices.Equal(list, []int{5, 255}) {
		t.Error("answers share memory with bytes that were read:", data, texts, list)
	}
}

func TestWrittenBytesAreNew(t *testing.T) {
	writers := []func() []byte{
		func() []byte { b, _ := impl.FrameBytes("data"); return b },
		func() []byte { b, _ := impl.FieldsBytes([]string{"one", "two"}); return b },
		func() []byte { b, _ := impl.FieldsBytes(nil); return b },
		func() []byte { b, _ := impl.NumbersBytes([]int{1, 2, 3}); return b },
	}
	for i, write := range writers {
		first := write()
		kept := bytes.Clone(first)
		clear(first[:cap(first)])
		if !bytes.Equal(write(), kept) {
			t.Error("writer", i, "hands out memory that it keeps")
		}
	}
}
