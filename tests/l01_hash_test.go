package tests

import (
	"crypto/sha256"
	"encoding/hex"
	"hash/crc32"
	"math/rand"
	"strconv"
	"strings"
	"testing"

	"loop.example/g00308/impl"
)

// sampleBytes has no period of a block or a word, so that no place stands for another.
func sampleBytes(n int) []byte {
	b := make([]byte, n)
	rand.New(rand.NewSource(int64(n))).Read(b)
	return b
}

// edgeLengths are those around which a block more begins, those of the limit, and all short ones.
func edgeLengths() []int {
	var list []int
	for n := range 330 {
		list = append(list, n)
	}
	for _, n := range []int{4096, 8192, 65472, impl.MaxText} {
		list = append(list, n-11, n-10, n-9, n-8, n-7, n-2, n-1, n)
	}
	return list
}

func TestHashOfKnownTexts(t *testing.T) {
	for text, want := range map[string]string{
		"":                       "e3b0c44298fc1c149afbf4c8996fb92427ae41e4649b934ca495991b7852b855",
		"abc":                    "ba7816bf8f01cfea414140de5dae2223b00361a396177a9cb410ff61f20015ad",
		strings.Repeat("a", 55):  "9f4390f8d30c2dd92ec9f095b65e2b9ae9b0a925a5258e241c9f1e910f734318",
		strings.Repeat("a", 56):  "b35439a4ac6f0948b6d6f9e3c6af0f5f590ce20f1bde7090ef7970686ec6738a",
		strings.Repeat("a", 63):  "7d3e74a05d7db15bce4ad9ec0658ea98e3f06eeecf16b4c6fff2da457ddc2f34",
		strings.Repeat("a", 64):  "ffe054fe7ae0cb6dc65c3af9b61d5209f439851db43d0ba5997337df154668eb",
		strings.Repeat("a", 119): "31eba51c313a5c08226adf18d4a359cfdfd8d2e816b13f4af952f7ea6584dcfb",
		strings.Repeat("a", 120): "2f3d335432c70b580af0e8e1b3674a7c020d683aa5f73aaaedfdc55af904c21c",
	} {
		if got := hex.EncodeToString([]byte(impl.Hash([]byte(text)))); got != want {
			t.Errorf("Hash of %d bytes = %s, not %s", len(text), got, want)
		}
	}
}

func TestHashOfEveryEdgeLength(t *testing.T) {
	for _, n := range edgeLengths() {
		for _, b := range [][]byte{sampleBytes(n), make([]byte, n), []byte(strings.Repeat("\xff", n))} {
			want := sha256.Sum256(b)
			if impl.Hash(b) != string(want[:]) {
				t.Fatalf("Hash of %d bytes", n)
			}
		}
	}
}

func TestHashBeyondTheLimit(t *testing.T) {
	for _, n := range []int{impl.MaxText + 1, impl.MaxText + 64, 3 * impl.MaxText} {
		if got := impl.Hash(make([]byte, n)); got != "" {
			t.Errorf("Hash of %d bytes = %q", n, got)
		}
	}
}

func TestCheck32OfKnownTexts(t *testing.T) {
	for text, want := range map[string]int{
		"": 0, "123456789": 0xCBF43926, "a": 0xE8B7BE43, "\x00": 0xD202EF8D, "\xff\xff\xff\xff": 0xFFFFFFFF,
	} {
		if got := impl.Check32([]byte(text)); got != want {
			t.Errorf("Check32(%q) = %x, not %x", text, got, want)
		}
	}
}

func TestCheck32OfEveryEdgeLength(t *testing.T) {
	for _, n := range edgeLengths() {
		b := sampleBytes(n)
		if got, want := impl.Check32(b), int(crc32.ChecksumIEEE(b)); got != want {
			t.Fatalf("Check32 of %d bytes = %x, not %x", n, got, want)
		}
	}
	for i := range 256 {
		b := []byte{byte(i)}
		if got, want := impl.Check32(b), int(crc32.ChecksumIEEE(b)); got != want {
			t.Errorf("Check32(%x) = %x, not %x", b, got, want)
		}
	}
}

func TestCheck32BeyondTheLimit(t *testing.T) {
	for _, n := range []int{impl.MaxText + 1, 2 * impl.MaxText} {
		if got := impl.Check32(sampleBytes(n)); got != 0 {
			t.Errorf("Check32 of %d bytes = %x", n, got)
		}
	}
}

// someHashes has each byte at each place, and hashes of texts.
func someHashes() []string {
	var list []string
	for i := range 256 {
		list = append(list, strings.Repeat(string([]byte{byte(i)}), impl.HashSize), impl.Hash([]byte{byte(i)}))
	}
	for place := range impl.HashSize {
		b := make([]byte, impl.HashSize)
		b[place] = 0x5b
		list = append(list, string(b))
	}
	return append(list, string(sampleBytes(impl.HashSize)))
}

func TestHashIsReadBackFromItsDigits(t *testing.T) {
	for _, h := range someHashes() {
		text, code := impl.HashText(h)
		if want := hex.EncodeToString([]byte(h)); text != want || code != impl.OK {
			t.Fatalf("HashText(%q) = %q, %d, not %q", h, text, code, want)
		}
		if back, code := impl.ReadHash(text); back != h || code != impl.OK {
			t.Fatalf("ReadHash(%q) = %q, %d, not %q", text, back, code, h)
		}
	}
}

func TestHashBits(t *testing.T) {
	for _, h := range someHashes() {
		var want strings.Builder
		for i := range len(h) {
			digits := strconv.FormatInt(int64(h[i]), 2)
			want.WriteString(strings.Repeat("0", 8-len(digits)) + digits)
		}
		if bits, code := impl.HashBits(h); bits != want.String() || code != impl.OK {
			t.Fatalf("HashBits(%q) = %q, %d", h, bits, code)
		}
	}
}

func TestTextsThatAreNoHash(t *testing.T) {
	for n := range 130 {
		if n != impl.HashSize {
			wantHashFault(t, n, impl.ErrBad)
		}
	}
	for n, want := range map[int]int{
		impl.MaxText - 1: impl.ErrBad, impl.MaxText: impl.ErrBad,
		impl.MaxText + 1: impl.ErrLong, 2 * impl.MaxText: impl.ErrLong,
	} {
		wantHashFault(t, n, want)
	}
}

func wantHashFault(t *testing.T, n, want int) {
	t.Helper()
	h := strings.Repeat("h", n)
	if text, code := impl.HashText(h); text != "" || code != want {
		t.Errorf("HashText of %d bytes = %q, %d, not %d", n, text, code, want)
	}
	if bits, code := impl.HashBits(h); bits != "" || code != want {
		t.Errorf("HashBits of %d bytes = %q, %d, not %d", n, bits, code, want)
	}
}

func TestReadHashOfOtherLengths(t *testing.T) {
	for n := range 200 {
		if n != 2*impl.HashSize {
			wantReadFault(t, strings.Repeat("0", n), impl.ErrForm)
		}
	}
	wantReadFault(t, strings.Repeat("0", impl.MaxText), impl.ErrForm)
	wantReadFault(t, strings.Repeat("0", impl.MaxText+1), impl.ErrLong)
	wantReadFault(t, strings.Repeat("?", impl.MaxText+1), impl.ErrLong)
}

func TestReadHashOfEveryByte(t *testing.T) {
	digits := strings.Repeat("0f", impl.HashSize)
	for place := range len(digits) {
		for i := range 256 {
			c := string([]byte{byte(i)})
			text := digits[:place] + c + digits[place+1:]
			if !strings.Contains("0123456789abcdef", c) {
				wantReadFault(t, text, impl.ErrForm)
				continue
			}
			want, _ := hex.DecodeString(text)
			if h, code := impl.ReadHash(text); h != string(want) || code != impl.OK {
				t.Fatalf("ReadHash(%q) = %q, %d", text, h, code)
			}
		}
	}
}

func TestReadHashOfTextsThatAreNotJustDigits(t *testing.T) {
	text, _ := impl.HashText(impl.Hash([]byte("abc")))
	for _, other := range []string{
		strings.ToUpper(text), "A" + text[1:], text[:63] + "D", text + " ", " " + text, text + "\n", text[:63],
		text[1:], text + text, "0x" + text[2:], "0x" + text, text[:62] + "é", text[:63] + "\x00", impl.Hash([]byte("abc")),
	} {
		wantReadFault(t, other, impl.ErrForm)
	}
}

func wantReadFault(t *testing.T, text string, want int) {
	t.Helper()
	if h, code := impl.ReadHash(text); h != "" || code != want {
		t.Errorf("ReadHash(%.70q) of %d bytes = %q, %d, not %d", text, len(text), h, code, want)
	}
}
