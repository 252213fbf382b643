package tests

import (
	"encoding/hex"
	"fmt"
	"math"
	"math/rand"
	"regexp"
	"slices"
	"strconv"
	"strings"
	"testing"

	"loop.example/g00308/impl"
)

// tokenRead is all that ReadToken answers.
type tokenRead struct {
	client int
	window string
	number int
	code   int
}

func readToken(key, text string) tokenRead {
	client, window, number, code := impl.ReadToken(key, text)
	return tokenRead{client, window, number, code}
}

// modelMark is worked out without the program.
func modelMark(key, head string) string {
	return hex.EncodeToString([]byte(wantKeyed(key, head)))[:32]
}

func modelHead(client int, window string, number int) string {
	return fmt.Sprintf("token %d %s %d", client, window, number)
}

func modelToken(key string, client int, window string, number int) string {
	head := modelHead(client, window, number)
	return head + " " + modelMark(key, head)
}

func modelTokenCode(key string, client int, window string, number int) int {
	switch {
	case len(key) > 65536 || len(window) > 65536:
		return impl.ErrLong
	case !inBounds(client, 0, 200) || !modelWindowName(window) || !inBounds(number, -1, 60):
		return impl.ErrBad
	}
	return impl.OK
}

var tokenHeads = regexp.MustCompile(`^token (0|[1-9][0-9]{0,2}) ([A-Za-z_][A-Za-z_0-9]{0,11}) (-1|0|[1-9][0-9]?)$`)

// modelReadToken cuts at every blank, and holds the first four texts against a pattern.
func modelReadToken(key, text string) tokenRead {
	if len(key) > 65536 || len(text) > 65536 {
		return tokenRead{code: impl.ErrLong}
	}
	texts := strings.Split(text, " ")
	if len(texts) != 5 {
		return tokenRead{code: impl.ErrForm}
	}
	head := strings.Join(texts[:4], " ")
	if !tokenHeads.MatchString(head) {
		return tokenRead{code: impl.ErrForm}
	}
	client, _ := strconv.Atoi(texts[1])
	number, _ := strconv.Atoi(texts[3])
	if client > 200 || number > 60 {
		return tokenRead{code: impl.ErrForm}
	}
	if texts[4] != modelMark(key, head) {
		return tokenRead{code: impl.ErrToken}
	}
	return tokenRead{client, texts[2], number, impl.OK}
}

// wantIssued asks for the mark and the token, or for their code with nothing else.
func wantIssued(t *testing.T, key string, client int, window string, number int) {
	t.Helper()
	code := modelTokenCode(key, client, window, number)
	wantMark, wantToken := "", ""
	if code == impl.OK {
		wantMark = modelMark(key, modelHead(client, window, number))
		wantToken = modelToken(key, client, window, number)
	}
	if mark, got := impl.TokenMark(key, client, window, number); mark != wantMark || got != code {
		t.Errorf("TokenMark(%.9q, %d, %.15q, %d) = %q, %d, not %q, %d", key, client, window, number, mark, got, wantMark, code)
	}
	if token, got := impl.IssueToken(key, client, window, number); token != wantToken || got != code {
		t.Errorf("IssueToken(%.9q, %d, %.15q, %d) = %q, %d, not %q, %d", key, client, window, number, token, got, wantToken, code)
	}
}

func wantIssueCode(t *testing.T, key string, client int, window string, number, want int) {
	t.Helper()
	if code := modelTokenCode(key, client, window, number); code != want {
		t.Fatalf("the model's code of %.9q, %d, %.15q, %d is %d, not %d", key, client, window, number, code, want)
	}
	wantIssued(t, key, client, window, number)
}

func wantReadAsModel(t *testing.T, key, text string) {
	t.Helper()
	if got, want := readToken(key, text), modelReadToken(key, text); got != want {
		t.Errorf("ReadToken(%.9q, %.90q of %d bytes) = %v, not %v", key, text, len(text), got, want)
	}
}

// wantReadCode asks for a code, with all else zero.
func wantReadCode(t *testing.T, key, text string, code int) {
	t.Helper()
	if got := readToken(key, text); got != (tokenRead{code: code}) {
		t.Errorf("ReadToken(%.9q, %.90q of %d bytes) = %v, not code %d alone", key, text, len(text), got, code)
	}
}

func nameOfLength(n int) string {
	return "_aZ09bY18cX27dW36eV45"[:n]
}

func TestTokensWrittenOut(t *testing.T) {
	for _, c := range []struct {
		key    string
		client int
		window string
		number int
		mark   string
	}{
		{"key", 3, "main", 12, "41f15e9417d4df7487d0c14596901669"},
		{"", 0, "a", -1, "3d6900a87fdd49ae02e0e92aa53e36fb"},
		{"world key", 0, "main", -1, "ca1e286801618f4d2fc777c4d9c6bed8"},
		{"world key", 1, "logs", 0, "51f93cb8d2873fa005cb9a7359a58de6"},
		{strings.Repeat("k", 64), 200, "abcdefghijkl", 60, "fe7a4dba40a68826ae3a38bf7e447b85"},
		{strings.Repeat("k", 65), 200, "abcdefghijkl", 60, "46995922903df9dc92565b400e485efb"},
	} {
		want := fmt.Sprintf("token %d %s %d %s", c.client, c.window, c.number, c.mark)
		if mark, code := impl.TokenMark(c.key, c.client, c.window, c.number); mark != c.mark || code != impl.OK {
			t.Errorf("TokenMark of %q = %q, %d", want, mark, code)
		}
		if token, code := impl.IssueToken(c.key, c.client, c.window, c.number); token != want || code != impl.OK {
			t.Errorf("IssueToken of %q = %q, %d", want, token, code)
		}
		if got := readToken(c.key, want); got != (tokenRead{c.client, c.window, c.number, impl.OK}) {
			t.Errorf("ReadToken of %q = %v", want, got)
		}
	}
}

// digitsOfKeyed are the first digits of what Hmac tells of a message.
func digitsOfKeyed(t *testing.T, key, msg string) string {
	t.Helper()
	keyed, code := impl.Hmac(key, msg)
	digits, textCode := impl.HashText(keyed)
	if code != impl.OK || textCode != impl.OK {
		t.Fatal(code, textCode)
	}
	return digits[:32]
}

func TestTheMarkIsOfWhatStandsAheadWithoutTheBlank(t *testing.T) {
	for _, key := range []string{"", "key", string(sampleBytes(64)), string(sampleBytes(65))} {
		mark, code := impl.TokenMark(key, 3, "main", 12)
		if want := digitsOfKeyed(t, key, "token 3 main 12"); mark != want || code != impl.OK {
			t.Errorf("TokenMark = %q, %d, not %q", mark, code, want)
		}
		wantReadCode(t, key, "token 3 main 12 "+digitsOfKeyed(t, key, "token 3 main 12 "), impl.ErrToken)
		wantReadCode(t, key, "token 3 main 12 "+digitsOfKeyed(t, key, "3 main 12"), impl.ErrToken)
		wantReadCode(t, key, "token 3 main 12 "+digitsOfKeyed(t, key, "token 3 main"), impl.ErrToken)
		wantReadCode(t, key, "token 3 main 12 "+digitsOfKeyed(t, key, "token3main12"), impl.ErrToken)
		wantReadCode(t, key, "token 3 main 12 "+digitsOfKeyed(t, "token 3 main 12", key), impl.ErrToken)
	}
}

// A mark is of 32 digits, neither of the other 32, nor of all 64, nor of plain bytes.
func TestTheMarkIsTheFirstDigitsAlone(t *testing.T) {
	head := "token 3 main 12"
	keyed := wantKeyed("key", head)
	digits := hex.EncodeToString([]byte(keyed))
	for _, mark := range []string{digits, digits[32:], digits[:31], digits[:33], digits[:30], digits[1:33], keyed[:16]} {
		wantReadCode(t, "key", head+" "+mark, impl.ErrToken)
	}
	if mark, _ := impl.TokenMark("key", 3, "main", 12); mark != digits[:32] {
		t.Errorf("TokenMark = %q, not %q", mark, digits[:32])
	}
}

func TestTokensAtEachBoundOfTheClient(t *testing.T) {
	for _, client := range []int{0, 1, 9, 10, 99, 100, 199, 200} {
		wantIssueCode(t, "key", client, "main", 12, impl.OK)
	}
	for _, client := range []int{-1, 201, -200, 1000, 1<<32 + 5, 1 << 40, math.MinInt, math.MaxInt} {
		wantIssueCode(t, "key", client, "main", 12, impl.ErrBad)
	}
	for client := -20; client <= 260; client++ {
		wantIssued(t, "key", client, "main", 12)
	}
}

func TestTokensAtEachBoundOfTheNumber(t *testing.T) {
	for _, number := range []int{-1, 0, 1, 9, 10, 59, 60, impl.MaxEntries} {
		wantIssueCode(t, "key", 3, "main", number, impl.OK)
	}
	for _, number := range []int{-2, 61, impl.MaxEntries + 1, -60, 1<<32 + 5, 1<<32 - 1, math.MinInt, math.MaxInt} {
		wantIssueCode(t, "key", 3, "main", number, impl.ErrBad)
	}
	for _, number := range numbersAround() {
		wantIssued(t, "key", 3, "main", number)
	}
}

func TestTheWindowsOfTokens(t *testing.T) {
	for _, window := range []string{"a", "Z", "_", "a9", "token", "main", nameOfLength(11), nameOfLength(12)} {
		wantIssueCode(t, "key", 3, window, 12, impl.OK)
	}
	for _, window := range []string{
		"", " ", "9", "9a", "ma in", "main ", " main", "main\n", "main\x00", "ma-in", "m\xe4in", "ma\u00efn", "-1",
		nameOfLength(13), nameOfLength(20), strings.Repeat("a", 40), strings.Repeat("a", 41), strings.Repeat("a", impl.MaxText),
	} {
		wantIssueCode(t, "key", 3, window, 12, impl.ErrBad)
	}
	for n := range 256 {
		wantIssued(t, "key", 3, string([]byte{byte(n)}), 12)
		wantIssued(t, "key", 3, string([]byte{'a', byte(n)}), 12)
		wantIssued(t, "key", 3, string([]byte{'a', byte(n), 'b'}), 12)
	}
	for n := range 21 {
		wantIssued(t, "key", 3, nameOfLength(n), 12)
	}
}

func TestTheKeysOfTokens(t *testing.T) {
	for _, n := range []int{0, 1, 31, 32, 33, 63, 64, 65, 66, 128, 4096, impl.MaxText - 64, impl.MaxText - 1, impl.MaxText} {
		key := string(sampleBytes(n))
		wantIssueCode(t, key, 3, "main", 12, impl.OK)
		if got := readToken(key, modelToken(key, 3, "main", 12)); got != (tokenRead{3, "main", 12, impl.OK}) {
			t.Errorf("ReadToken under a key of %d bytes = %v", n, got)
		}
	}
	for _, n := range []int{impl.MaxText + 1, 2 * impl.MaxText} {
		wantIssueCode(t, strings.Repeat("k", n), 3, "main", 12, impl.ErrLong)
		wantReadCode(t, strings.Repeat("k", n), modelToken("key", 3, "main", 12), impl.ErrLong)
	}
}

func TestCodesOfTokensInTheirOrder(t *testing.T) {
	long := strings.Repeat("a", impl.MaxText+1)
	wantIssueCode(t, "key", 3, long, 12, impl.ErrLong)
	wantIssueCode(t, "key", -1, long, 12, impl.ErrLong)
	wantIssueCode(t, "key", 3, long, 61, impl.ErrLong)
	wantIssueCode(t, "key", 201, long, -2, impl.ErrLong)
	wantIssueCode(t, long, -1, "main", 12, impl.ErrLong)
	wantIssueCode(t, long, 3, "", 12, impl.ErrLong)
	wantIssueCode(t, long, 3, "main", 61, impl.ErrLong)
	wantIssueCode(t, long, math.MinInt, "9", math.MaxInt, impl.ErrLong)
	wantIssueCode(t, long, 3, long, 12, impl.ErrLong)
	wantIssueCode(t, long[1:], -1, long[1:], 61, impl.ErrBad)
}

func TestTokensOfEveryClientAndNumberAreReadBack(t *testing.T) {
	for client := 0; client <= 200; client++ {
		for number := -1; number <= impl.MaxEntries; number++ {
			wantIssuedBack(t, "key", client, nameOfLength(1+(client+number+1)%12), number)
		}
	}
}

func TestTokensOfNamesOfEachLengthAreReadBack(t *testing.T) {
	for n := 1; n <= 12; n++ {
		for _, name := range []string{nameOfLength(n), strings.Repeat("z", n), strings.Repeat("_", n), "Q" + strings.Repeat("9", n-1)} {
			for _, number := range []int{-1, 0, impl.MaxEntries} {
				wantIssuedBack(t, "", 0, name, number)
				wantIssuedBack(t, "key", 200, name, number)
			}
		}
	}
	wantIssuedBack(t, "key", 7, "token", 7)
}

func wantIssuedBack(t *testing.T, key string, client int, window string, number int) {
	t.Helper()
	token, code := impl.IssueToken(key, client, window, number)
	if token != modelToken(key, client, window, number) || code != impl.OK {
		t.Fatalf("IssueToken of %d, %q, %d = %q, %d", client, window, number, token, code)
	}
	if got := readToken(key, token); got != (tokenRead{client, window, number, impl.OK}) {
		t.Fatalf("ReadToken of %q = %v", token, got)
	}
}

func TestTokensUnderAnotherKey(t *testing.T) {
	key := string(sampleBytes(20))
	token := modelToken(key, 3, "main", 12)
	for i := range len(key) {
		for _, bit := range []byte{1, 0x20, 0x80} {
			other := []byte(key)
			other[i] ^= bit
			wantReadCode(t, string(other), token, impl.ErrToken)
		}
		wantReadCode(t, key[:i], token, impl.ErrToken)
	}
	for _, other := range []string{"", "key", "k", key + "a", key + key, " " + key, "\x00" + key, strings.Repeat("k", impl.MaxText)} {
		wantReadCode(t, other, token, impl.ErrToken)
	}
}

// Hmac puts noughts behind a key, and takes the hash of a long one: such keys are alike, as chapter 3 has it.
func TestKeysThatHmacTakesForAlike(t *testing.T) {
	long := string(sampleBytes(65))
	for _, c := range [][2]string{{"key", "key\x00"}, {"", strings.Repeat("\x00", 64)}, {long, impl.Hash([]byte(long))}} {
		token, _ := impl.IssueToken(c[0], 3, "main", 12)
		if got := readToken(c[1], token); got != (tokenRead{3, "main", 12, impl.OK}) {
			t.Errorf("ReadToken under %.9q = %v", c[1], got)
		}
	}
	wantReadAsModel(t, "key\x00\x01", modelToken("key", 3, "main", 12))
	wantReadAsModel(t, strings.Repeat("\x00", 65), modelToken("", 3, "main", 12))
}

func someTokens() []string {
	return []string{modelToken("key", 3, "main", 12), modelToken("key", 0, "a", -1), modelToken("key", 200, nameOfLength(12), 60), modelToken("key", 10, "a1", 0)}
}

func TestTokensWithEachByteChanged(t *testing.T) {
	for _, token := range someTokens() {
		for i := range len(token) {
			for n := range 256 {
				other := []byte(token)
				other[i] = byte(n)
				wantReadAsModel(t, "key", string(other))
				if got := readToken("key", string(other)); (got.code == impl.OK) != (string(other) == token) {
					t.Errorf("ReadToken of %q = %v", other, got)
				}
			}
		}
	}
}

func TestTokensCutOffAtEveryPlace(t *testing.T) {
	for _, token := range someTokens() {
		head := len(token) - 32
		for n := range len(token) {
			code := impl.ErrForm
			if n >= head {
				code = impl.ErrToken
			}
			wantReadCode(t, "key", token[:n], code)
			wantReadAsModel(t, "key", token[len(token)-n:])
			for end := n; end < len(token); end++ {
				wantReadAsModel(t, "key", token[:n]+token[end+1:])
			}
		}
	}
}

func TestTokensWithBytesAheadAndBehind(t *testing.T) {
	for _, token := range someTokens() {
		for n := range 256 {
			more := string([]byte{byte(n)})
			behind := impl.ErrToken
			if n == ' ' {
				behind = impl.ErrForm
			}
			wantReadCode(t, "key", token+more, behind)
			wantReadCode(t, "key", more+token, impl.ErrForm)
		}
		wantReadCode(t, "key", token+token, impl.ErrForm)
		wantReadCode(t, "key", token+" "+token, impl.ErrForm)
		wantReadCode(t, "key", token+"\n"+token, impl.ErrForm)
	}
}

func TestTokensWithOtherBlanks(t *testing.T) {
	for _, token := range someTokens() {
		for i := range len(token) + 1 {
			wantReadAsModel(t, "key", token[:i]+" "+token[i:])
			wantReadAsModel(t, "key", token[:i]+"\t"+token[i:])
		}
		wantReadCode(t, "key", " "+token, impl.ErrForm)
		wantReadCode(t, "key", token+" ", impl.ErrForm)
		texts := strings.Split(token, " ")
		for i := range 4 {
			ahead, behind := strings.Join(texts[:i+1], " "), strings.Join(texts[i+1:], " ")
			for _, between := range []string{"", "  ", "   ", "\t", "\n", "\r\n", "\v", "\f", "\x00", "\t ", "\n ", "_", ",", "\u00a0", "\u0085", "\u2003"} {
				wantReadCode(t, "key", ahead+between+behind, impl.ErrForm)
			}
			for _, between := range []string{" \t", " \n", " \r\n"} {
				// behind the last blank a tab is part of the mark
				wantReadCode(t, "key", ahead+between+behind, []int{impl.ErrForm, impl.ErrForm, impl.ErrForm, impl.ErrToken}[i])
			}
		}
		wantReadCode(t, "key", strings.Join(texts, "\t"), impl.ErrForm)
		wantReadCode(t, "key", strings.Join(texts, "\n"), impl.ErrForm)
	}
}

// A head that is no head has no right mark, whichever one it is given: ErrForm comes ahead of ErrToken.
func TestHeadsThatAreNone(t *testing.T) {
	for _, head := range []string{
		"", "token", "token 3", "token 3 main", "token 3 main 12 13", "token token 3 main 12", "3 main 12", "token main 3 12", "token 3 12 main",
		"Token 3 main 12", "TOKEN 3 main 12", "tokens 3 main 12", "toke 3 main 12", " 3 main 12", "key 3 main 12",
		"token 03 main 12", "token 003 main 12", "token 00 main 12", "token +3 main 12", "token -3 main 12", "token -0 main 12", "token - main 12",
		"token  main 12", "token x main 12", "token 3x main 12", "token 0x3 main 12", "token 3.0 main 12", "token 3e0 main 12", "token 1_0 main 12", "token \u0663 main 12",
		"token -1 main 12", "token 201 main 12", "token 1000 main 12", "token 18446744073709551619 main 12", "token 999999999999999999 main 12",
		"token 9999999999999999999 main 12", "token 0000000000000000003 main 12", "token 4294967299 main 12", "token " + strings.Repeat("9", 400) + " main 12",
		"token 3 main 012", "token 3 main 00", "token 3 main +12", "token 3 main -12", "token 3 main -0", "token 3 main -01", "token 3 main --1", "token 3 main -",
		"token 3 main ", "token 3 main x", "token 3 main 12x", "token 3 main 0xc", "token 3 main 1_2", "token 3 main 12.0", "token 3 main -2", "token 3 main 61",
		"token 3 main 100", "token 3 main 4294967308", "token 3 main 18446744073709551628", "token 3 main 999999999999999999", "token 3 main -999999999999999999",
		"token 3 main 9999999999999999999", "token 3 main -9223372036854775809", "token 3 main 0000000000000000012", "token 3 main -0000000000000000001",
		"token 3  12", "token 3 9 12", "token 3 9a 12", "token 3 ma-in 12", "token 3 ma\tin 12", "token 3 main\n 12", "token 3 \tmain 12", "token 3 m\xe4in 12",
		"token 3 " + nameOfLength(13) + " 12", "token 3 " + strings.Repeat("a", 40) + " 12", "token 3 " + strings.Repeat("a", 41) + " 12",
	} {
		for _, mark := range []string{modelMark("key", head), modelMark("key", "token 3 main 12"), "", "mark", strings.Repeat("0", 32)} {
			wantReadCode(t, "key", head+" "+mark, impl.ErrForm)
			wantReadCode(t, "other", head+" "+mark, impl.ErrForm)
		}
	}
}

func TestMarksThatAreNone(t *testing.T) {
	head := "token 3 main 12"
	mark := modelMark("key", head)
	great := strings.ToUpper(mark)
	if great == mark {
		t.Fatal("the mark has no letter")
	}
	for _, other := range []string{
		"", "0", mark[:31], mark[1:], mark + "0", "0" + mark, mark + mark, great, mark[:2] + great[2:3] + mark[3:], "0x" + mark, strings.Repeat("0", 32), strings.Repeat("g", 32),
		"mark", "token", "\t", "\n", mark + "\t", mark + "\n", "\t" + mark, mark[:16] + "\t" + mark[17:], mark + "\x00", "\xff", modelMark("other", head),
	} {
		wantReadCode(t, "key", head+" "+other, impl.ErrToken)
	}
	for i := range len(mark) {
		if great[i] != mark[i] {
			wantReadCode(t, "key", head+" "+mark[:i]+great[i:i+1]+mark[i+1:], impl.ErrToken)
		}
	}
}

// A mark of one client, window and number is none of another's.
func TestMarksOfOthers(t *testing.T) {
	type says struct {
		client int
		window string
		number int
	}
	var list []says
	for _, client := range []int{0, 1, 11, 112, 200} {
		for _, window := range []string{"a", "b", "aa", "main", "logs", "Main"} {
			for _, number := range []int{-1, 0, 1, 12, 60} {
				list = append(list, says{client, window, number})
			}
		}
	}
	marks := map[string]says{}
	for _, one := range list {
		mark, _ := impl.TokenMark("key", one.client, one.window, one.number)
		if other, there := marks[mark]; there {
			t.Errorf("%v and %v have one mark", one, other)
		}
		marks[mark] = one
	}
	for i, one := range list {
		other := list[(i+1)%len(list)]
		text := modelHead(one.client, one.window, one.number) + " " + modelMark("key", modelHead(other.client, other.window, other.number))
		wantReadCode(t, "key", text, impl.ErrToken)
	}
}

func TestWhichCodeOfReadTokenComesFirst(t *testing.T) {
	token := modelToken("key", 3, "main", 12)
	long := strings.Repeat("k", impl.MaxText+1)
	wantReadCode(t, "other", "token 03 main 12 "+modelMark("key", "token 3 main 12"), impl.ErrForm)
	wantReadCode(t, "other", token+" ", impl.ErrForm)
	wantReadCode(t, "other", token+"0", impl.ErrToken)
	wantReadCode(t, long, token, impl.ErrLong)
	wantReadCode(t, long, "", impl.ErrLong)
	wantReadCode(t, long, token+"0", impl.ErrLong)
	wantReadCode(t, long, long, impl.ErrLong)
	wantReadCode(t, "key", long, impl.ErrLong)
	wantReadCode(t, "other", token+long, impl.ErrLong)
}

func TestTextsOfTheMostBytesAndOneMore(t *testing.T) {
	for _, filler := range []string{"0", "a", " ", "\t", "\xff"} {
		for _, ahead := range []string{"", "token", "token 3 main 12 ", modelToken("key", 3, "main", 12)} {
			most := ahead + strings.Repeat(filler, impl.MaxText-len(ahead))
			wantReadAsModel(t, "key", most)
			wantReadAsModel(t, strings.Repeat("k", impl.MaxText), most)
			wantReadCode(t, "key", most+filler, impl.ErrLong)
		}
	}
	wantReadCode(t, "key", "token 3 main 12 "+strings.Repeat("0", impl.MaxText-16), impl.ErrToken)
	wantReadCode(t, "key", "token 3 main 12 "+strings.Repeat("0", impl.MaxText-15), impl.ErrLong)
	wantReadCode(t, "key", strings.Repeat("token ", 10900), impl.ErrForm)
}

// drawnTokenText is a token with some of its texts taken from others, and at times a byte more or less.
func drawnTokenText(draw *rand.Rand) string {
	head := []string{
		[]string{"token", "token", "token", "tokeN", ""}[draw.Intn(5)],
		strconv.Itoa(draw.Intn(220) - 5),
		nameOfLength(draw.Intn(14)),
		strconv.Itoa(draw.Intn(66) - 3),
	}
	if draw.Intn(8) == 0 {
		head = slices.Delete(head, 1, 2)
	}
	text := strings.Join(head, " ")
	text += " " + modelMark([]string{"key", "key", "other"}[draw.Intn(3)], text)
	at := draw.Intn(len(text))
	switch draw.Intn(6) {
	case 0:
		return text[:at] + " " + text[at:]
	case 1:
		return text[:at] + text[at+1:]
	case 2:
		return text[:at] + "0" + text[at:]
	}
	return text
}

func TestDrawnTokens(t *testing.T) {
	draw := rand.New(rand.NewSource(12))
	right := 0
	for range 20000 {
		text := drawnTokenText(draw)
		wantReadAsModel(t, "key", text)
		if got := readToken("key", text); got.code == impl.OK {
			right++
			if again, code := impl.IssueToken("key", got.client, got.window, got.number); again != text || code != impl.OK {
				t.Errorf("IssueToken of what %q says = %q, %d", text, again, code)
			}
		}
	}
	if right < 1000 {
		t.Error("only", right, "of the drawn texts were tokens")
	}
}
