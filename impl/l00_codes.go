package impl

const (
	MaxText = 65536
	MaxList = 4096
	MaxName = 40

	OK        = 0
	ErrBad    = 1
	ErrLong   = 2
	ErrForm   = 3
	ErrRange  = 4
	ErrNone   = 5
	ErrMany   = 6
	ErrFull   = 7
	ErrSum    = 8
	ErrTwice  = 9
	ErrSmall  = 10
	ErrStale  = 11
	ErrLeader = 12
	ErrDown   = 13
	ErrAgain  = 14
	ErrLate   = 15
	ErrToken  = 16
	ErrLast   = 17
	ErrLost   = 18
	ErrView   = 19
)

var codeWords = [20]string{
	OK:        "ok",
	ErrBad:    "bad",
	ErrLong:   "long",
	ErrForm:   "form",
	ErrRange:  "range",
	ErrNone:   "none",
	ErrMany:   "many",
	ErrFull:   "full",
	ErrSum:    "sum",
	ErrTwice:  "twice",
	ErrSmall:  "small",
	ErrStale:  "stale",
	ErrLeader: "leader",
	ErrDown:   "down",
	ErrAgain:  "again",
	ErrLate:   "late",
	ErrToken:  "token",
	ErrLast:   "last",
	ErrLost:   "lost",
	ErrView:   "view",
}

func NameOK(t string) bool {
	if len(t) == 0 || len(t) > MaxName || isDigit(t[0]) {
		return false
	}
	for i := 0; i < len(t); i++ {
		if !isNameLetter(t[i]) && !isDigit(t[i]) {
			return false
		}
	}
	return true
}

func isNameLetter(c byte) bool {
	return c >= 'a' && c <= 'z' || c >= 'A' && c <= 'Z' || c == '_'
}

func isDigit(c byte) bool {
	return c >= '0' && c <= '9'
}

func CodeWord(code int) string {
	if code < 0 || code >= len(codeWords) {
		return ""
	}
	return codeWords[code]
}

func CodeOf(word string) int {
	for code := range codeWords {
		if codeWords[code] == word {
			return code
		}
	}
	return -1
}
