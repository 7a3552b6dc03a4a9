package impl

const (
	MaxText = 65536
	MaxList = 4096
	MaxName = 40

	OK          = 0
	ErrBad      = 1
	ErrLong     = 2
	ErrForm     = 3
	ErrRange    = 4
	ErrNone     = 5
	ErrMany     = 6
	ErrFull     = 7
	ErrSize     = 8
	ErrSum      = 9
	ErrDone     = 10
	ErrBlocked  = 11
	ErrAssert   = 12
	ErrFault    = 13
	ErrDeadlock = 14
	ErrBudget   = 15
	ErrDown     = 16
	ErrUp       = 17
	ErrTorn     = 18
	ErrVersion  = 19
)

var codeWords = [20]string{
	OK:          "ok",
	ErrBad:      "bad",
	ErrLong:     "long",
	ErrForm:     "form",
	ErrRange:    "range",
	ErrNone:     "none",
	ErrMany:     "many",
	ErrFull:     "full",
	ErrSize:     "size",
	ErrSum:      "sum",
	ErrDone:     "done",
	ErrBlocked:  "blocked",
	ErrAssert:   "assert",
	ErrFault:    "fault",
	ErrDeadlock: "deadlock",
	ErrBudget:   "budget",
	ErrDown:     "down",
	ErrUp:       "up",
	ErrTorn:     "torn",
	ErrVersion:  "version",
}

func NameOK(t string) bool {
	if t == "" || len(t) > MaxName {
		return false
	}
	for at, r := range t {
		if !isLetter(r) && (at == 0 || !isDigit(r)) {
			return false
		}
	}
	return true
}

// isLetter asks for the document's letters alone: package unicode knows more.
func isLetter(r rune) bool {
	return 'a' <= r && r <= 'z' || 'A' <= r && r <= 'Z' || r == '_'
}

func isDigit(r rune) bool {
	return '0' <= r && r <= '9'
}

func CodeWord(code int) string {
	if code < 0 || code >= len(codeWords) {
		return ""
	}
	return codeWords[code]
}

func CodeOf(word string) int {
	for code, w := range codeWords {
		if w == word {
			return code
		}
	}
	return -1
}
