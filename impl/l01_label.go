package impl

import (
	"cmp"
	"strconv"
)

const (
	MaxNumber   = 1000000000
	MaxSerial   = 999999999
	ServiceFast = 1
	ServiceWeek = 2
	ServiceSlow = 3
)

// A written label has one digit of Service, then Serial, To and the check number.
const (
	serialDigits = 9
	placeLetters = 3
	checkDigits  = 2
	serialEnd    = 1 + serialDigits
	bodyLength   = serialEnd + placeLetters
	labelLength  = bodyLength + checkDigits
)

type Label struct {
	Service int
	Serial  int
	To      string
}

func FormatInt(n int) string {
	return strconv.Itoa(n)
}

func ParseInt(s string) (int, bool) {
	n, err := strconv.Atoi(s)
	// Atoi also reads signs and leading zeros, which FormatInt does not write.
	if err != nil || n < 0 || n > MaxNumber || FormatInt(n) != s {
		return 0, false
	}
	return n, true
}

func isDigit(c byte) bool {
	return '0' <= c && c <= '9'
}

func isCapital(c byte) bool {
	return 'A' <= c && c <= 'Z'
}

func IsPlace(s string) bool {
	if len(s) != placeLetters {
		return false
	}
	for i := range len(s) {
		if !isCapital(s[i]) {
			return false
		}
	}
	return true
}

func Digits(s string) (string, bool) {
	digits := make([]byte, 0, 2*len(s))
	for i := range len(s) {
		c := s[i]
		switch {
		case isDigit(c):
			digits = append(digits, c)
		case isCapital(c):
			n := c - 'A' + 10
			digits = append(digits, '0'+n/10, '0'+n%10)
		default:
			return "", false
		}
	}
	return string(digits), true
}

func Mod97(s string) int {
	if s == "" {
		return -1
	}
	rest := 0
	for i := range len(s) {
		if !isDigit(s[i]) {
			return -1
		}
		// The number itself may be longer than an int, its remainder never is.
		rest = (10*rest + int(s[i]-'0')) % 97
	}
	return rest
}

func IsLabel(l Label) bool {
	return ServiceFast <= l.Service && l.Service <= ServiceSlow &&
		0 <= l.Serial && l.Serial <= MaxSerial && IsPlace(l.To)
}

// padded writes n, which is not negative, with leading zeros; digits beyond the width are cut off.
func padded(n int, width int) string {
	digits := make([]byte, width)
	for i := range width {
		digits[width-1-i] = byte('0' + n%10)
		n /= 10
	}
	return string(digits)
}

func bodyOf(l Label) string {
	return FormatInt(l.Service) + padded(l.Serial, serialDigits) + l.To
}

func CheckOf(l Label) int {
	if !IsLabel(l) {
		return -1
	}
	// The two zeros hold the place of the check number, so that one slip in it is noticed like one in the body.
	digits, _ := Digits(bodyOf(l) + "00")
	return 98 - Mod97(digits)
}

func FormatLabel(l Label) string {
	if !IsLabel(l) {
		return ""
	}
	return bodyOf(l) + padded(CheckOf(l), checkDigits)
}

func ParseLabel(s string) (Label, bool) {
	if len(s) != labelLength {
		return Label{}, false
	}
	serial, err := strconv.Atoi(s[1:serialEnd])
	if err != nil {
		return Label{}, false
	}
	l := Label{Service: int(s[0]) - '0', Serial: serial, To: s[serialEnd:bodyLength]}
	// Writing it again leaves no second text for a label: no sign in the serial, no check number 97 away from its own.
	if FormatLabel(l) != s {
		return Label{}, false
	}
	return l, true
}

func SwapAt(s string, i int) string {
	// i+1 would wrap around for the greatest int.
	if i < 0 || i >= len(s)-1 {
		return s
	}
	return s[:i] + s[i+1:i+2] + s[i:i+1] + s[i+2:]
}

func Amended(s string) []string {
	found := []string{}
	if len(s) != labelLength {
		return found
	}
	text := []byte(s)
	for i := range len(s) {
		for b := range 256 {
			text[i] = byte(b)
			if _, ok := ParseLabel(string(text)); ok && text[i] != s[i] {
				found = append(found, string(text))
			}
		}
		text[i] = s[i]
	}
	return found
}

func CompareLabels(a Label, b Label) int {
	return cmp.Or(
		cmp.Compare(a.Service, b.Service),
		cmp.Compare(a.Serial, b.Serial),
		cmp.Compare(a.To, b.To),
	)
}
