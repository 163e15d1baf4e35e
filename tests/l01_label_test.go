package tests

import (
	"fmt"
	"math"
	"math/big"
	"math/rand"
	"regexp"
	"slices"
	"strings"
	"testing"

	"loop.example/g03014/impl"
)

const (
	greatestInt = math.MaxInt
	leastInt    = math.MinInt
)

var labelForm = regexp.MustCompile(`\A[1-3][0-9]{9}[A-Z]{3}[0-9]{2}\z`)

// spelled replaces letters by their numbers in a way of its own, so that a slip in Digits is not repeated here.
func spelled(s string) string {
	var b strings.Builder
	for _, c := range []byte(s) {
		if n := strings.IndexByte("ABCDEFGHIJKLMNOPQRSTUVWXYZ", c); n >= 0 {
			fmt.Fprint(&b, n+10)
		} else {
			b.WriteByte(c)
		}
	}
	return b.String()
}

func remainder(digits string) int {
	n, ok := new(big.Int).SetString(digits, 10)
	if !ok {
		panic("no number: " + digits)
	}
	return int(n.Mod(n, big.NewInt(97)).Int64())
}

func bodyText(l impl.Label) string {
	return fmt.Sprintf("%d%09d%s", l.Service, l.Serial, l.To)
}

func wantedCheck(l impl.Label) int {
	return 98 - remainder(spelled(bodyText(l)+"00"))
}

// isLabelText tells without the program whether a text is a written label.
func isLabelText(s string) bool {
	if !labelForm.MatchString(s) {
		return false
	}
	check := s[13:]
	return "02" <= check && check <= "98" && remainder(spelled(s)) == 1
}

func someLabels() []impl.Label {
	l := []impl.Label{
		{Service: impl.ServiceFast, Serial: 42, To: "AMS"},
		{Service: impl.ServiceFast, Serial: 0, To: "AAA"},
		{Service: impl.ServiceWeek, Serial: 1, To: "AZA"},
		{Service: impl.ServiceSlow, Serial: impl.MaxSerial, To: "ZZZ"},
		{Service: impl.ServiceSlow, Serial: 100000000, To: "ABZ"},
		{Service: impl.ServiceWeek, Serial: 123456789, To: "JKL"},
	}
	r := rand.New(rand.NewSource(1))
	for len(l) < 40 {
		to := string([]byte{byte('A' + r.Intn(26)), byte('A' + r.Intn(26)), byte('A' + r.Intn(26))})
		l = append(l, impl.Label{Service: 1 + r.Intn(3), Serial: r.Intn(impl.MaxSerial + 1), To: to})
	}
	return l
}

func badLabels() []impl.Label {
	return []impl.Label{
		{},
		{Service: 0, Serial: 42, To: "AMS"},
		{Service: 4, Serial: 42, To: "AMS"},
		{Service: -1, Serial: 42, To: "AMS"},
		{Service: 11, Serial: 42, To: "AMS"},
		{Service: leastInt, Serial: 42, To: "AMS"},
		{Service: 1, Serial: -1, To: "AMS"},
		{Service: 1, Serial: impl.MaxSerial + 1, To: "AMS"},
		{Service: 1, Serial: leastInt, To: "AMS"},
		{Service: 1, Serial: greatestInt, To: "AMS"},
		{Service: 1, Serial: 42, To: ""},
		{Service: 1, Serial: 42, To: "AM"},
		{Service: 1, Serial: 42, To: "AMST"},
		{Service: 1, Serial: 42, To: "AM1"},
		{Service: 1, Serial: 42, To: "ams"},
		{Service: 1, Serial: 42, To: "A S"},
	}
}

func TestLabelConstants(t *testing.T) {
	if impl.MaxNumber != 1000000000 || impl.MaxSerial != 999999999 {
		t.Error(impl.MaxNumber, impl.MaxSerial)
	}
	if impl.ServiceFast != 1 || impl.ServiceWeek != 2 || impl.ServiceSlow != 3 {
		t.Error(impl.ServiceFast, impl.ServiceWeek, impl.ServiceSlow)
	}
}

func TestFormatInt(t *testing.T) {
	for n, want := range map[int]string{
		0: "0", 7: "7", 10: "10", 1000000000: "1000000000", -1: "-1", -50: "-50",
		greatestInt: "9223372036854775807", leastInt: "-9223372036854775808",
	} {
		if got := impl.FormatInt(n); got != want {
			t.Errorf("FormatInt(%d) = %q", n, got)
		}
	}
}

func TestParseIntReadsWhatFormatIntWrites(t *testing.T) {
	for _, n := range []int{0, 1, 9, 10, 99, 100, 123456789, impl.MaxNumber - 1, impl.MaxNumber} {
		if got, ok := impl.ParseInt(impl.FormatInt(n)); !ok || got != n {
			t.Error(n, got, ok)
		}
	}
}

func TestParseIntReadsNothingElse(t *testing.T) {
	for _, s := range []string{
		"", "00", "01", "007", "+1", "+0", "-0", "-1", "-50", "-9223372036854775808", "1000000001", "9999999999",
		"9223372036854775807", "9223372036854775808", "18446744073709551617", strings.Repeat("1", 500), strings.Repeat("0", 500),
		" 1", "1 ", "1\n", "1_0", "1.0", "1e3", "0x1", "A", "1A", "A1", "1\x00", "\xff", "\uff11",
	} {
		if n, ok := impl.ParseInt(s); ok || n != 0 {
			t.Errorf("ParseInt(%q) = %d, %v", s, n, ok)
		}
	}
}

func TestIsPlace(t *testing.T) {
	for _, s := range []string{"AMS", "AAA", "ZZZ", "AZM"} {
		if !impl.IsPlace(s) {
			t.Errorf("%q is a place", s)
		}
	}
	for _, s := range []string{"", "A", "AM", "AMST", "AM1", "1MS", "A0S", "ams", "AMs", "A@S", "A[S", "AM ", " AM", "AM\x00", "\xc1MS", "ÀB", "ÀBC"} {
		if impl.IsPlace(s) {
			t.Errorf("%q is no place", s)
		}
	}
}

func TestDigits(t *testing.T) {
	for s, want := range map[string]string{
		"": "", "0": "0", "0123456789": "0123456789", "A": "10", "Z": "35", "A1Z": "10135", "J9K": "19920", "007": "007",
		"ABCDEFGHIJKLMNOPQRSTUVWXYZ": "1011121314151617181920212223242526272829303132333435",
	} {
		if got, ok := impl.Digits(s); !ok || got != want {
			t.Errorf("Digits(%q) = %q, %v", s, got, ok)
		}
	}
}

func TestDigitsRejectsEachOtherByte(t *testing.T) {
	for b := range 256 {
		c := byte(b)
		known := '0' <= c && c <= '9' || 'A' <= c && c <= 'Z'
		for _, s := range []string{string([]byte{c}), string([]byte{'1', c}), string([]byte{c, 'A'})} {
			got, ok := impl.Digits(s)
			if ok != known || !ok && got != "" {
				t.Errorf("Digits(%q) = %q, %v", s, got, ok)
			}
		}
	}
}

func TestMod97(t *testing.T) {
	for s, want := range map[string]int{
		"0": 0, "1": 1, "96": 96, "97": 0, "98": 1, "0098": 1, "00": 0, "000000000000000000000000000097": 0, "100": 3,
	} {
		if got := impl.Mod97(s); got != want {
			t.Errorf("Mod97(%q) = %d", s, got)
		}
	}
	for _, s := range []string{"9223372036854775807", "9223372036854775808", "18446744073709551616", strings.Repeat("9", 40), strings.Repeat("1234567890", 100)} {
		if got := impl.Mod97(s); got != remainder(s) {
			t.Errorf("Mod97(%q) = %d", s, got)
		}
	}
	for _, s := range []string{"", "A", "1A", "A1", "-1", "+1", " 1", "1 ", "1/", "1:", "1\x00", "1\xff", "\uff11", "12a34"} {
		if got := impl.Mod97(s); got != -1 {
			t.Errorf("Mod97(%q) = %d", s, got)
		}
	}
}

func TestValidLabels(t *testing.T) {
	for _, l := range someLabels() {
		check := wantedCheck(l)
		text := fmt.Sprintf("%s%02d", bodyText(l), check)
		if !impl.IsLabel(l) || impl.CheckOf(l) != check || impl.FormatLabel(l) != text || !isLabelText(text) {
			t.Error(l, impl.IsLabel(l), impl.CheckOf(l), check, impl.FormatLabel(l), text)
		}
		if got, ok := impl.ParseLabel(text); !ok || got != l {
			t.Error(text, got, ok)
		}
	}
}

func TestInvalidLabels(t *testing.T) {
	for _, l := range badLabels() {
		if impl.IsLabel(l) || impl.CheckOf(l) != -1 || impl.FormatLabel(l) != "" {
			t.Error(l, impl.IsLabel(l), impl.CheckOf(l), impl.FormatLabel(l))
		}
	}
}

// Of 97 serials in a row, each check number is that of one: the two ends of the range are among them.
func TestCheckNumbersHaveOneText(t *testing.T) {
	seen := map[int]bool{}
	for serial := range 97 {
		l := impl.Label{Service: impl.ServiceWeek, Serial: serial, To: "OSL"}
		check := impl.CheckOf(l)
		seen[check] = true
		if check < 2 || check > 98 {
			t.Error(l, check)
		}
		for other := range 100 {
			text := fmt.Sprintf("%s%02d", bodyText(l), other)
			got, ok := impl.ParseLabel(text)
			if ok != (other == check) || ok && got != l || !ok && got != (impl.Label{}) {
				t.Error(text, got, ok)
			}
		}
	}
	if len(seen) != 97 || !seen[2] || !seen[98] {
		t.Error(seen)
	}
}

func TestNoLabelIsRead(t *testing.T) {
	for _, s := range []string{
		"", "1", "83", "1000000042AMS", "1000000042AMS8", "1000000042AMS083", "1000000042AMS83 ", " 1000000042AMS83",
		"01000000042AMS83", "000000042AMS83", "1000000042AMS84", "1000000024AMS83", "1000000042ASM83", "1000000042ams83",
		"0000000042AMS83", "4000000042AMS83", "-000000042AMS83", "1+00000042AMS83", "1-00000042AMS83", "100000_042AMS83",
		"A000000042AMS83", "100000004AAMS83", "1000000042A1S83", "10000000421MS83", "1000000042AM183", "1000000042AMSB3", "1000000042AMS8B",
		"1000000042AMS+8", "1000000042AMS 8", "1000000042AMS8\x00", "1000000042AMS8\xff", "1000000042\xc3\x80S83", strings.Repeat("0", 15), strings.Repeat("A", 15),
		strings.Repeat("1000000042AMS83", 2), strings.Repeat("9", 1000),
	} {
		if l, ok := impl.ParseLabel(s); ok || l != (impl.Label{}) {
			t.Errorf("ParseLabel(%q) = %v, %v", s, l, ok)
		}
	}
}

// A text that has the right remainder but not the form: letters among the digits and digits among the letters.
func TestTheRemainderIsNotEnough(t *testing.T) {
	const bytes = "0123456789ABCDEFGHIJKLMNOPQRSTUVWXYZ"
	text := "1000000042AMS83"
	found := 0
	for i := range len(text) {
		for j := i + 1; j < len(text); j++ {
			for _, a := range []byte(bytes) {
				for _, b := range []byte(bytes) {
					s := []byte(text)
					s[i], s[j] = a, b
					changed := string(s)
					if remainder(spelled(changed)) != 1 || isLabelText(changed) {
						continue
					}
					found++
					if l, ok := impl.ParseLabel(changed); ok {
						t.Errorf("ParseLabel(%q) = %v", changed, l)
					}
				}
			}
		}
	}
	if found == 0 {
		t.Error("nothing was tried")
	}
}

func TestOneWrongCharacterIsNoLabel(t *testing.T) {
	for _, l := range someLabels() {
		text := impl.FormatLabel(l)
		for i := range len(text) {
			for b := range 256 {
				s := []byte(text)
				s[i] = byte(b)
				got, ok := impl.ParseLabel(string(s))
				same := string(s) == text
				if ok != same || ok && got != l || !ok && got != (impl.Label{}) {
					t.Errorf("ParseLabel(%q) = %v, %v beside %q", s, got, ok, text)
				}
			}
		}
	}
}

func TestTwoExchangedCharactersAreNoLabel(t *testing.T) {
	for _, l := range someLabels() {
		text := impl.FormatLabel(l)
		for i := range len(text) {
			if s := impl.SwapAt(text, i); s != text {
				if got, ok := impl.ParseLabel(s); ok {
					t.Errorf("SwapAt(%q, %d) = %q is %v", text, i, s, got)
				}
			}
			for j := i + 1; j < len(text); j++ {
				s := []byte(text)
				s[i], s[j] = s[j], s[i]
				if got, ok := impl.ParseLabel(string(s)); ok && string(s) != text {
					t.Errorf("%q is %v beside %q", s, got, text)
				}
			}
		}
	}
}

func TestSwapAt(t *testing.T) {
	for _, c := range []struct {
		s    string
		i    int
		want string
	}{
		{"abc", 0, "bac"}, {"abc", 1, "acb"}, {"abc", 2, "abc"}, {"abc", 3, "abc"}, {"abc", -1, "abc"}, {"abc", 100, "abc"},
		{"abc", greatestInt, "abc"}, {"abc", greatestInt - 1, "abc"}, {"abc", leastInt, "abc"},
		{"", 0, ""}, {"", -1, ""}, {"", -2, ""}, {"", greatestInt, ""}, {"a", 0, "a"}, {"a", -1, "a"}, {"ab", 0, "ba"}, {"ab", 1, "ab"},
		{"aab", 0, "aab"}, {"abcdef", 2, "abdcef"}, {"é", 0, "\xa9\xc3"}, {"\x00\xff", 0, "\xff\x00"},
	} {
		if got := impl.SwapAt(c.s, c.i); got != c.want {
			t.Errorf("SwapAt(%q, %d) = %q", c.s, c.i, got)
		}
	}
}

// labelsBeside lists in order of the index what Amended is to give.
func labelsBeside(s string) []string {
	var l []string
	for i := range len(s) {
		for b := range 256 {
			c := []byte(s)
			c[i] = byte(b)
			if string(c) != s && isLabelText(string(c)) {
				l = append(l, string(c))
			}
		}
	}
	return l
}

func TestAmended(t *testing.T) {
	several := 0
	for k, l := range someLabels()[:20] {
		text := impl.FormatLabel(l)
		for i := range len(text) {
			for _, c := range []byte{'0', '9', 'A', 'Z', 'x', ' ', 0, 255, byte('0' + k%10), byte('A' + k)} {
				s := []byte(text)
				s[i] = c
				got, want := impl.Amended(string(s)), labelsBeside(string(s))
				if !slices.Equal(got, want) {
					t.Errorf("Amended(%q) = %q, not %q", s, got, want)
				}
				if string(s) != text && !slices.Contains(got, text) {
					t.Errorf("Amended(%q) has no %q", s, text)
				}
				if len(want) > 1 {
					several++
				}
			}
		}
	}
	if several == 0 {
		t.Error("no text had several labels beside it")
	}
}

func TestAmendedFindsNothing(t *testing.T) {
	for _, l := range someLabels() {
		if got := impl.Amended(impl.FormatLabel(l)); len(got) != 0 {
			t.Error(l, got)
		}
	}
	for _, s := range []string{
		"", "1", "1000000042AMS8", "000000042AMS83", "1000000042AMS833", "1000000042AMS83 ", "1000000042AMSXX", "X000000042AMSX3",
		strings.Repeat("X", 15), strings.Repeat("\xff", 15), strings.Repeat("1", 1000),
	} {
		if got := impl.Amended(s); len(got) != 0 {
			t.Errorf("Amended(%q) = %q", s, got)
		}
	}
}

func TestAmendedIsNewMemory(t *testing.T) {
	first := impl.Amended("1000000042AMS8X")
	first[0] = "changed"
	if again := impl.Amended("1000000042AMS8X"); len(again) != 1 || again[0] != "1000000042AMS83" {
		t.Error(again)
	}
}

func TestCompareLabels(t *testing.T) {
	ordered := []impl.Label{
		{Service: leastInt, Serial: greatestInt, To: "ZZZ"},
		{Service: -1},
		{},
		{Service: 1, Serial: leastInt, To: "ZZZ"},
		{Service: 1, Serial: 41, To: "ZZZ"},
		{Service: 1, Serial: 42, To: ""},
		{Service: 1, Serial: 42, To: "AM"},
		{Service: 1, Serial: 42, To: "AMS"},
		{Service: 1, Serial: 42, To: "AMT"},
		{Service: 1, Serial: 42, To: "ams"},
		{Service: 1, Serial: 42, To: "\xff"},
		{Service: 1, Serial: greatestInt, To: "AAA"},
		{Service: 2, Serial: 0, To: "AAA"},
		{Service: greatestInt, Serial: leastInt},
	}
	for i, a := range ordered {
		for j, b := range ordered {
			want := 0
			if i < j {
				want = -1
			} else if i > j {
				want = 1
			}
			if got := impl.CompareLabels(a, b); got != want {
				t.Error(a, b, got, want)
			}
		}
	}
}
