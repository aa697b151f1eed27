package tests

import (
	"fmt"
	"math"
	"slices"
	"strings"
	"testing"

	"loop.example/g00520/impl"
)

const (
	greatestNumber  = 999999
	greatestInteger = 999999999999
)

type parser func(string) (int, bool)

// wantAccepted checks that parse returns n for its decimal representation.
func wantAccepted(t *testing.T, name string, parse parser, text string, n int) {
	t.Helper()
	if got, ok := parse(text); !ok || got != n {
		t.Errorf("%s(%q) = %d, %t; want %d, true", name, text, got, ok, n)
	}
}

// wantRejected checks the complete result, since the number must be 0 beside false.
func wantRejected(t *testing.T, name string, parse parser, text string) {
	t.Helper()
	if got, ok := parse(text); ok || got != 0 {
		t.Errorf("%s(%.60q) = %d, %t; want 0, false", name, text, got, ok)
	}
}

func TestFormatIntKnownTexts(t *testing.T) {
	for _, c := range []struct {
		n    int
		text string
	}{
		{0, "0"}, {1, "1"}, {-1, "-1"}, {-5, "-5"}, {9, "9"}, {10, "10"}, {-10, "-10"},
		{99, "99"}, {100, "100"}, {-70, "-70"}, {1000000, "1000000"},
		{greatestInteger, "999999999999"}, {-greatestInteger, "-999999999999"},
		{math.MaxInt, "9223372036854775807"},
		{math.MinInt + 1, "-9223372036854775807"},
		{math.MinInt, "-9223372036854775808"},
	} {
		if got := impl.FormatInt(c.n); got != c.text {
			t.Errorf("FormatInt(%d) = %q; want %q", c.n, got, c.text)
		}
	}
}

func TestFormatIntAroundPowers(t *testing.T) {
	for _, base := range []int{2, 10} {
		for power := 1; power <= math.MaxInt/base; power *= base {
			for d := -2; d <= 2; d++ {
				for _, n := range []int{power + d, -power + d} {
					if got := impl.FormatInt(n); got != fmt.Sprint(n) {
						t.Errorf("FormatInt(%d) = %q", n, got)
					}
				}
			}
		}
	}
}

func TestParseNumberAcceptsItsRange(t *testing.T) {
	for n := 0; n <= greatestNumber; n++ {
		if got, ok := impl.ParseNumber(impl.FormatInt(n)); !ok || got != n {
			t.Fatalf("ParseNumber(%q) = %d, %t", impl.FormatInt(n), got, ok)
		}
	}
	wantAccepted(t, "ParseNumber", impl.ParseNumber, "0", 0)
	wantAccepted(t, "ParseNumber", impl.ParseNumber, "42", 42)
	wantAccepted(t, "ParseNumber", impl.ParseNumber, "999999", greatestNumber)
}

func TestParseNumberRejectsBeyondItsRange(t *testing.T) {
	for _, text := range []string{
		"-1", "-5", "-999999", "1000000", "1000001", "9999999", "999999999999",
		"9223372036854775807", "-9223372036854775808",
	} {
		wantRejected(t, "ParseNumber", impl.ParseNumber, text)
	}
}

func TestParseIntAcceptsItsRange(t *testing.T) {
	for n := -20000; n <= 20000; n++ {
		wantAccepted(t, "ParseInt", impl.ParseInt, fmt.Sprint(n), n)
	}
	for power := 1; power <= greatestInteger; power *= 10 {
		for _, n := range []int{power - 1, power, power + 1, power * 7} {
			if n <= greatestInteger {
				wantAccepted(t, "ParseInt", impl.ParseInt, fmt.Sprint(n), n)
				wantAccepted(t, "ParseInt", impl.ParseInt, fmt.Sprint(-n), -n)
			}
		}
	}
	wantAccepted(t, "ParseInt", impl.ParseInt, "123456789012", 123456789012)
	wantAccepted(t, "ParseInt", impl.ParseInt, "999999999998", greatestInteger-1)
	wantAccepted(t, "ParseInt", impl.ParseInt, "999999999999", greatestInteger)
	wantAccepted(t, "ParseInt", impl.ParseInt, "-999999999998", -greatestInteger+1)
	wantAccepted(t, "ParseInt", impl.ParseInt, "-999999999999", -greatestInteger)
}

func TestParseIntRejectsBeyondItsRange(t *testing.T) {
	for _, text := range []string{
		"1000000000000", "-1000000000000", "1000000000001", "-1000000000001",
		"9999999999999", "-9999999999999",
		"9223372036854775807", "9223372036854775808",
		"-9223372036854775808", "-9223372036854775809",
	} {
		wantRejected(t, "ParseInt", impl.ParseInt, text)
	}
}

// malformedTexts are the FormatInt of no integer at all.
func malformedTexts() []string {
	return []string{
		"", "-", "+", "--", "--1", "-+1", "+1", "+0", "1-", "1+", "1-1",
		"00", "01", "007", "000000", "0000001", "-0", "-00", "-01", "-007", "0-",
		" ", " 1", "1 ", "- 1", "1 2", "\t1", "1\n", "\n1", "1\r", "\x001", "1\x00",
		"a", "1a", "a1", "12x4", "0x10", "0b1", "0o7", "1e3", "1.0", "1.", ".5", "1,000",
		"1_000", "1/2", "/", ":", "1:", "1/", "/1", ":1", "nan", "inf",
		"\xff", "1\xff", "\xff1", "1\x80", "-\xb1", "\xb1", "\u22121", "\uff11", "\u0663", "\u00b2",
	}
}

func TestParsersRejectMalformedTexts(t *testing.T) {
	for _, text := range malformedTexts() {
		wantRejected(t, "ParseNumber", impl.ParseNumber, text)
		wantRejected(t, "ParseInt", impl.ParseInt, text)
	}
}

func TestParsersRejectEveryOtherByte(t *testing.T) {
	for b := range 256 {
		if b >= '0' && b <= '9' {
			continue
		}
		c := string([]byte{byte(b)})
		texts := []string{c, "1" + c, "1" + c + "2", "-" + c, "-1" + c}
		if c != "-" {
			texts = append(texts, c+"1")
		}
		for _, text := range texts {
			wantRejected(t, "ParseNumber", impl.ParseNumber, text)
			wantRejected(t, "ParseInt", impl.ParseInt, text)
		}
	}
}

func TestParsersRejectLongTexts(t *testing.T) {
	texts := []string{
		// These are 0, 1, 7 and -1 again if the sum wraps around at 64 or 32 bits.
		"18446744073709551616", "18446744073709551617", "18446744073709551623",
		"-18446744073709551617", "36893488147419103233", "-18446744073709551615",
		"340282366920938463463374607431768211457",
	}
	for _, size := range []int{13, 19, 20, 21, 100, 100000} {
		for _, digit := range []string{"0", "1", "9"} {
			run := strings.Repeat(digit, size)
			texts = append(texts, run, "-"+run, run+"x")
		}
		texts = append(texts, strings.Repeat("0", size)+"7", "-"+strings.Repeat("0", size)+"7")
		texts = append(texts, strings.Repeat("-", size)+"1", "1"+strings.Repeat("0", size))
	}
	for _, text := range texts {
		wantRejected(t, "ParseNumber", impl.ParseNumber, text)
		wantRejected(t, "ParseInt", impl.ParseInt, text)
	}
}

// TestParsersAcceptOnlyFormattedTexts compares the parsers with their
// definition for every text of up to four bytes from a small alphabet.
func TestParsersAcceptOnlyFormattedTexts(t *testing.T) {
	formatted := map[string]int{}
	for n := -9999; n <= 9999; n++ {
		formatted[impl.FormatInt(n)] = n
	}
	for _, text := range textsOver("-+0179 ", 4) {
		n, ok := formatted[text]
		if !ok {
			wantRejected(t, "ParseInt", impl.ParseInt, text)
			wantRejected(t, "ParseNumber", impl.ParseNumber, text)
			continue
		}
		wantAccepted(t, "ParseInt", impl.ParseInt, text, n)
		if n < 0 {
			wantRejected(t, "ParseNumber", impl.ParseNumber, text)
		} else {
			wantAccepted(t, "ParseNumber", impl.ParseNumber, text, n)
		}
	}
}

// textsOver returns all texts of at most size bytes of the alphabet.
func textsOver(alphabet string, size int) []string {
	texts := []string{""}
	for from := 0; size > 0; size-- {
		to := len(texts)
		for _, text := range texts[from:to] {
			for i := range len(alphabet) {
				texts = append(texts, text+alphabet[i:i+1])
			}
		}
		from = to
	}
	return texts
}

func TestSplitByteKnownParts(t *testing.T) {
	for _, c := range []struct {
		text string
		by   byte
		want []string
	}{
		{"", ',', []string{""}},
		{"", 0, []string{""}},
		{"abc", ',', []string{"abc"}},
		{"a,b", ',', []string{"a", "b"}},
		{"a,b,cd", ',', []string{"a", "b", "cd"}},
		{",a", ',', []string{"", "a"}},
		{"a,", ',', []string{"a", ""}},
		{",a,", ',', []string{"", "a", ""}},
		{",", ',', []string{"", ""}},
		{",,", ',', []string{"", "", ""}},
		{"a,,b", ',', []string{"a", "", "b"}},
		{"a,,,b", ',', []string{"a", "", "", "b"}},
		{"a b\nc\n", '\n', []string{"a b", "c", ""}},
		{"a\x00b\x00", 0, []string{"a", "b", ""}},
		{"a,b;c", ';', []string{"a,b", "c"}},
		{"a\xffb", 0xff, []string{"a", "b"}},
		{"\x80\x80", 0x80, []string{"", "", ""}},
		// The separator is a byte, also where it is a part of a letter.
		{"\u00e9\u00e9", 0xc3, []string{"", "\xa9", "\xa9"}},
		{"\u00e9", 0xe9, []string{"\u00e9"}},
		{"\u00e9", 0xa9, []string{"\xc3", ""}},
	} {
		if got := impl.SplitByte(c.text, c.by); !slices.Equal(got, c.want) {
			t.Errorf("SplitByte(%q, %q) = %q; want %q", c.text, c.by, got, c.want)
		}
	}
}

func TestSplitByteEverySeparator(t *testing.T) {
	for b := range 256 {
		by := byte(b)
		one := string([]byte{by})
		other := string([]byte{by + 1})
		text := other + one + one + other + other + one
		want := []string{other, "", other + other, ""}
		if got := impl.SplitByte(text, by); !slices.Equal(got, want) {
			t.Errorf("SplitByte(%q, %d) = %q; want %q", text, b, got, want)
		}
	}
}

func TestJoinKnownTexts(t *testing.T) {
	for _, c := range []struct {
		list []string
		by   string
		want string
	}{
		{nil, ",", ""},
		{[]string{}, ",", ""},
		{nil, "", ""},
		{[]string{""}, ",", ""},
		{[]string{"a"}, ",", "a"},
		{[]string{"a"}, "", "a"},
		{[]string{"a", "b"}, "-", "a-b"},
		{[]string{"a", "b"}, "", "ab"},
		{[]string{"a", "b", "c"}, ", ", "a, b, c"},
		{[]string{"", ""}, ",", ","},
		{[]string{"", "", ""}, "ab", "abab"},
		{[]string{"", "a", ""}, ",", ",a,"},
		{[]string{"a,b", "c"}, ",", "a,b,c"},
		{[]string{"\xff", "\x00"}, "\xfe", "\xff\xfe\x00"},
	} {
		if got := impl.Join(c.list, c.by); got != c.want {
			t.Errorf("Join(%q, %q) = %q; want %q", c.list, c.by, got, c.want)
		}
	}
}

func TestSplittingAndJoiningAreInverse(t *testing.T) {
	for _, by := range []byte{',', 'a', 0, 0x80, 0xff} {
		sep := string([]byte{by})
		for _, text := range textsOver("a,\x00\x80\xff", 5) {
			parts := impl.SplitByte(text, by)
			if len(parts) != strings.Count(text, sep)+1 {
				t.Errorf("SplitByte(%q, %q) has %d parts", text, by, len(parts))
			}
			for _, part := range parts {
				if strings.Contains(part, sep) {
					t.Errorf("SplitByte(%q, %q) has the part %q", text, by, part)
				}
			}
			if got := impl.Join(parts, sep); got != text {
				t.Errorf("Join(SplitByte(%q, %q)) = %q", text, by, got)
			}
		}
	}
}

func TestJoiningAndSplittingAreInverse(t *testing.T) {
	words := textsOver("ab", 2)
	for _, a := range words {
		for _, b := range words {
			for _, c := range words {
				for _, list := range [][]string{{a}, {a, b}, {a, b, c}} {
					if got := impl.SplitByte(impl.Join(list, ";"), ';'); !slices.Equal(got, list) {
						t.Errorf("SplitByte(Join(%q)) = %q", list, got)
					}
				}
			}
		}
	}
}

func TestJoinDoesNotModifyItsList(t *testing.T) {
	whole := []string{"a", "", "b", "unused", "capacity"}
	before := slices.Clone(whole)
	impl.Join(whole[:3], ",")
	if !slices.Equal(whole, before) {
		t.Errorf("Join changed its list to %q", whole)
	}
}

func TestSplitByteResultsAreIndependent(t *testing.T) {
	text := "a,b,c"
	first, second := impl.SplitByte(text, ','), impl.SplitByte(text, ',')
	first[0] = "changed"
	if want := []string{"a", "b", "c"}; !slices.Equal(second, want) || text != "a,b,c" {
		t.Errorf("after a change to one result the other one is %q", second)
	}
}

func TestParsersKeepNoState(t *testing.T) {
	for range 3 {
		wantAccepted(t, "ParseInt", impl.ParseInt, "-12", -12)
		wantRejected(t, "ParseInt", impl.ParseInt, "-012")
		wantAccepted(t, "ParseNumber", impl.ParseNumber, "12", 12)
		wantRejected(t, "ParseNumber", impl.ParseNumber, "-12")
	}
}
