package impl

import (
	"strconv"
	"strings"
)

const (
	maxNumber  = 999999
	maxInteger = 999999999999
)

const malformedInteger = "malformed integer"

func FormatInt(n int) string { return strconv.Itoa(n) }

func ParseNumber(s string) (n int, ok bool) {
	defer func() {
		if recover() != nil {
			n, ok = 0, false
		}
	}()
	return integerBetween(s, 0, maxNumber), true
}

func ParseInt(s string) (n int, ok bool) {
	defer func() {
		if recover() != nil {
			n, ok = 0, false
		}
	}()
	return integerBetween(s, -maxInteger, maxInteger), true
}

// integerBetween panics if s is malformed; the exported functions recover.
// Atoi alone accepts too much ("007", "+7", "-0"), so its result is formatted
// again and compared with s.
func integerBetween(s string, least, greatest int) int {
	n, err := strconv.Atoi(s)
	if err != nil || n < least || n > greatest || FormatInt(n) != s {
		panic(malformedInteger)
	}
	return n
}

func SplitByte(s string, by byte) []string {
	// string(by) would encode a byte above 127 as a rune of two bytes.
	return strings.Split(s, string([]byte{by}))
}

func Join(list []string, by string) string { return strings.Join(list, by) }
