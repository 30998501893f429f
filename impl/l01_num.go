package impl

import (
	"strconv"
	"strings"
)

const (
	maxParsedNumber = 999999
	maxParsedInt    = 999999999999
)

const malformedInteger = "malformed integer"

func FormatInt(n int) string { return strconv.Itoa(n) }

func ParseNumber(s string) (n int, ok bool) {
	defer func() {
		if recover() != nil {
			n, ok = 0, false
		}
	}()
	return integerWithin(s, 0, maxParsedNumber), true
}

func ParseInt(s string) (n int, ok bool) {
	defer func() {
		if recover() != nil {
			n, ok = 0, false
		}
	}()
	return integerWithin(s, -maxParsedInt, maxParsedInt), true
}

// integerWithin panics if s is not the FormatInt of an integer from low to
// high. Formatting again is what rejects the other spellings that Atoi
// accepts: leading zeros, "+1" and "-0".
func integerWithin(s string, low int, high int) int {
	n, err := strconv.Atoi(s)
	if err != nil || n < low || n > high || FormatInt(n) != s {
		panic(malformedInteger)
	}
	return n
}

// SplitByte makes the separator from a byte slice, because string(rune(by))
// would be two bytes for by from 128 on.
func SplitByte(s string, by byte) []string {
	return strings.Split(s, string([]byte{by}))
}

func Join(list []string, by string) string { return strings.Join(list, by) }
