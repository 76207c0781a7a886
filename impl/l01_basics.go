package impl

import (
	"cmp"
	"math/bits"
	"strconv"
	"strings"
)

// Constants of chapter 1.
const (
	OK           = 0
	ErrInvalid   = 1
	ErrRange     = 2
	ErrNotFound  = 3
	ErrExists    = 4
	ErrFull      = 5
	ErrState     = 6
	ErrOrder     = 7
	ErrSyntax    = 8
	ErrFormat    = 9
	ErrChecksum  = 10
	ErrTruncated = 11
	MaxName      = 10
	MaxList      = 64
	MaxBudget    = 20000
	MaxValue     = 1000000000000
	CrcStart     = 65535
)

const (
	maxDigits     = 18
	maxPoint      = 1000000
	crcPolynomial = 4129
	noNumbers     = "-"
)

var codeNames = [...]string{
	"ok", "invalid", "range", "not-found", "exists", "full",
	"state", "order", "syntax", "format", "checksum", "truncated",
}

// CodeName returns the name of an error code.
func CodeName(code int64) string {
	if !within(code, OK, ErrTruncated) {
		return ""
	}
	return codeNames[code]
}

// IsName reports whether s is a name.
func IsName(s string) bool {
	if !within(len(s), 1, MaxName) || !isLetter(s[0]) {
		return false
	}
	for i := range len(s) {
		if !isLetter(s[i]) && !isDigit(s[i]) {
			return false
		}
	}
	return true
}

// Decimal returns a number in decimal.
func Decimal(n int64) string { return strconv.FormatInt(n, 10) }

// ReadDecimal returns the number with a decimal form.
func ReadDecimal(s string) (int64, bool) {
	if len(strings.TrimPrefix(s, "-")) > maxDigits {
		return 0, false
	}
	n, err := strconv.ParseInt(s, 10, 64)
	// ParseInt also reads signs and leading zeros that Decimal never writes.
	if err != nil || Decimal(n) != s {
		return 0, false
	}
	return n, true
}

// SplitWords divides a line at blanks.
func SplitWords(s string) []string { return strings.FieldsFunc(s, isBlank) }

// ListText returns a list of numbers as text.
func ListText(list []int64) string {
	if len(list) > MaxList {
		return ""
	}
	if len(list) == 0 {
		return noNumbers
	}
	parts := make([]string, 0, len(list))
	for _, n := range list {
		if !isValue(n) {
			return ""
		}
		parts = append(parts, Decimal(n))
	}
	return strings.Join(parts, ",")
}

// ReadList returns the list with a text.
func ReadList(s string) ([]int64, bool) {
	if s == noNumbers {
		return []int64{}, true
	}
	// One part more than allowed tells that a list is too long, however long the text is.
	parts := strings.SplitN(s, ",", MaxList+1)
	if len(parts) > MaxList {
		return nil, false
	}
	list := make([]int64, 0, len(parts))
	for _, part := range parts {
		n, ok := ReadDecimal(part)
		if !ok || !isValue(n) {
			return nil, false
		}
		list = append(list, n)
	}
	return list, true
}

// Crc16 returns the check value of bytes.
func Crc16(s string, start int64) int64 {
	if !within(start, 0, CrcStart) {
		return 0
	}
	check := uint16(start)
	for i := range len(s) {
		check ^= uint16(s[i]) << 8
		for range 8 {
			carry := check >> 15
			// Doubling in 16 bits drops the highest bit; the polynomial makes up for it.
			check = check<<1 ^ carry*crcPolynomial
		}
	}
	return int64(check)
}

// RootOf returns the square root, rounded down.
func RootOf(n int64) int64 {
	if n < 0 {
		return 0
	}
	square, root := uint64(n), uint64(0)
	// The greatest number tried is below 1 << 32, so that its square fits in an uint64.
	for bit := uint64(1) << (bits.Len64(square) / 2); bit > 0; bit >>= 1 {
		if next := root + bit; next*next <= square {
			root = next
		}
	}
	return int64(root)
}

// DivRound returns the nearest quotient.
func DivRound(a, b int64) int64 {
	if !isValue(a) || !isValue(b) {
		return 0
	}
	return nearest(a, b)
}

// Blend returns a number on a line through two points.
func Blend(x0, y0, x1, y1, x int64) int64 {
	for _, n := range [...]int64{x0, y0, x1, y1} {
		if !within(n, -maxPoint, maxPoint) {
			return 0
		}
	}
	return lineAt(x0, y0, x1, y1, x)
}

// nearest is DivRound without its limits: later chapters round all numbers.
func nearest(a, b int64) int64 {
	if b == 0 {
		return 0
	}
	quotient := a / b
	rest, whole := magnitude(a%b), magnitude(b)
	// Twice the rest may not fit, so that it is compared with what is missing to the next integer.
	if rest < whole-rest {
		return quotient
	}
	if (a < 0) != (b < 0) {
		return quotient - 1
	}
	return quotient + 1
}

// lineAt is Blend without its limits: later chapters blend all numbers.
func lineAt(x0, y0, x1, y1, x int64) int64 {
	if x <= x0 || x1 <= x0 {
		return y0
	}
	if x >= x1 {
		return y1
	}
	return y0 + nearest((y1-y0)*(x-x0), x1-x0)
}

// magnitude returns an uint64, because the least int64 has no opposite.
func magnitude(n int64) uint64 {
	if n < 0 {
		return -uint64(n)
	}
	return uint64(n)
}

// within reports whether x is neither less than least nor greater than greatest.
func within[T cmp.Ordered](x, least, greatest T) bool {
	return least <= x && x <= greatest
}

// statedCode returns the code of a call whose arguments are valid or not, and whose numbers are as stated or not.
func statedCode(isValid, isStated bool) int64 {
	if !isValid {
		return ErrInvalid
	}
	if !isStated {
		return ErrRange
	}
	return OK
}

// orderedCode is statedCode of a call that also has lists, which are ordered as they must be or not.
func orderedCode(isValid, isStated, isOrdered bool) int64 {
	if code := statedCode(isValid, isStated); code != OK || isOrdered {
		return code
	}
	return ErrOrder
}

func isValue(n int64) bool { return within(n, -MaxValue, MaxValue) }

func isLetter(b byte) bool { return within(b, 'a', 'z') }

func isDigit(b byte) bool { return within(b, '0', '9') }

func isBlank(r rune) bool { return r == ' ' }
