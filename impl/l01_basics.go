package impl

import (
	"cmp"
	"math/bits"
	"strconv"
	"strings"
)

// Constants of chapter 1.
const (
	OK           = 0
	ErrInvalid   = 1
	ErrRange     = 2
	ErrNotFound  = 3
	ErrExists    = 4
	ErrFull      = 5
	ErrState     = 6
	ErrOrder     = 7
	ErrSyntax    = 8
	ErrFormat    = 9
	ErrChecksum  = 10
	ErrTruncated = 11
	MaxName      = 10
	MaxList      = 64
	MaxBudget    = 20000
	MaxValue     = 1000000000000
	CrcStart     = 65535
)

const (
	mostDigits    = 18
	mostBlend     = 1000000
	crcMask       = 65535
	crcPolynomial = 4129
)

// codeNames has the names of the error codes, each at the place of its code.
var codeNames = [...]string{
	"ok", "invalid", "range", "not-found", "exists", "full",
	"state", "order", "syntax", "format", "checksum", "truncated",
}

// CodeName returns the name of an error code.
func CodeName(code int64) string {
	if !within(OK, ErrTruncated, code) {
		return ""
	}
	return codeNames[code]
}

// IsName reports whether s is a name.
func IsName(s string) bool {
	if !within(1, MaxName, len(s)) || !isLetter(s[0]) {
		return false
	}
	for i := range len(s) {
		if !isLetter(s[i]) && !isDigit(s[i]) {
			return false
		}
	}
	return true
}

// named is a value with a name, by which lists of such values are in order.
type named interface {
	valid() bool
	name() string
}

// areNamed reports whether a list has at most a number of values, all of them valid
// and with strictly increasing names.
func areNamed[T named](list []T, most int) bool {
	if len(list) > most {
		return false
	}
	for i, x := range list {
		if !x.valid() || i > 0 && x.name() <= list[i-1].name() {
			return false
		}
	}
	return true
}

// indicesWhere returns the indices of the elements for which a function reports true.
func indicesWhere[T any](list []T, is func(T) bool) []int64 {
	var indices []int64
	for i, element := range list {
		if is(element) {
			indices = append(indices, int64(i))
		}
	}
	return indices
}

// isBudget reports whether n is the budget of a search.
func isBudget(n int64) bool { return within(1, MaxBudget, n) }

// nodeBudget is the number of nodes that a search may still visit.
type nodeBudget int64

// spend takes a node from the budget. It panics if the budget is spent.
func (b *nodeBudget) spend() {
	if *b == 0 {
		panic("the budget is spent")
	}
	*b--
}

// withinBudget makes a search and returns what it finds; ErrFull if the budget was
// spent before its end.
func withinBudget[T any](search func() T) (found T, code int64) {
	defer func() {
		// Nothing but a spent budget makes a search panic.
		if recover() != nil {
			code = ErrFull
		}
	}()
	return search(), OK
}

func isLetter(b byte) bool { return within('a', 'z', b) }

func isDigit(b byte) bool { return within('0', '9', b) }

// Decimal returns a number in decimal.
func Decimal(n int64) string { return strconv.FormatInt(n, 10) }

// ReadDecimal returns the number with a decimal form.
func ReadDecimal(s string) (int64, bool) {
	if len(strings.TrimPrefix(s, "-")) > mostDigits {
		return 0, false
	}
	n, err := strconv.ParseInt(s, 10, 64)
	// ParseInt also takes forms that Decimal never writes: a plus sign, leading zeros, -0.
	if err != nil || Decimal(n) != s {
		return 0, false
	}
	return n, true
}

// SplitWords divides a line at blanks.
func SplitWords(s string) []string {
	// strings.Fields would divide at tabs and newlines too, which are no blanks.
	return strings.FieldsFunc(s, func(r rune) bool { return r == ' ' })
}

// ListText returns a list of numbers as text.
func ListText(list []int64) string {
	if len(list) > MaxList || !within(-MaxValue, MaxValue, list...) {
		return ""
	}
	if len(list) == 0 {
		return "-"
	}
	parts := make([]string, len(list))
	for i, n := range list {
		parts[i] = Decimal(n)
	}
	return strings.Join(parts, ",")
}

// ReadList returns the list with a text.
func ReadList(s string) ([]int64, bool) {
	if s == "-" {
		return []int64{}, true
	}
	return readParts(s, ",", MaxList, readElement)
}

// readElement returns the number of a list with a decimal form.
func readElement(s string) (int64, bool) {
	n, ok := ReadDecimal(s)
	return n, ok && within(-MaxValue, MaxValue, n)
}

// readParts returns what the parts of a text are read as; false if there are more
// than most of them, or one cannot be read.
func readParts[T any](s, separator string, most int, read func(string) (T, bool)) ([]T, bool) {
	// One part more than there may be is enough to see that there are too many.
	parts := strings.SplitN(s, separator, most+1)
	if len(parts) > most {
		return nil, false
	}
	values := make([]T, len(parts))
	for i, part := range parts {
		value, ok := read(part)
		if !ok {
			return nil, false
		}
		values[i] = value
	}
	return values, true
}

// readNamed returns the name with which a text begins and the numbers of the list
// behind it; false if there are not as many as count. The name need not be one.
func readNamed(s string, count int) (string, []int64, bool) {
	// A blank too many is left in the list, which is none then.
	name, listText, _ := strings.Cut(s, " ")
	numbers, ok := ReadList(listText)
	return name, numbers, ok && len(numbers) == count
}

// Crc16 returns the check value of bytes.
func Crc16(s string, start int64) int64 {
	if !within(0, crcMask, start) {
		return 0
	}
	crc := start
	for i := range len(s) {
		crc ^= int64(s[i]) << 8
		for range 8 {
			crc <<= 1
			if crc > crcMask {
				crc = crc&crcMask ^ crcPolynomial
			}
		}
	}
	return crc
}

// RootOf returns the square root, rounded down.
func RootOf(n int64) int64 {
	if n <= 0 {
		return 0
	}
	// The root has half as many bits as n. They are found from the highest one
	// down, without signs, since the square of a trial may be above every int64.
	root := uint64(0)
	for bit := (bits.Len64(uint64(n)) - 1) / 2; bit >= 0; bit-- {
		trial := root | 1<<bit
		if trial*trial <= uint64(n) {
			root = trial
		}
	}
	return int64(root)
}

// DivRound returns the nearest quotient.
func DivRound(a, b int64) int64 {
	if !within(-MaxValue, MaxValue, a, b) {
		return 0
	}
	return nearestQuotient(a, b)
}

// nearestQuotient is DivRound for all numbers: chapters divide products that
// are greater than the limits of DivRound.
func nearestQuotient(a, b int64) int64 {
	if b == 0 {
		return 0
	}
	quotient, rest := a/b, magnitude(a%b)
	// The rest is compared with what it lacks, since twice the rest may overflow.
	if rest < magnitude(b)-rest {
		return quotient
	}
	if (a < 0) != (b < 0) {
		return quotient - 1
	}
	return quotient + 1
}

// magnitude returns the absolute value, which the least int64 has only without a sign.
func magnitude(n int64) uint64 {
	if n < 0 {
		return -uint64(n)
	}
	return uint64(n)
}

// Blend returns a number on a line through two points.
func Blend(x0, y0, x1, y1, x int64) int64 {
	if !within(-mostBlend, mostBlend, x0, y0, x1, y1) {
		return 0
	}
	if x1 <= x0 {
		return y0
	}
	// Only x has no limits: moved to the nearer end, where the line has the value
	// that is asked for, it cannot make the product overflow.
	x = least(greatest(x, x0), x1)
	return y0 + nearestQuotient((y1-y0)*(x-x0), x1-x0)
}

// least returns the least of some values.
func least[T cmp.Ordered](first T, others ...T) T {
	for _, v := range others {
		if v < first {
			first = v
		}
	}
	return first
}

// greatest returns the greatest of some values.
func greatest[T cmp.Ordered](first T, others ...T) T {
	for _, v := range others {
		if v > first {
			first = v
		}
	}
	return first
}

// within reports whether all values are from low to high.
func within[T cmp.Ordered](low, high T, values ...T) bool {
	for _, v := range values {
		if v < low || v > high {
			return false
		}
	}
	return true
}
