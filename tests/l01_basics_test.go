package tests

import (
	"math"
	"math/big"
	"math/rand"
	"slices"
	"strings"
	"testing"

	"loop.example/g00952/impl"
)

// The expected values of this file are written out from chapter 1, not from the
// constants of impl, so that a changed constant fails too.
const (
	maxValue = 1000000000000
	maxName  = 10
	maxList  = 64
)

var edgeNumbers = []int64{
	math.MinInt64, math.MinInt64 + 1, -1000000000000000000, -999999999999999999,
	-maxValue - 1, -maxValue, -1000001, -1000000, -65536, -3, -2, -1, 0, 1, 2, 3,
	65535, 65536, 1000000, 1000001, maxValue, maxValue + 1,
	999999999999999999, 1000000000000000000, math.MaxInt64 - 1, math.MaxInt64,
}

var edgeTexts = []string{
	"", "-", "--", "0", "-0", "00", "01", "-01", "+1", " 1", "1 ", "1,2", ",", "1,", ",1", "1,,2",
	"999999999999999999", "-999999999999999999", "1000000000000000000", "9223372036854775807",
	"-9223372036854775808", "9223372036854775808", "1_000", "0x1", "1e3", "1.0", "a", "A", "\x00", "\xff", "é", "٣",
	" ", "  ", " a ", "a\tb", strings.Repeat("9", 1000), strings.Repeat("0,", 100), strings.Repeat("-", 1000),
}

// TestP2Constants holds the constants against the declarations of chapter 1.
func TestP2Constants(t *testing.T) {
	got := []int64{
		impl.OK, impl.ErrInvalid, impl.ErrRange, impl.ErrNotFound, impl.ErrExists, impl.ErrFull,
		impl.ErrState, impl.ErrOrder, impl.ErrSyntax, impl.ErrFormat, impl.ErrChecksum, impl.ErrTruncated,
		impl.MaxName, impl.MaxList, impl.MaxBudget, impl.MaxValue, impl.CrcStart,
	}
	want := []int64{0, 1, 2, 3, 4, 5, 6, 7, 8, 9, 10, 11, 10, 64, 20000, 1000000000000, 65535}
	if !slices.Equal(got, want) {
		t.Errorf("constants: got %v, want %v", got, want)
	}
}

func TestP2CodeName(t *testing.T) {
	want := []string{
		"ok", "invalid", "range", "not-found", "exists", "full",
		"state", "order", "syntax", "format", "checksum", "truncated",
	}
	for code, name := range want {
		if got := impl.CodeName(int64(code)); got != name {
			t.Errorf("CodeName(%d): got %q, want %q", code, got, name)
		}
	}
	for _, code := range []int64{math.MinInt64, -1, 12, 256, 1 << 32, math.MaxInt64} {
		if got := impl.CodeName(code); got != "" {
			t.Errorf("CodeName(%d): got %q, want none", code, got)
		}
	}
}

func TestP2IsName(t *testing.T) {
	for _, s := range []string{"a", "z", "a0", "z9", "bell7", "q09az", strings.Repeat("z", maxName), "a" + strings.Repeat("9", maxName-1)} {
		if !impl.IsName(s) {
			t.Errorf("IsName(%q): got false", s)
		}
	}
	for _, s := range []string{
		"", "0", "9a", "7bell", "A", "aB", "a-b", "a b", " a", "a ", "a_", "é", "aé", "a\x00", "\xff", "a\xff",
		"`", "{", "a`", "a{", "a/", "a:", strings.Repeat("z", maxName+1), strings.Repeat("z", 10000),
	} {
		if impl.IsName(s) {
			t.Errorf("IsName(%q): got true", s)
		}
	}
}

func TestP2Decimal(t *testing.T) {
	for _, c := range []struct {
		n    int64
		want string
	}{
		{0, "0"}, {7, "7"}, {-7, "-7"}, {10, "10"}, {-120, "-120"},
		{999999999999999999, "999999999999999999"}, {1000000000000000000, "1000000000000000000"},
		{math.MaxInt64, "9223372036854775807"}, {math.MinInt64, "-9223372036854775808"},
	} {
		if got := impl.Decimal(c.n); got != c.want {
			t.Errorf("Decimal(%d): got %q, want %q", c.n, got, c.want)
		}
	}
}

func TestP2ReadDecimal(t *testing.T) {
	for _, c := range []struct {
		s    string
		want int64
	}{
		{"0", 0}, {"5", 5}, {"-5", -5}, {"120", 120},
		{"100000000000000000", 100000000000000000}, {"-100000000000000000", -100000000000000000},
		{"999999999999999999", 999999999999999999}, {"-999999999999999999", -999999999999999999},
	} {
		if got, ok := impl.ReadDecimal(c.s); got != c.want || !ok {
			t.Errorf("ReadDecimal(%q): got %d %v, want %d", c.s, got, ok, c.want)
		}
	}
	for _, s := range []string{
		"", "-", "--", "--1", "-0", "00", "01", "-01", "007", "+0", "+1", " 1", "1 ", "1\n", "1a", "a", "1,2", "1-", "1.0",
		"1_000", "0x1", "1e3", "٣", "\xff", "1\x00",
		"000000000000000001", "1000000000000000000", "-1000000000000000000", "1234567890123456789",
		"9223372036854775807", "-9223372036854775808", "9223372036854775808", "99999999999999999999", strings.Repeat("9", 10000),
	} {
		if got, ok := impl.ReadDecimal(s); got != 0 || ok {
			t.Errorf("ReadDecimal(%q): got %d %v, want none", s, got, ok)
		}
	}
}

// TestP2DecimalReadBack: exactly the numbers of at most 18 digits are read back.
func TestP2DecimalReadBack(t *testing.T) {
	numbers := slices.Clone(edgeNumbers)
	for n := int64(-1200); n <= 1200; n++ {
		numbers = append(numbers, n)
	}
	for p := int64(1); p <= 1000000000000000000; p *= 10 {
		numbers = append(numbers, p-1, p, p+1, -p+1, -p, -p-1)
		if p == 1000000000000000000 {
			break
		}
	}
	for _, n := range numbers {
		got, ok := impl.ReadDecimal(impl.Decimal(n))
		short := n >= -999999999999999999 && n <= 999999999999999999
		if ok != short || ok && got != n || !ok && got != 0 {
			t.Errorf("ReadDecimal(Decimal(%d)): got %d %v", n, got, ok)
		}
	}
	for _, s := range edgeTexts {
		if n, ok := impl.ReadDecimal(s); ok && impl.Decimal(n) != s {
			t.Errorf("ReadDecimal(%q): got %d, whose text is %q", s, n, impl.Decimal(n))
		}
	}
}

func TestP2SplitWords(t *testing.T) {
	for _, c := range []struct {
		s    string
		want []string
	}{
		{"", nil}, {" ", nil}, {"     ", nil}, {"a", []string{"a"}}, {"a bc", []string{"a", "bc"}},
		{" a  bc ", []string{"a", "bc"}}, {"   a", []string{"a"}}, {"a   ", []string{"a"}},
		{"a\tb\nc\r\v\f d", []string{"a\tb\nc\r\v\f", "d"}}, {"\t", []string{"\t"}},
		{"a\u00a0b\u2003c \u0085", []string{"a\u00a0b\u2003c", "\u0085"}},
		{"\xff \xc3 \x00", []string{"\xff", "\xc3", "\x00"}}, {"é è", []string{"é", "è"}},
		{strings.Repeat("x ", 1000), slices.Repeat([]string{"x"}, 1000)},
	} {
		if got := impl.SplitWords(c.s); !slices.Equal(got, c.want) {
			t.Errorf("SplitWords(%q): got %q, want %q", c.s, got, c.want)
		}
	}
}

func TestP2ListText(t *testing.T) {
	zeros := make([]int64, maxList+1)
	for _, c := range []struct {
		list []int64
		want string
	}{
		{nil, "-"}, {[]int64{}, "-"}, {[]int64{0}, "0"}, {[]int64{3, 0, -1}, "3,0,-1"},
		{[]int64{maxValue, -maxValue}, "1000000000000,-1000000000000"},
		{[]int64{maxValue + 1}, ""}, {[]int64{-maxValue - 1}, ""},
		{[]int64{1, 2, maxValue + 1}, ""}, {[]int64{-maxValue - 1, 1}, ""},
		{[]int64{math.MinInt64}, ""}, {[]int64{math.MaxInt64}, ""},
		{zeros[:maxList-1], "0" + strings.Repeat(",0", maxList-2)},
		{zeros[:maxList], "0" + strings.Repeat(",0", maxList-1)}, {zeros, ""},
	} {
		if got := impl.ListText(c.list); got != c.want {
			t.Errorf("ListText(%v): got %q, want %q", c.list, got, c.want)
		}
	}
}

func TestP2ReadList(t *testing.T) {
	full := "0" + strings.Repeat(",0", maxList-1)
	for _, c := range []struct {
		s    string
		want []int64
	}{
		{"-", nil}, {"0", []int64{0}}, {"-7", []int64{-7}}, {"3,0,-1", []int64{3, 0, -1}},
		{"1000000000000,-1000000000000", []int64{maxValue, -maxValue}}, {full, make([]int64, maxList)},
	} {
		if got, ok := impl.ReadList(c.s); !slices.Equal(got, c.want) || !ok {
			t.Errorf("ReadList(%q): got %v %v, want %v", c.s, got, ok, c.want)
		}
	}
	for _, s := range []string{
		"", ",", "1,", ",1", "1,,2", "--", "-,1", "1,-", "-,-", "01", "1,-0", "+1", "1, 2", " 1", "1 ", "- ", " -", "1;2", "a",
		"1000000000001", "-1000000000001", "1,1000000000001", "-1000000000001,1", "1000000000000000000",
		full + ",0", full + ",", full + ",a", strings.Repeat("0,", 10000), strings.Repeat(",", maxList), strings.Repeat(",", maxList-1),
	} {
		if got, ok := impl.ReadList(s); got != nil || ok {
			t.Errorf("ReadList(%q): got %v %v, want none", s, got, ok)
		}
	}
}

// TestP2ListReadBack: every list that has a text is read back from it, and no other text is.
func TestP2ListReadBack(t *testing.T) {
	random := rand.New(rand.NewSource(1))
	for size := 0; size <= maxList; size++ {
		list := make([]int64, size)
		for i := range list {
			list[i] = random.Int63n(2*maxValue+1) - maxValue
			if i%7 == 0 {
				list[i] = []int64{-maxValue, maxValue, 0, -1}[random.Intn(4)]
			}
		}
		got, ok := impl.ReadList(impl.ListText(list))
		if !ok || !slices.Equal(got, list) {
			t.Errorf("ReadList(ListText(%v)): got %v %v", list, got, ok)
		}
	}
	for _, s := range edgeTexts {
		if list, ok := impl.ReadList(s); ok && impl.ListText(list) != s {
			t.Errorf("ReadList(%q): got %v, whose text is %q", s, list, impl.ListText(list))
		}
	}
}

func TestP2Crc16(t *testing.T) {
	for _, c := range []struct {
		s           string
		start, want int64
	}{
		{"123456789", 65535, 10673}, {"123456789", 0, 12739}, {"", 65535, 65535}, {"", 0, 0}, {"", 1, 1},
		{"\x00", 0, 0}, {"\x01", 0, 4129}, {"\x80", 0, 37256}, {"\xff", 65535, 65280}, {"\x00", 1, 256}, {"A", 65535, 47381},
		{"", -1, 0}, {"", 65536, 0}, {"a", -1, 0}, {"a", 65536, 0}, {"a", 131071, 0}, {"a", math.MinInt64, 0}, {"a", math.MaxInt64, 0},
	} {
		if got := impl.Crc16(c.s, c.start); got != c.want {
			t.Errorf("Crc16(%q, %d): got %d, want %d", c.s, c.start, got, c.want)
		}
	}
}

// TestP2Crc16Parts: the check value of a text goes on from that of its beginning, and
// every text of one byte has a value of its own.
func TestP2Crc16Parts(t *testing.T) {
	text := "set a small 5000/4500/600\n\x00\xff"
	for i := range len(text) + 1 {
		for _, start := range []int64{0, 1, 32767, 32768, 65535} {
			first := impl.Crc16(text[:i], start)
			if first < 0 || first > 65535 {
				t.Errorf("Crc16(%q, %d): got %d", text[:i], start, first)
			}
			if got, want := impl.Crc16(text[i:], first), impl.Crc16(text, start); got != want {
				t.Errorf("Crc16 in parts at %d: got %d, want %d", i, got, want)
			}
		}
	}
	seen := map[int64]bool{}
	for b := range 256 {
		seen[impl.Crc16(string([]byte{byte(b)}), impl.CrcStart)] = true
	}
	if len(seen) != 256 {
		t.Errorf("Crc16: %d values of 256 bytes", len(seen))
	}
}

func isRoot(n, r int64) bool {
	if n < 0 {
		return r == 0
	}
	low, high := big.NewInt(r), big.NewInt(r+1)
	low.Mul(low, low)
	high.Mul(high, high)
	return r >= 0 && low.Cmp(big.NewInt(n)) <= 0 && high.Cmp(big.NewInt(n)) > 0
}

func TestP2RootOf(t *testing.T) {
	for _, c := range []struct{ n, want int64 }{
		{0, 0}, {1, 1}, {2, 1}, {3, 1}, {4, 2}, {8, 2}, {9, 3}, {15, 3}, {16, 4}, {17, 4},
		{-1, 0}, {-4, 0}, {math.MinInt64, 0}, {math.MaxInt64, 3037000499},
		{3037000499 * 3037000499, 3037000499}, {3037000499*3037000499 - 1, 3037000498},
		{1 << 62, 1 << 31}, {1<<62 - 1, 1<<31 - 1}, {maxValue, 1000000},
	} {
		if got := impl.RootOf(c.n); got != c.want {
			t.Errorf("RootOf(%d): got %d, want %d", c.n, got, c.want)
		}
	}
}

// TestP2RootsAreRoundedDown looks at all small numbers and at those beside great squares and powers of two.
func TestP2RootsAreRoundedDown(t *testing.T) {
	numbers := slices.Clone(edgeNumbers)
	for n := int64(0); n < 5000; n++ {
		numbers = append(numbers, n)
	}
	for r := int64(2); r <= 3037000499; r = r*3/2 + 1 {
		numbers = append(numbers, r*r-1, r*r, r*r+1)
	}
	for k := range 63 {
		numbers = append(numbers, 1<<k-1, 1<<k, 1<<k+1)
	}
	random := rand.New(rand.NewSource(2))
	for range 5000 {
		numbers = append(numbers, random.Int63()>>random.Intn(60))
	}
	for _, n := range numbers {
		if r := impl.RootOf(n); !isRoot(n, r) {
			t.Errorf("RootOf(%d): got %d", n, r)
		}
	}
}

func TestP2DivRound(t *testing.T) {
	for _, c := range []struct{ a, b, want int64 }{
		{-5, 2, -3}, // the example of the chapter
		{5, 2, 3}, {5, -2, -3}, {-5, -2, 3}, {1, 2, 1}, {-1, 2, -1}, {1, -2, -1}, {-1, -2, 1},
		{3, 2, 2}, {-3, 2, -2}, {4, 3, 1}, {5, 3, 2}, {-4, 3, -1}, {-5, 3, -2}, {1, 3, 0}, {-1, 3, 0}, {2, 3, 1}, {-2, 3, -1},
		{1, 4, 0}, {2, 4, 1}, {-2, 4, -1}, {6, 4, 2}, {6, 3, 2}, {-6, 3, -2}, {0, 5, 0}, {0, -5, 0},
		{7, 0, 0}, {-7, 0, 0}, {0, 0, 0}, {maxValue, 0, 0},
		{maxValue, 1, maxValue}, {-maxValue, 1, -maxValue}, {maxValue, -1, -maxValue}, {maxValue, maxValue, 1},
		{maxValue - 1, maxValue, 1}, {500000000000, maxValue, 1}, {-500000000000, maxValue, -1}, {499999999999, maxValue, 0}, {-499999999999, maxValue, 0},
		{maxValue + 1, 2, 0}, {-maxValue - 1, 2, 0}, {2, maxValue + 1, 0}, {maxValue, maxValue + 1, 0}, {maxValue, -maxValue - 1, 0},
		{maxValue + 1, maxValue + 1, 0}, {math.MinInt64, 1, 0}, {1, math.MinInt64, 0}, {math.MinInt64, -1, 0},
		{math.MinInt64, math.MinInt64, 0}, {math.MaxInt64, math.MaxInt64, 0},
	} {
		if got := impl.DivRound(c.a, c.b); got != c.want {
			t.Errorf("DivRound(%d, %d): got %d, want %d", c.a, c.b, got, c.want)
		}
	}
}

// isNearest reports whether q is the integer nearest to a / b, the one farther from 0 of two: |a - qb| is
// at most |b| / 2, and with a half, q is beyond a / b.
func isNearest(a, b, q int64) bool {
	rest := new(big.Int).Mul(big.NewInt(q), big.NewInt(b))
	product := new(big.Int).Set(rest)
	rest.Sub(big.NewInt(a), rest)
	twice := rest.Abs(rest)
	twice.Lsh(twice, 1)
	switch twice.CmpAbs(big.NewInt(b)) {
	case -1:
		return true
	case 0:
		return product.CmpAbs(big.NewInt(a)) > 0
	}
	return false
}

func TestP2QuotientsAreNearest(t *testing.T) {
	for a := int64(-60); a <= 60; a++ {
		for b := int64(-20); b <= 20; b++ {
			if q := impl.DivRound(a, b); b != 0 && !isNearest(a, b, q) || b == 0 && q != 0 {
				t.Errorf("DivRound(%d, %d): got %d", a, b, q)
			}
		}
	}
	random := rand.New(rand.NewSource(3))
	number := func() int64 {
		return (random.Int63n(2*maxValue+1) - maxValue) >> random.Intn(40)
	}
	for range 20000 {
		a, b := number(), number()
		if random.Intn(3) == 0 && b%2 == 0 && b != 0 {
			a = b/2 + b*random.Int63n(maxValue/max(b, -b)) // a half
		}
		if q := impl.DivRound(a, b); b != 0 && !isNearest(a, b, q) || b == 0 && q != 0 {
			t.Errorf("DivRound(%d, %d): got %d", a, b, q)
		}
	}
}

func TestP2Blend(t *testing.T) {
	for _, c := range []struct{ x0, y0, x1, y1, x, want int64 }{
		{0, 10, 4, 20, 1, 13}, // the example of the chapter
		{0, 10, 4, 20, 0, 10}, {0, 10, 4, 20, -1, 10}, {0, 10, 4, 20, 2, 15}, {0, 10, 4, 20, 3, 18}, {0, 10, 4, 20, 4, 20}, {0, 10, 4, 20, 9, 20},
		{0, 10, 4, 20, math.MinInt64, 10}, {0, 10, 4, 20, math.MaxInt64, 20}, {0, 20, 4, 10, 1, 17}, {0, 20, 4, 10, 3, 12},
		{0, 0, 4, -6, 1, -2}, {0, 0, 2, -1, 1, -1}, {0, 0, 2, 1, 1, 1}, {-4, -1, -2, 0, -3, 0}, {-4, 1, -2, 0, -3, 0},
		{4, 10, 4, 20, 3, 10}, {4, 10, 4, 20, 4, 10}, {4, 10, 4, 20, 9, 10}, {5, 10, 4, 20, 9, 10}, {5, 10, 4, 20, math.MaxInt64, 10}, {5, 10, 4, 20, math.MinInt64, 10},
		// the product is greater than MaxValue here
		{-1000000, -1000000, 1000000, 1000000, 999999, 999999}, {-1000000, 1000000, 1000000, -1000000, 999999, -999999},
		{-1000000, -1000000, 1000000, 1000000, 0, 0}, {-1000000, -1000000, 1000000, 1000000, 1000000, 1000000},
		{-1000000, 0, 1000000, 1000000, 999999, 1000000}, {-1000000, 0, 1000000, 1000000, 999997, 999999},
		{0, 10, 1000000, 20, 2000000, 20}, {-1000000, 10, 0, 20, -2000000, 10},
		{-1000001, 10, 4, 20, 1, 0}, {0, -1000001, 4, 20, 1, 0}, {0, 10, 1000001, 20, 5, 0}, {0, 10, 4, 1000001, 1, 0},
		{1000001, 10, 4, 20, 1, 0}, {0, 1000001, 4, 20, 1, 0}, {0, 10, -1000001, 20, 1, 0}, {0, 10, 4, -1000001, 1, 0},
		{0, 1000001, 4, 20, -1, 0}, {4, 1000001, 4, 20, 9, 0}, {0, 10, 4, 1000001, 9, 0}, {math.MinInt64, 1, 0, 2, math.MinInt64, 0},
		{math.MinInt64, math.MinInt64, math.MaxInt64, math.MaxInt64, 0, 0},
	} {
		if got := impl.Blend(c.x0, c.y0, c.x1, c.y1, c.x); got != c.want {
			t.Errorf("Blend(%d, %d, %d, %d, %d): got %d, want %d", c.x0, c.y0, c.x1, c.y1, c.x, got, c.want)
		}
	}
}

func TestP2BlendIsNearest(t *testing.T) {
	random := rand.New(rand.NewSource(4))
	for range 20000 {
		number := func() int64 { return (random.Int63n(2000001) - 1000000) >> random.Intn(18) }
		x0, y0, x1, y1 := number(), number(), number(), number()
		if x1-x0 < 2 {
			continue
		}
		x := x0 + 1 + random.Int63n(x1-x0-1)
		got := impl.Blend(x0, y0, x1, y1, x)
		if !isNearest((y1-y0)*(x-x0), x1-x0, got-y0) {
			t.Errorf("Blend(%d, %d, %d, %d, %d): got %d", x0, y0, x1, y1, x, got)
		}
	}
}

// basicsResults has the results of all functions of the chapter for the ends of all ranges.
func basicsResults() []any {
	var all []any
	for _, n := range edgeNumbers {
		all = append(all, impl.CodeName(n), impl.Decimal(n), impl.RootOf(n), impl.ListText([]int64{n}))
		for _, m := range edgeNumbers {
			all = append(all, impl.DivRound(n, m), impl.ListText([]int64{n, m}))
			all = append(all, impl.Blend(n, m, m, n, 0), impl.Blend(0, n, 5, m, 2), impl.Blend(-m, 1, n, 2, m), impl.Blend(n, 1, n, 2, m))
		}
		for _, s := range edgeTexts {
			all = append(all, impl.Crc16(s, n))
		}
	}
	for _, s := range edgeTexts {
		n, isNumber := impl.ReadDecimal(s)
		list, isList := impl.ReadList(s)
		all = append(all, impl.IsName(s), n, isNumber, impl.ListText(list), isList, strings.Join(impl.SplitWords(s), "/"))
	}
	return all
}

// TestP1BasicsReturn: every function returns for all arguments, and the same again.
func TestP1BasicsReturn(t *testing.T) {
	first := basicsResults()
	if again := basicsResults(); !slices.Equal(first, again) {
		t.Error("other results for equal arguments")
	}
}

// TestP1ListTextKeepsItsArgument: neither the list nor the capacity behind it is modified.
func TestP1ListTextKeepsItsArgument(t *testing.T) {
	for size := range maxList + 2 {
		whole := make([]int64, maxList+4)
		for i := range whole {
			whole[i] = int64(7 * i)
		}
		before := slices.Clone(whole)
		first := impl.ListText(whole[:size])
		if !slices.Equal(whole, before) {
			t.Fatalf("ListText of %d numbers: the list is now %v", size, whole)
		}
		if again := impl.ListText(slices.Clone(whole[:size])); again != first {
			t.Errorf("ListText of %d numbers: %q and %q", size, first, again)
		}
	}
}

// TestP1ResultsAreNew: a result that is overwritten, with the capacity behind it, changes no later result.
func TestP1ResultsAreNew(t *testing.T) {
	for _, s := range []string{"-", "1", "3,0,-1"} {
		list, _ := impl.ReadList(s)
		want := slices.Clone(list)
		for i := range list[:cap(list)] {
			list[:cap(list)][i] = 99
		}
		if again, ok := impl.ReadList(s); !ok || !slices.Equal(again, want) {
			t.Errorf("ReadList(%q): got %v, then %v", s, want, again)
		}
	}
	words := impl.SplitWords("a bc d")
	for i := range words[:cap(words)] {
		words[:cap(words)][i] = "x"
	}
	if again := impl.SplitWords("a bc d"); !slices.Equal(again, []string{"a", "bc", "d"}) {
		t.Errorf("SplitWords: got %q", again)
	}
}
