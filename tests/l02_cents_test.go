package tests

import (
	"math"
	"math/big"
	"math/rand"
	"os"
	"os/exec"
	"slices"
	"strconv"
	"strings"
	"sync"
	"testing"

	"loop.example/g00952/impl"
)

// The expected values of this file are written out from chapter 2, not from the
// constants of impl, so that a changed constant fails too.
const (
	minHertz  = 10000
	maxHertz  = 20000000
	octave    = 12000
	mostCents = 120000

	codeOK      = 0
	codeInvalid = 1
	codeRange   = 2
	codeMissing = 3
	codeFull    = 5
	codeState   = 6
)

// edgeFrequencies has numbers at the ends of the range of frequencies, inside of it and beyond it.
var edgeFrequencies = []int64{
	math.MinInt64, -440000, -1, 0, 1, 9999, 10000, 10001, 16383, 16384, 16385, 19999, 20000, 20001,
	261626, 439999, 440000, 440001, 879999, 880000, 880001, 9999999, 10000000, 10000001, 10240000,
	16777215, 16777216, 16777217, 19999999, 20000000, 20000001, 1000000000000, math.MaxInt64,
}

// noFrequencies has the numbers nearest to the range, and the farthest ones.
var noFrequencies = []int64{math.MinInt64, -440000, -1, 0, 9999, 20000001, math.MaxInt64}

var edgeIntervals = []int64{
	math.MinInt64, -120001, -120000, -119999, -12001, -12000, -11999, -1, 0, 1, 11999, 12000, 12001, 119999, 120000, 120001, math.MaxInt64,
}

var pointedTexts = []string{
	"440.050", "440.05", "10.000", "9.999", "20000.000", "20000.001", "440", "440.", ".050", ".", "..",
	"+12.5", "-0.5", "-0.0", "+0.0", "+12000.0", "+12000.1", "-12000.0", "-12000.1", "12.5", "+.5", "+", "-.",
}

func isFrequency(f int64) bool { return f >= minHertz && f <= maxHertz }

// randomFrequency returns a frequency whose logarithm is anywhere in the range.
func randomFrequency(random *rand.Rand) int64 {
	f := int64(minHertz * math.Pow(maxHertz/minHertz, random.Float64()))
	return min(max(f, minHertz), maxHertz)
}

// logModel computes FineLog with big integers, as the chapter writes it.
func logModel(n int64) int64 {
	exponent := uint(0)
	for n>>exponent > 1 {
		exponent++
	}
	x := new(big.Int).Lsh(big.NewInt(n), 30)
	x.Rsh(x, exponent)
	limit := new(big.Int).Lsh(big.NewInt(1), 31)
	r := int64(0)
	for range 24 {
		x.Mul(x, x)
		x.Rsh(x, 30)
		r = 2 * r
		if x.Cmp(limit) >= 0 {
			x.Rsh(x, 1)
			r++
		}
	}
	return int64(exponent)<<24 + r
}

// targetModel returns the logarithm that a raised frequency must reach.
func targetModel(f, tenths int64) int64 {
	product := new(big.Int).Lsh(big.NewInt(tenths), 24)
	quotient, rest := new(big.Int).DivMod(product, big.NewInt(octave), new(big.Int))
	if rest.Sign() > 0 {
		quotient.Add(quotient, big.NewInt(1))
	}
	return logModel(f) + quotient.Int64()
}

func TestP3Constants(t *testing.T) {
	got := []int64{impl.MinHertz, impl.MaxHertz, impl.Octave, impl.MostCents}
	if want := []int64{10000, 20000000, 12000, 120000}; !slices.Equal(got, want) {
		t.Errorf("constants: got %v, want %v", got, want)
	}
}

func TestP3IsFrequency(t *testing.T) {
	for _, f := range []int64{10000, 10001, 440000, 19999999, 20000000} {
		if !impl.IsFrequency(f) {
			t.Errorf("IsFrequency(%d): got false", f)
		}
	}
	for _, f := range noFrequencies {
		if impl.IsFrequency(f) {
			t.Errorf("IsFrequency(%d): got true", f)
		}
	}
}

func TestP3Logarithms(t *testing.T) {
	for _, c := range []struct{ n, fine, tenths int64 }{
		{1, 0, 0}, {2, 16777216, 12000}, {3, 26591258, 19019}, {4, 33554432, 24000}, {5, 38955489, 27863},
		{7, 47099599, 33688}, {8, 50331648, 36000}, {10, 55732705, 39863}, {1000, 167198115, 119589},
		{9999, 222928400, 159450}, {10000, 222930820, 159452}, {440000, 314524884, 224965}, {20000000, 406906152, 291041},
		{1<<30 - 1, 503316479, 359999}, {1 << 30, 503316480, 360000}, {1<<30 + 1, 503316480, 360000},
		{1<<31 - 1, 520093695, 371999}, {1 << 31, 520093696, 372000}, {1<<31 + 1, 520093696, 372000},
		{1<<39 - 1, 654311423, 467999}, {1 << 39, 654311424, 468000}, {1<<39 + 1, 654311424, 468000},
		{maxValue - 1, 668792462, 478357}, {maxValue, 668792462, 478357},
		// the first square is exactly 2^31, after rounding down
		{1518500250, 511705088, 366000}, {759250125, 494927872, 354000}, {1518500249, 511705087, 365999},
	} {
		if got, code := impl.FineLog(c.n); got != c.fine || code != codeOK {
			t.Errorf("FineLog(%d): got %d %d, want %d", c.n, got, code, c.fine)
		}
		if got, code := impl.LogTenths(c.n); got != c.tenths || code != codeOK {
			t.Errorf("LogTenths(%d): got %d %d, want %d", c.n, got, code, c.tenths)
		}
	}
	for _, n := range []int64{math.MinInt64, -maxValue, -8, -1, 0, maxValue + 1, 1 << 40, 1 << 62, math.MaxInt64} {
		if got, code := impl.FineLog(n); got != 0 || code != codeRange {
			t.Errorf("FineLog(%d): got %d %d, want an error", n, got, code)
		}
		if got, code := impl.LogTenths(n); got != 0 || code != codeRange {
			t.Errorf("LogTenths(%d): got %d %d, want an error", n, got, code)
		}
	}
}

// logarithmNumbers has small numbers, powers of two with their neighbours, and others of all sizes.
func logarithmNumbers() []int64 {
	numbers := []int64{maxValue - 1, maxValue}
	for n := int64(1); n <= 3000; n++ {
		numbers = append(numbers, n)
	}
	for k := 2; k < 40; k++ {
		numbers = append(numbers, 1<<k-1, 1<<k, 1<<k+1)
	}
	random := rand.New(rand.NewSource(5))
	for range 20000 {
		numbers = append(numbers, 1+random.Int63n(maxValue)>>random.Intn(36))
	}
	return numbers
}

// TestP3LogarithmsAreRoundedDown compares all roundings with those that the chapter describes,
// and the results with the logarithms of floating point.
func TestP3LogarithmsAreRoundedDown(t *testing.T) {
	for _, n := range logarithmNumbers() {
		fine, fineCode := impl.FineLog(n)
		tenths, code := impl.LogTenths(n)
		if want := logModel(n); fine != want || fineCode != codeOK || tenths != 12000*want/(1<<24) || code != codeOK {
			t.Fatalf("logarithms of %d: got %d %d and %d %d, want %d", n, fine, fineCode, tenths, code, want)
		}
		if above := math.Log2(float64(n))*(1<<24) - float64(fine); above < -0.001 || above > 1.2 {
			t.Errorf("FineLog(%d): got %d, which is %f too low", n, fine, above)
		}
	}
}

func TestP3LogarithmsNeverDecrease(t *testing.T) {
	numbers := logarithmNumbers()
	slices.Sort(numbers)
	before := int64(-1)
	for _, n := range numbers {
		fine, _ := impl.FineLog(n)
		if fine < before {
			t.Errorf("FineLog(%d): got %d, after %d", n, fine, before)
		}
		before = fine
	}
}

// TestP3PowersOfTwoAddTheirExponents: doubling adds one octave exactly.
func TestP3PowersOfTwoAddTheirExponents(t *testing.T) {
	for _, n := range []int64{1, 3, 5, 999, 10007, 440000, 1<<20 - 1} {
		first, _ := impl.FineLog(n)
		for k := int64(0); n<<k <= maxValue; k++ {
			fine, code := impl.FineLog(n << k)
			if fine != first+k<<24 || code != codeOK {
				t.Errorf("FineLog(%d): got %d %d, want %d", n<<k, fine, code, first+k<<24)
			}
		}
	}
}

func TestP3CentsBetween(t *testing.T) {
	for _, c := range []struct{ f, g, want int64 }{
		{440000, 880000, 12000}, // the example of the chapter
		{880000, 440000, -12000}, {440000, 440000, 0}, {440000, 660000, 7020}, {660000, 440000, -7020},
		{440000, 440001, 0}, {440000, 439999, 0}, {261626, 440000, 9000}, {10000, 10001, 2}, {10001, 10000, -2},
		{10000, 20000000, 131589}, {20000000, 10000, -131589}, {10000, 10000, 0}, {20000000, 20000000, 0}, {19999999, 20000000, 0},
	} {
		if got, code := impl.CentsBetween(c.f, c.g); got != c.want || code != codeOK {
			t.Errorf("CentsBetween(%d, %d): got %d %d, want %d", c.f, c.g, got, code, c.want)
		}
	}
}

// TestP3IntervalsAddUp: the interval over a third frequency is that of both steps, and the way back is its negative.
func TestP3IntervalsAddUp(t *testing.T) {
	random := rand.New(rand.NewSource(6))
	frequencies := []int64{10000, 10001, 16383, 16384, 16385, 440000, 880000, 16777215, 16777216, 16777217, 19999999, 20000000}
	for range 30 {
		frequencies = append(frequencies, randomFrequency(random))
	}
	between := func(f, g int64) int64 {
		tenths, code := impl.CentsBetween(f, g)
		if code != codeOK || tenths != 12000*logModel(g)>>24-12000*logModel(f)>>24 {
			t.Errorf("CentsBetween(%d, %d): got %d %d", f, g, tenths, code)
		}
		return tenths
	}
	for _, f := range frequencies {
		for _, g := range frequencies {
			if between(f, g) != -between(g, f) {
				t.Errorf("CentsBetween(%d, %d) is not the negative of the way back", f, g)
			}
			h := frequencies[random.Intn(len(frequencies))]
			if between(f, g)+between(g, h) != between(f, h) {
				t.Errorf("CentsBetween: the intervals of %d, %d and %d do not add up", f, g, h)
			}
		}
	}
}

func TestP3Raise(t *testing.T) {
	for _, c := range []struct{ f, tenths, want int64 }{
		{440000, 12000, 880000}, {440000, -12000, 220000}, {440000, 0, 440000}, {440000, 1, 440026}, {440000, -1, 439975},
		{440000, 500, 452893}, {440000, 7000, 659256}, {440000, -7000, 293665}, {440000, 7020, 660018},
		{440000, 11999, 879950}, {440000, 12001, 880051},
		{10000, 0, 10000}, {10000, 1, 10001}, {20000000, 0, 20000000}, {20000000, -1, 19998845},
		{10000, 120000, 10240000}, {10240000, -120000, 10000}, {20000000, -120000, 19532},
		{10000000, 12000, 20000000}, {20000, -12000, 10000}, {19988450, 10, 20000000},
	} {
		if got, code := impl.Raise(c.f, c.tenths); got != c.want || code != codeOK {
			t.Errorf("Raise(%d, %d): got %d %d, want %d", c.f, c.tenths, got, code, c.want)
		}
	}
}

func TestP3RaiseErrors(t *testing.T) {
	for _, c := range []struct{ f, tenths int64 }{
		// beyond the ends of the range
		{10000, -1}, {10000, -12000}, {20000000, 1}, {20000000, 120000}, {10000000, 12001}, {20000, -12001}, {19988452, 10},
		{19999, -12000}, {10000001, 12000}, {19532, 120000}, {10239999, -120000},
		// more than MostCents, although there are frequencies at these intervals
		{10000, 120001}, {20000000, -120001}, {440000, 120001}, {440000, -120001}, {440000, math.MaxInt64}, {440000, math.MinInt64},
	} {
		if got, code := impl.Raise(c.f, c.tenths); got != 0 || code != codeRange {
			t.Errorf("Raise(%d, %d): got %d %d, want an error", c.f, c.tenths, got, code)
		}
	}
	for _, f := range noFrequencies {
		for _, tenths := range []int64{0, 1, -1, 12000, 120001} {
			if got, code := impl.Raise(f, tenths); got != 0 || code != codeRange {
				t.Errorf("Raise(%d, %d): got %d %d, want an error", f, tenths, got, code)
			}
		}
	}
}

// checkRaised holds a raised frequency against the logarithm that it must be the first to reach.
func checkRaised(t *testing.T, f, tenths int64) {
	t.Helper()
	got, code := impl.Raise(f, tenths)
	target := targetModel(f, tenths)
	if target < logModel(minHertz) || target > logModel(maxHertz) {
		if got != 0 || code != codeRange {
			t.Errorf("Raise(%d, %d): got %d %d, want an error", f, tenths, got, code)
		}
		return
	}
	if code != codeOK || !isFrequency(got) || logModel(got) < target {
		t.Errorf("Raise(%d, %d): got %d %d, which is too low", f, tenths, got, code)
	}
	if got > minHertz && logModel(got-1) >= target {
		t.Errorf("Raise(%d, %d): got %d, which is not the least one", f, tenths, got)
	}
}

func TestP3RaisedFrequenciesAreLeast(t *testing.T) {
	for _, f := range edgeFrequencies {
		for _, tenths := range edgeIntervals {
			if isFrequency(f) && tenths >= -mostCents && tenths <= mostCents {
				checkRaised(t, f, tenths)
			}
		}
	}
	random := rand.New(rand.NewSource(7))
	for range 3000 {
		checkRaised(t, randomFrequency(random), (random.Int63n(2*mostCents+1)-mostCents)>>random.Intn(16))
	}
}

// TestP3RaisingAtTheEnds goes over both ends of the range in steps of a tenth of a cent.
func TestP3RaisingAtTheEnds(t *testing.T) {
	for tenths := int64(-30); tenths <= 30; tenths++ {
		checkRaised(t, minHertz+10, tenths)
		checkRaised(t, maxHertz-10000, tenths)
		checkRaised(t, 20000, tenths-octave)
		checkRaised(t, 10000000, tenths+octave)
	}
}

func TestP3RatioFrequency(t *testing.T) {
	for _, c := range []struct{ f, num, den, want int64 }{
		{440000, 3, 2, 660000}, {440000, 2, 3, 293333}, {440000, 1, 3, 146667}, {440000, 1, 1, 440000}, {440001, 1, 2, 220001}, {440001, 3, 2, 660002},
		{20000000, 1000, 1000, 20000000}, {20000000, 1, 1000, 20000}, {10000, 1000, 1, 10000000}, {20000, 1000, 1, 20000000},
		{10000, 1, 1, 10000}, {20000, 1, 2, 10000}, {19999, 1, 2, 10000}, {20000000, 999, 1000, 19980000}, {10000, 1000, 999, 10010},
	} {
		if got, code := impl.RatioFrequency(c.f, c.num, c.den); got != c.want || code != codeOK {
			t.Errorf("RatioFrequency(%d, %d, %d): got %d %d, want %d", c.f, c.num, c.den, got, code, c.want)
		}
	}
	for _, c := range [][3]int64{
		{440000, 0, 1}, {440000, 1, 0}, {440000, 1001, 1000}, {440000, 1000, 1001}, {440000, -1, 1}, {440000, 1, -1}, {440000, -3, -2},
		{440000, math.MaxInt64, math.MaxInt64}, {440000, math.MinInt64, math.MinInt64}, {440000, 1001, 1001},
		{9999, 2, 1}, {20000001, 1, 2}, {9999, 1, 1}, {-440000, 1, 1}, {0, 1, 1}, {math.MaxInt64, 1, 1000}, {math.MinInt64, 1, 1000},
		{19998, 1, 2}, {10000, 999, 1000}, {20000000, 1000, 999}, {20000000, 1000, 1}, {10000, 1, 1000}, {10000001, 2, 1},
		{10005, 999, 1000}, {19998, 1, 2}, {20000001, 1000, 1000}, {9999, 1000, 999},
	} {
		if got, code := impl.RatioFrequency(c[0], c[1], c[2]); got != 0 || code != codeRange {
			t.Errorf("RatioFrequency(%v): got %d %d, want an error", c, got, code)
		}
	}
}

func TestP3Beats(t *testing.T) {
	for _, c := range []struct{ f, g, beat, time int64 }{
		{440000, 441500, 1500, 667}, {440000, 440001, 1, 1000000}, {440000, 440002, 2, 500000}, {440000, 440003, 3, 333333},
		{440000, 440006, 6, 166667}, {440000, 441000, 1000, 1000}, {10000, 1010000, 1000000, 1}, {10000, 2010000, 2000000, 1},
		{10000, 2010001, 2000001, 0}, {10000, 20000000, 19990000, 0}, {440000, 440064, 64, 15625}, {440000, 440128, 128, 7813},
	} {
		for _, pair := range [][2]int64{{c.f, c.g}, {c.g, c.f}} {
			if got, code := impl.Beat(pair[0], pair[1]); got != c.beat || code != codeOK {
				t.Errorf("Beat(%v): got %d %d, want %d", pair, got, code, c.beat)
			}
			if got, code := impl.BeatTime(pair[0], pair[1]); got != c.time || code != codeOK {
				t.Errorf("BeatTime(%v): got %d %d, want %d", pair, got, code, c.time)
			}
		}
	}
	for _, f := range []int64{10000, 440000, 20000000} {
		if got, code := impl.Beat(f, f); got != 0 || code != codeOK {
			t.Errorf("Beat of equal frequencies %d: got %d %d, want 0", f, got, code)
		}
		if got, code := impl.BeatTime(f, f); got != 0 || code != codeState {
			t.Errorf("BeatTime of equal frequencies %d: got %d %d, want an error", f, got, code)
		}
	}
}

func TestP3BeatsAreTheSameInBothOrders(t *testing.T) {
	for _, f := range edgeFrequencies {
		for _, g := range edgeFrequencies {
			beat, code := impl.Beat(f, g)
			back, backCode := impl.Beat(g, f)
			time, timeCode := impl.BeatTime(f, g)
			timeBack, timeBackCode := impl.BeatTime(g, f)
			if beat != back || code != backCode || time != timeBack || timeCode != timeBackCode {
				t.Errorf("beats of %d and %d: %d %d and %d %d, times %d %d and %d %d", f, g, beat, code, back, backCode, time, timeCode, timeBack, timeBackCode)
			}
			want, wantCode := max(f, g)-min(f, g), int64(codeOK)
			if !isFrequency(f) || !isFrequency(g) {
				want, wantCode = 0, codeRange
			}
			if beat != want || code != wantCode {
				t.Errorf("Beat(%d, %d): got %d %d, want %d %d", f, g, beat, code, want, wantCode)
			}
			if wantCode == codeRange && (time != 0 || timeCode != codeRange) {
				t.Errorf("BeatTime(%d, %d): got %d %d, want an error", f, g, time, timeCode)
			}
		}
	}
}

// TestP3FrequenciesAreChecked: CentsBetween tells an argument that is no frequency, on either side.
func TestP3FrequenciesAreChecked(t *testing.T) {
	for _, f := range noFrequencies {
		for _, g := range []int64{10000, 440000, 20000000, f} {
			for _, pair := range [][2]int64{{f, g}, {g, f}} {
				if got, code := impl.CentsBetween(pair[0], pair[1]); got != 0 || code != codeRange {
					t.Errorf("CentsBetween(%v): got %d %d, want an error", pair, got, code)
				}
			}
		}
	}
}

func TestP3MeanFrequency(t *testing.T) {
	many := slices.Repeat([]int64{20000000}, maxList+1)
	mixed := slices.Clone(many)
	mixed[maxList] = 20000001
	first := slices.Clone(many)
	first[0] = 9999
	for _, c := range []struct {
		list       []int64
		want, code int64
	}{
		{[]int64{440000}, 440000, codeOK}, {[]int64{440000, 441001}, 440501, codeOK}, {[]int64{440000, 441000, 440000}, 440333, codeOK},
		{[]int64{10000, 10000, 10001}, 10000, codeOK}, {[]int64{10000, 10001, 10001}, 10001, codeOK}, {[]int64{20000000, 10000}, 10005000, codeOK},
		{[]int64{10000}, 10000, codeOK}, {many[:maxList], 20000000, codeOK}, {many[:maxList-1], 20000000, codeOK},
		{many, 0, codeFull}, {slices.Repeat(many, 5), 0, codeFull}, {nil, 0, codeState}, {[]int64{}, 0, codeState},
		{mixed, 0, codeRange}, {first, 0, codeRange}, {mixed[1:], 0, codeRange},
		{[]int64{9999}, 0, codeRange}, {[]int64{20000001}, 0, codeRange}, {[]int64{440000, 9999}, 0, codeRange}, {[]int64{20000001, 440000}, 0, codeRange},
		{[]int64{math.MaxInt64, math.MaxInt64}, 0, codeRange}, {[]int64{math.MinInt64}, 0, codeRange}, {[]int64{0, 20000000}, 0, codeRange},
	} {
		if got, code := impl.MeanFrequency(c.list); got != c.want || code != c.code {
			t.Errorf("MeanFrequency(%v): got %d %d, want %d %d", c.list, got, code, c.want, c.code)
		}
	}
}

func TestP3ReduceOctave(t *testing.T) {
	for _, c := range []struct{ f, base, want, by int64 }{
		{1760000, 440000, 440000, 2}, {110000, 440000, 440000, -2}, {440000, 440000, 440000, 0}, {879999, 440000, 879999, 0},
		{880000, 440000, 440000, 1}, {880001, 440000, 440000, 1}, {880003, 440000, 440001, 1}, {439999, 440000, 879998, -1}, {1759999, 440000, 879999, 1},
		{20000000, 10000, 19531, 10}, {10000, 10000000, 10240000, -10}, {10000, 10240000, 10240000, -10}, {10000, 10000, 10000, 0},
		{20000000, 20000000, 20000000, 0}, {10000000, 20000000, 20000000, -1}, {10000000, 10000001, 20000000, -1}, {20000, 10000, 10000, 1}, {19999, 10000, 19999, 0},
		{20000000, 10000000, 10000000, 1}, {20000000, 10000001, 20000000, 0}, {39062, 10000, 19531, 1},
	} {
		if got, by, code := impl.ReduceOctave(c.f, c.base); got != c.want || by != c.by || code != codeOK {
			t.Errorf("ReduceOctave(%d, %d): got %d %d %d, want %d %d", c.f, c.base, got, by, code, c.want, c.by)
		}
	}
	for _, c := range [][2]int64{
		{10000001, 10000002}, {10000, 20000000}, {19999999, 20000000}, {12000000, 13000000}, {10001, 10242000},
		{9999, 10000}, {10000, 9999}, {20000001, 10000}, {10000, 20000001}, {0, 10000}, {10000, 0}, {-1, 10000}, {10000, -1}, {0, 0},
		{math.MaxInt64, 10000}, {10000, math.MaxInt64}, {math.MinInt64, 10000}, {10000, math.MinInt64}, {math.MaxInt64, math.MaxInt64},
	} {
		if got, by, code := impl.ReduceOctave(c[0], c[1]); got != 0 || by != 0 || code != codeRange {
			t.Errorf("ReduceOctave(%v): got %d %d %d, want an error", c, got, by, code)
		}
	}
}

// TestP3ReducedFrequenciesAreInTheOctave also raises and lowers each one again by hand.
func TestP3ReducedFrequenciesAreInTheOctave(t *testing.T) {
	random := rand.New(rand.NewSource(8))
	for range 5000 {
		f, base := randomFrequency(random), randomFrequency(random)
		got, by, code := impl.ReduceOctave(f, base)
		moved := f
		if by >= 0 {
			moved >>= by // halving again and again rounds down as one shift does
		} else {
			moved <<= -by
		}
		if code == codeOK && (got != moved || got < base || got >= 2*base || !isFrequency(got)) {
			t.Errorf("ReduceOctave(%d, %d): got %d %d", f, base, got, by)
		}
		if code != codeOK && (code != codeRange || f >= base || base <= maxHertz/2) {
			t.Errorf("ReduceOctave(%d, %d): got %d, want none", f, base, code)
		}
	}
}

func TestP3HertzText(t *testing.T) {
	for _, c := range []struct {
		f    int64
		want string
	}{
		{440050, "440.050"}, {440000, "440.000"}, {440005, "440.005"}, {440500, "440.500"}, {261626, "261.626"}, {10000, "10.000"}, {10001, "10.001"},
		{99999, "99.999"}, {100000, "100.000"}, {19999999, "19999.999"}, {20000000, "20000.000"},
	} {
		if got := impl.HertzText(c.f); got != c.want {
			t.Errorf("HertzText(%d): got %q, want %q", c.f, got, c.want)
		}
		if got, ok := impl.ReadHertz(c.want); got != c.f || !ok {
			t.Errorf("ReadHertz(%q): got %d %v, want %d", c.want, got, ok, c.f)
		}
	}
	for _, f := range append([]int64{5, 999, 1000}, noFrequencies...) {
		if got := impl.HertzText(f); got != "" {
			t.Errorf("HertzText(%d): got %q, want none", f, got)
		}
	}
}

func TestP3ReadHertz(t *testing.T) {
	for _, s := range []string{
		"", ".", "..", "440", "440.", ".440", "440.0", "440.05", "440.0500", "440.0050", "44.0050", "4400.50", "440050", ".440050", "440050.", "4.40050",
		"0440.050", "00440.050", "+440.050", "-440.050", "440.+50", "440.-50", "--440.050", " 440.050", "440.050 ", "440. 050", "440 .050", "440.050\n",
		"440,050", "440.050.", ".440.050", "440..050", "4.40.050", "440.05a", "a440.050", "440.0_0", "4_40.050", "0x10.000", "1e4.000",
		"9.999", "0.000", "-0.000", "009.999", "09.999", "20000.001", "20001.000", "100000.000", "99999999999999999999.000", "٤٤٠.050", "440.050\x00", "\xff", "440·050",
		strings.Repeat("9", 10000), strings.Repeat(".", 10000), "440.050" + strings.Repeat("0", 1000),
	} {
		if got, ok := impl.ReadHertz(s); got != 0 || ok {
			t.Errorf("ReadHertz(%q): got %d %v, want none", s, got, ok)
		}
	}
}

func TestP3CentsText(t *testing.T) {
	for _, c := range []struct {
		tenths int64
		want   string
	}{
		{125, "+12.5"}, // the example of the chapter
		{-125, "-12.5"}, {0, "+0.0"}, {1, "+0.1"}, {-1, "-0.1"}, {5, "+0.5"}, {-5, "-0.5"}, {9, "+0.9"}, {-9, "-0.9"}, {10, "+1.0"}, {-10, "-1.0"},
		{11, "+1.1"}, {99, "+9.9"}, {100, "+10.0"}, {-1000, "-100.0"}, {12000, "+1200.0"}, {119999, "+11999.9"}, {-119999, "-11999.9"},
		{120000, "+12000.0"}, {-120000, "-12000.0"},
	} {
		if got := impl.CentsText(c.tenths); got != c.want {
			t.Errorf("CentsText(%d): got %q, want %q", c.tenths, got, c.want)
		}
		if got, ok := impl.ReadCents(c.want); got != c.tenths || !ok {
			t.Errorf("ReadCents(%q): got %d %v, want %d", c.want, got, ok, c.tenths)
		}
	}
	for _, tenths := range []int64{120001, -120001, math.MaxInt64, math.MinInt64} {
		if got := impl.CentsText(tenths); got != "" {
			t.Errorf("CentsText(%d): got %q, want none", tenths, got)
		}
	}
}

func TestP3ReadCents(t *testing.T) {
	for _, s := range []string{
		"", ".", "+", "-", "+.", "-.", "12.5", "125", "+125", "-125", "+12", "+12.", "+.5", "-.5", "+12.50", "+1.25", "+12.05", "+12.5.", "+1.2.5", ".+125", "+125.", "+.125",
		"++12.5", "+-12.5", "-+12.5", "--12.5", "+012.5", "+00.5", "-00.5", "-0.0", "0.0", "+0", "-0", "+0.00", "+12.5+", "12.5+", "+12.-5", "+12.+5",
		" +12.5", "+12.5 ", "+ 12.5", "+12 .5", "+12.5\n", "+12,5", "+12..5", "+a.5", "+12.a", "+1_2.5", "+0x1.5", "+1e1.5", "+١.5", "−12.5", "+12.5\x00", "\xff",
		"+12000.1", "-12000.1", "+12001.0", "-12001.0", "+99999999999999999999.0", "+" + strings.Repeat("9", 10000) + ".0", strings.Repeat("+", 10000),
	} {
		if got, ok := impl.ReadCents(s); got != 0 || ok {
			t.Errorf("ReadCents(%q): got %d %v, want none", s, got, ok)
		}
	}
}

// TestP3PointedTextsAreReadBack: all intervals, and frequencies of all sizes, are read back from their texts.
func TestP3PointedTextsAreReadBack(t *testing.T) {
	for tenths := int64(-mostCents - 10); tenths <= mostCents+10; tenths++ {
		got, ok := impl.ReadCents(impl.CentsText(tenths))
		known := tenths >= -mostCents && tenths <= mostCents
		if ok != known || ok && got != tenths || !ok && got != 0 {
			t.Fatalf("ReadCents(CentsText(%d)): got %d %v", tenths, got, ok)
		}
	}
	for f := int64(9900); f <= 20000100; f += 1 + f/5000 {
		got, ok := impl.ReadHertz(impl.HertzText(f))
		if ok != isFrequency(f) || ok && got != f || !ok && got != 0 {
			t.Fatalf("ReadHertz(HertzText(%d)): got %d %v", f, got, ok)
		}
	}
	for _, s := range slices.Concat(pointedTexts, edgeTexts) {
		if f, ok := impl.ReadHertz(s); ok && impl.HertzText(f) != s {
			t.Errorf("ReadHertz(%q): got %d, whose text is %q", s, f, impl.HertzText(f))
		}
		if tenths, ok := impl.ReadCents(s); ok && impl.CentsText(tenths) != s {
			t.Errorf("ReadCents(%q): got %d, whose text is %q", s, tenths, impl.CentsText(tenths))
		}
	}
}

// centsResults has the results of all functions of the chapter for the ends of all ranges.
func centsResults() []any {
	var all []any
	add := func(values ...int64) {
		for _, v := range values {
			all = append(all, v)
		}
	}
	add2 := func(result, code int64) { add(result, code) }
	add3 := func(result, by, code int64) { add(result, by, code) }
	for _, f := range slices.Concat(edgeFrequencies, edgeNumbers) {
		all = append(all, impl.IsFrequency(f), impl.HertzText(f), impl.CentsText(f))
		add2(impl.FineLog(f))
		add2(impl.LogTenths(f))
		add2(impl.MeanFrequency([]int64{f}))
		for _, tenths := range edgeIntervals {
			add2(impl.Raise(f, tenths))
		}
		for _, g := range edgeFrequencies {
			add2(impl.CentsBetween(f, g))
			add2(impl.Beat(f, g))
			add2(impl.BeatTime(f, g))
			add2(impl.MeanFrequency([]int64{f, g}))
			add2(impl.RatioFrequency(f, g, 3))
			add2(impl.RatioFrequency(440000, f, g))
			add3(impl.ReduceOctave(f, g))
		}
	}
	for _, s := range slices.Concat(pointedTexts, edgeTexts) {
		f, isHertz := impl.ReadHertz(s)
		tenths, isCents := impl.ReadCents(s)
		all = append(all, f, isHertz, tenths, isCents)
	}
	return all
}

// TestP1CentsReturn: every function of chapter 2 returns for all arguments, and the same again.
func TestP1CentsReturn(t *testing.T) {
	first := centsResults()
	if again := centsResults(); !slices.Equal(first, again) {
		t.Error("other results for equal arguments")
	}
}

// raiseCases has frequencies at both ends of the range and intervals that lead to the ends and past them.
var raiseCases = []struct{ f, tenths, want, code int64 }{
	{440000, 12000, 880000, codeOK}, {440000, 0, 440000, codeOK},
	{10000, 0, 10000, codeOK}, {10000, 1, 10001, codeOK}, {10000, -1, 0, codeRange}, {10000, 120000, 10240000, codeOK}, {10000, 120001, 0, codeRange},
	{20000, -12000, 10000, codeOK}, {20000, -12001, 0, codeRange}, {19999, -12000, 0, codeRange}, {10240000, -120000, 10000, codeOK}, {10239999, -120000, 0, codeRange},
	{20000000, 0, 20000000, codeOK}, {20000000, -1, 19998845, codeOK}, {20000000, 1, 0, codeRange}, {20000000, -120000, 19532, codeOK}, {20000000, -120001, 0, codeRange},
	{10000000, 12000, 20000000, codeOK}, {10000000, 12001, 0, codeRange}, {10000001, 12000, 0, codeRange}, {19988450, 10, 20000000, codeOK}, {19988452, 10, 0, codeRange},
	{9999, 0, 0, codeRange}, {20000001, 0, 0, codeRange},
}

// checkRaiseCase raises the frequency of a case and compares.
func checkRaiseCase(t *testing.T, place int) {
	t.Helper()
	c := raiseCases[place]
	if got, code := impl.Raise(c.f, c.tenths); got != c.want || code != c.code {
		t.Errorf("Raise(%d, %d): got %d %d, want %d %d", c.f, c.tenths, got, code, c.want, c.code)
	}
}

// inOwnProcesses runs the calling test in a process of its own for each of some places, where run is called with the place.
func inOwnProcesses(t *testing.T, places int, run func(place int)) {
	t.Helper()
	const variable, mark = "FIRST_CALL", "the first call was compared"
	if place, err := strconv.Atoi(os.Getenv(variable)); err == nil {
		run(place)
		t.Log(mark)
		return
	}
	program, err := os.Executable()
	if err != nil {
		t.Fatal(err)
	}
	for place := range places {
		command := exec.Command(program, "-test.run=^"+t.Name()+"$", "-test.v")
		command.Env = append(os.Environ(), variable+"="+strconv.Itoa(place))
		if out, err := command.CombinedOutput(); err != nil || !strings.Contains(string(out), mark) {
			t.Errorf("the case %d at the first call: %v\n%s", place, err, out)
		}
	}
}

// TestP1RaiseAtTheFirstCall: each case is the first call of Raise in a process; all cases are called twice after it.
func TestP1RaiseAtTheFirstCall(t *testing.T) {
	inOwnProcesses(t, len(raiseCases), func(place int) {
		checkRaiseCase(t, place)
		for range 2 {
			for later := range raiseCases {
				checkRaiseCase(t, later)
			}
			checkRaiseCase(t, place)
		}
	})
}

// TestP1RaiseAtTheSameTime: calls at the same time do not disturb each other.
func TestP1RaiseAtTheSameTime(t *testing.T) {
	got := make([]int64, 16)
	var group sync.WaitGroup
	for i := range got {
		group.Add(1)
		go func() {
			defer group.Done()
			got[i], _ = impl.Raise(440000, 12000)
		}()
	}
	group.Wait()
	for _, f := range got {
		if f != 880000 {
			t.Errorf("Raise(440000, 12000): got %v, want all 880000", got)
		}
	}
}

// TestP1MeanFrequencyKeepsItsArgument: neither the list nor the capacity behind it is modified.
func TestP1MeanFrequencyKeepsItsArgument(t *testing.T) {
	for size := range maxList + 2 {
		whole := make([]int64, maxList+4)
		for i := range whole {
			whole[i] = 10000 + int64(997*(i*i%61))
		}
		before := slices.Clone(whole)
		mean, code := impl.MeanFrequency(whole[:size])
		if !slices.Equal(whole, before) {
			t.Fatalf("MeanFrequency of %d numbers: the list is now %v", size, whole)
		}
		if again, againCode := impl.MeanFrequency(slices.Clone(whole[:size])); again != mean || againCode != code {
			t.Errorf("MeanFrequency of %d numbers: %d %d and %d %d", size, mean, code, again, againCode)
		}
	}
}
