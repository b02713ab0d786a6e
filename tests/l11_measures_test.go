package tests

import (
	"fmt"
	"maps"
	"math"
	"math/big"
	"math/rand"
	"slices"
	"strings"
	"sync"
	"testing"

	"loop.example/g00952/impl"
)

// maxMeasures is the limit of chapter 11, written out from the document.
const maxMeasures = 64

// measuresOf returns a measurement of a partial for each of some values.
func measuresOf(bell string, partial int64, values ...int64) []impl.Measure {
	var list []impl.Measure
	for _, value := range values {
		list = append(list, impl.Measure{Bell: bell, Partial: partial, Value: value})
	}
	return list
}

// equalMeasures returns some measurements that are all the same.
func equalMeasures(count int) []impl.Measure {
	return slices.Repeat(measuresOf("b", 5, 300000), count)
}

// mixedMeasures has several bells out of order, each several times.
func mixedMeasures() []impl.Measure {
	return slices.Concat(
		measuresOf("tenor", 1, 200000), measuresOf("bell", 1, 300500), measuresOf("a", 3, 20000000), measuresOf("bell", 1, 301500), measuresOf("tenor", 5, 800000, 800000, 800001),
		measuresOf("bell", 1, 300000), measuresOf("bell2", 1, 310000), measuresOf("bell", 5, 1200000), measuresOf("a", 3, 10000), measuresOf("tenor", 1, 200000, 199999), measuresOf("bel", 1, 290000, 290001),
	)
}

// goodMeasures has valid lists: none, with each number at its limits, and as many as possible.
func goodMeasures() [][]impl.Measure {
	lists := [][]impl.Measure{
		nil, {}, mixedMeasures(), equalMeasures(1), equalMeasures(2), equalMeasures(3), equalMeasures(63), equalMeasures(64), slices.Repeat(measuresOf("z", 1, 20000000), 64), slices.Repeat(measuresOf("abcdefghij", 5, 10000), 64),
		slices.Repeat(measuresOf("z", 1, 20000000, 10000), 32), slices.Repeat(measuresOf("b", 2, 300000, 300001), 20), measuresOf("a", 1, 10000, 10001, 19999999, 20000000), measuresOf("a1", 4, 5, 6, 7)[:0],
		slices.Concat(measuresOf("b", 1, 200000), measuresOf("b", 2, 400000), measuresOf("b", 3, 480000), measuresOf("b", 4, 600000), measuresOf("b", 5, 800000)),
	}
	for partial := int64(1); partial <= 5; partial++ {
		for _, bell := range []string{"a", "z9", "abcdefghij"} {
			lists = append(lists, measuresOf(bell, partial, 10000), measuresOf(bell, partial, 20000000), measuresOf(bell, partial, 440000, 10000, 20000000, 440000))
		}
	}
	return lists
}

// badMeasures has lists that are not valid, each for one reason or for several.
func badMeasures() [][]impl.Measure {
	bad := [][]impl.Measure{{{}}, equalMeasures(65), equalMeasures(66), equalMeasures(1000), make([]impl.Measure, 64), append(equalMeasures(63), impl.Measure{}), append(mixedMeasures(), impl.Measure{Bell: "b", Partial: 1}), {{Bell: "b", Value: 300000}}, {{Partial: 1, Value: 300000}}}
	among := func(m impl.Measure) {
		bad = append(bad, []impl.Measure{m}, append([]impl.Measure{m}, equalMeasures(2)...), append(equalMeasures(2), m), append(equalMeasures(63), m), slices.Concat(equalMeasures(1), []impl.Measure{m}, equalMeasures(1)))
	}
	for _, bell := range noNames {
		among(impl.Measure{Bell: bell, Partial: 1, Value: 300000})
	}
	for _, partial := range []int64{math.MinInt64, -1 << 32, -5, -1, 0, 6, 7, 1 << 32, 1<<32 + 1, math.MaxInt64} {
		among(impl.Measure{Bell: "b", Partial: partial, Value: 300000})
	}
	for _, value := range noFrequencies {
		among(impl.Measure{Bell: "b", Partial: 5, Value: value})
		among(impl.Measure{Bell: "b", Partial: 1, Value: value})
	}
	return bad
}

func isMeasure(m impl.Measure) bool {
	return impl.IsName(m.Bell) && m.Partial >= 1 && m.Partial <= 5 && isFrequency(m.Value)
}

func areMeasures(list []impl.Measure) bool {
	for _, m := range list {
		if !isMeasure(m) {
			return false
		}
	}
	return len(list) <= maxMeasures
}

// valuesModel returns the values of a partial in ascending order, each put at its place among those before.
func valuesModel(list []impl.Measure, bell string, partial int64) []int64 {
	var values []int64
	for _, m := range list {
		if m.Bell != bell || m.Partial != partial {
			continue
		}
		place := 0
		for place < len(values) && values[place] < m.Value {
			place++
		}
		values = slices.Insert(values, place, m.Value)
	}
	return values
}

// meanModel returns the nearest number to the mean of some values.
func meanModel(values []int64) int64 {
	sum := new(big.Int)
	for _, value := range values {
		sum.Add(sum, big.NewInt(value))
	}
	return nearestModel(sum, int64(len(values)))
}

func medianModel(values []int64) int64 { return values[(len(values)-1)/2] }

// apartModel returns the absolute interval between two frequencies.
func apartModel(f, g int64) int64 { return tenthsModel(max(f, g)) - tenthsModel(min(f, g)) }

// farModel returns the indices of the measurements that are farther than limit from the middle.
func farModel(list []impl.Measure, limit int64) []int64 {
	var far []int64
	for i, m := range list {
		if apartModel(medianModel(valuesModel(list, m.Bell, m.Partial)), m.Value) > limit {
			far = append(far, int64(i))
		}
	}
	return far
}

// soundModel returns the sound of the means of a bell, or the error.
func soundModel(list []impl.Measure, bell string) (impl.Sound, int64) {
	var means []int64
	for partial := int64(1); partial <= 5; partial++ {
		values := valuesModel(list, bell, partial)
		if len(values) == 0 {
			return impl.Sound{}, codeMissing
		}
		means = append(means, meanModel(values))
	}
	if s := soundOf(means); isSound(s) {
		return s, codeOK
	}
	return impl.Sound{}, codeState
}

// randomMeasures returns measurements of a few bells, most of them near to one another.
func randomMeasures(random *rand.Rand) []impl.Measure {
	var list []impl.Measure
	bells := []string{"a", "b", "a1", "ab", "tenor"}[:1+random.Intn(5)]
	for range random.Intn(maxMeasures + 1) {
		m := impl.Measure{Bell: bells[random.Intn(len(bells))], Partial: 1 + random.Int63n(5)}
		m.Value = 200000*m.Partial + random.Int63n(1000)
		if random.Intn(8) == 0 {
			m.Value = randomFrequency(random)
		}
		list = append(list, m)
	}
	return list
}

// manyMeasures has valid lists of all kinds.
func manyMeasures(seed int64, count int) [][]impl.Measure {
	random := rand.New(rand.NewSource(seed))
	lists := goodMeasures()
	for range count {
		lists = append(lists, randomMeasures(random))
	}
	return lists
}

// bellNames has the bells of the lists, and others.
var bellNames = []string{"", "a", "b", "a1", "ab", "bell", "bell2", "bel", "tenor", "z", "abcdefghij", "none", "Bell", "bell ", "a\x00"}

func TestP12Constants(t *testing.T) {
	got := []int64{impl.MaxMeasures, impl.ClassA, impl.ClassB, impl.ClassC}
	if want := []int64{64, 20, 50, 100}; !slices.Equal(got, want) {
		t.Errorf("constants: got %v, want %v", got, want)
	}
}

// TestP12Example is the example of the chapter, with the values in all orders.
func TestP12Example(t *testing.T) {
	for _, values := range [][]int64{{300000, 300500, 301500}, {300000, 301500, 300500}, {300500, 300000, 301500}, {300500, 301500, 300000}, {301500, 300000, 300500}, {301500, 300500, 300000}} {
		list := measuresOf("bell", 1, values...)
		got, code := impl.MedianOf(list, "bell", 1)
		checkNumber(t, fmt.Sprint("MedianOf ", values), got, code, 300500, codeOK)
		sorted, code := impl.ValuesOf(list, "bell", 1)
		checkList(t, fmt.Sprint("ValuesOf ", values), sorted, code, []int64{300000, 300500, 301500}, codeOK)
	}
}

func TestP12ValidMeasures(t *testing.T) {
	for _, list := range goodMeasures() {
		if !impl.ValidMeasures(list) || !areMeasures(list) {
			t.Errorf("ValidMeasures(%v): got false", list)
		}
	}
	for _, list := range badMeasures() {
		if impl.ValidMeasures(list) || areMeasures(list) {
			t.Errorf("ValidMeasures(%v): got true", list)
		}
	}
	for count := range 200 {
		if got := impl.ValidMeasures(equalMeasures(count)); got != (count <= 64) {
			t.Errorf("ValidMeasures of %d measurements: got %v", count, got)
		}
	}
	for _, partial := range edgeNumbers {
		for _, value := range edgeFrequencies {
			got, want := impl.ValidMeasures(measuresOf("b", partial, value)), partial >= 1 && partial <= 5 && value >= 10000 && value <= 20000000
			if got != want {
				t.Errorf("ValidMeasures of the partial %d and the value %d: got %v", partial, value, got)
			}
		}
	}
}

func TestP12BellsMeasured(t *testing.T) {
	named := func(bells ...string) []impl.Measure {
		var list []impl.Measure
		for i, bell := range bells {
			list = append(list, impl.Measure{Bell: bell, Partial: 1 + int64(i)%5, Value: 440000 - int64(i)})
		}
		return list
	}
	for _, c := range []struct {
		list []impl.Measure
		want []string
	}{
		{nil, nil}, {named("b"), []string{"b"}}, {named("b", "a"), []string{"a", "b"}}, {named("a", "a", "a"), []string{"a"}}, {named("b", "a", "b", "a", "b"), []string{"a", "b"}},
		{named("b", "ba", "b0", "aa", "a", "a9", "ab", "a0", "b"), []string{"a", "a0", "a9", "aa", "ab", "b", "b0", "ba"}}, {mixedMeasures(), []string{"a", "bel", "bell", "bell2", "tenor"}}, {equalMeasures(64), []string{"b"}},
		{named("zzzzzzzzzz", "zzzzzzzzz", "zzzzzzzzz9"), []string{"zzzzzzzzz", "zzzzzzzzz9", "zzzzzzzzzz"}},
	} {
		got, code := impl.BellsMeasured(c.list)
		if !slices.Equal(got, c.want) || code != codeOK {
			t.Errorf("BellsMeasured(%v): got %q %d, want %q", c.list, got, code, c.want)
		}
	}
	var all []impl.Measure
	for i := range 64 {
		all = append(all, impl.Measure{Bell: fmt.Sprintf("b%02d", 63-i), Partial: 1, Value: 10000})
	}
	got, code := impl.BellsMeasured(all)
	if len(got) != 64 || !slices.IsSorted(got) || got[0] != "b00" || got[63] != "b63" || code != codeOK {
		t.Errorf("BellsMeasured of 64 bells: got %q %d", got, code)
	}
	for _, list := range manyMeasures(111, 500) {
		bells := map[string]bool{}
		for _, m := range list {
			bells[m.Bell] = true
		}
		got, code := impl.BellsMeasured(list)
		if want := slices.Sorted(maps.Keys(bells)); !slices.Equal(got, want) || code != codeOK {
			t.Errorf("BellsMeasured(%v): got %q %d, want %q", list, got, code, want)
		}
	}
}

func TestP12Values(t *testing.T) {
	for _, c := range []struct {
		values               []int64
		mean, median, spread int64
	}{
		{[]int64{300000}, 300000, 300000, 0}, {[]int64{10000}, 10000, 10000, 0}, {[]int64{20000000}, 20000000, 20000000, 0},
		// equal values, an odd number of them and an even one
		{[]int64{440000, 440000}, 440000, 440000, 0}, {[]int64{440000, 440000, 440000}, 440000, 440000, 0}, {slices.Repeat([]int64{20000000}, 64), 20000000, 20000000, 0}, {slices.Repeat([]int64{10000}, 64), 10000, 10000, 0}, {slices.Repeat([]int64{10000}, 63), 10000, 10000, 0},
		// the mean of an even number lies between the two in the middle, the median is the lesser one of them
		{[]int64{300001, 300000}, 300001, 300000, 0}, {[]int64{300000, 300003}, 300002, 300000, 0}, {[]int64{880000, 440000}, 660000, 440000, 12000}, {[]int64{20000000, 10000}, 10005000, 10000, 131589}, {[]int64{300000, 300500, 301500}, 300667, 300500, 86},
		{[]int64{400000, 100000, 300000, 200000}, 250000, 200000, 24000}, {[]int64{500000, 400000, 100000, 300000, 200000}, 300000, 300000, 27863}, {[]int64{100000, 100000, 100000, 900000}, 300000, 100000, 38039}, {[]int64{900000, 900000, 900000, 100000}, 700000, 900000, 38039}, {[]int64{900000, 100000, 900000, 100000}, 500000, 100000, 38039},
		// sums at the greatest values, and rests of a half and beside it
		{append(slices.Repeat([]int64{20000000}, 63), 10000), 19687656, 20000000, 131589}, {append(slices.Repeat([]int64{20000000}, 63), 19999999), 20000000, 20000000, 0}, {append(slices.Repeat([]int64{20000000}, 32), slices.Repeat([]int64{19999999}, 32)...), 20000000, 19999999, 0}, {append(slices.Repeat([]int64{20000000}, 31), slices.Repeat([]int64{19999999}, 33)...), 19999999, 19999999, 0}, {append(slices.Repeat([]int64{20000000}, 33), slices.Repeat([]int64{19999999}, 31)...), 20000000, 20000000, 0},
		{[]int64{10000, 10000, 10001}, 10000, 10000, 2}, {[]int64{10000, 10001, 10001}, 10001, 10001, 2},
	} {
		list := measuresOf("b", 4, c.values...)
		mean, meanCode := impl.MeanOf(list, "b", 4)
		median, medianCode := impl.MedianOf(list, "b", 4)
		spread, spreadCode := impl.SpreadOf(list, "b", 4)
		got := []int64{mean, meanCode, median, medianCode, spread, spreadCode}
		if want := []int64{c.mean, codeOK, c.median, codeOK, c.spread, codeOK}; !slices.Equal(got, want) {
			t.Errorf("mean, median and spread of %v: got %v, want %v", c.values, got, want)
		}
	}
}

// TestP12BetweenLeastAndGreatest holds all values of all bells and partials against the model, and means and medians between the ends.
func TestP12BetweenLeastAndGreatest(t *testing.T) {
	found := 0
	for _, list := range manyMeasures(112, 300) {
		for _, bell := range bellNames {
			for partial := int64(1); partial <= 5; partial++ {
				what, want := fmt.Sprintf("%v, %q, %d", list, bell, partial), valuesModel(list, bell, partial)
				values, code := impl.ValuesOf(list, bell, partial)
				mean, meanCode := impl.MeanOf(list, bell, partial)
				median, medianCode := impl.MedianOf(list, bell, partial)
				spread, spreadCode := impl.SpreadOf(list, bell, partial)
				if len(want) == 0 {
					if got := []int64{code, mean, meanCode, median, medianCode, spread, spreadCode}; len(values) > 0 || !slices.Equal(got, []int64{codeMissing, 0, codeMissing, 0, codeMissing, 0, codeMissing}) {
						t.Errorf("%s: got %v %v, want none", what, values, got)
					}
					continue
				}
				found++
				least, greatest := slices.Min(want), slices.Max(want)
				checkList(t, "ValuesOf "+what, values, code, want, codeOK)
				checkNumber(t, "MeanOf "+what, mean, meanCode, meanModel(want), codeOK)
				checkNumber(t, "MedianOf "+what, median, medianCode, medianModel(want), codeOK)
				checkNumber(t, "SpreadOf "+what, spread, spreadCode, apartModel(least, greatest), codeOK)
				if mean < least || mean > greatest || median < least || median > greatest || !slices.Contains(want, median) {
					t.Errorf("%s: the mean %d or the median %d is not between %d and %d", what, mean, median, least, greatest)
				}
			}
		}
	}
	if found < 3000 {
		t.Errorf("only %d lists of values were found", found)
	}
}

// TestP12OrderOfMeasures: measurements in another order have the same values, means, medians and spreads.
func TestP12OrderOfMeasures(t *testing.T) {
	random := rand.New(rand.NewSource(113))
	for _, list := range manyMeasures(114, 50) {
		mixed := slices.Clone(list)
		random.Shuffle(len(mixed), func(i, k int) { mixed[i], mixed[k] = mixed[k], mixed[i] })
		for _, m := range append(slices.Clone(list), impl.Measure{Bell: "none", Partial: 1}) {
			if got, want := valuesTexts(mixed, m.Bell, m.Partial), valuesTexts(list, m.Bell, m.Partial); !slices.Equal(got, want) {
				t.Errorf("%v, %q, %d: got %q, want %q", mixed, m.Bell, m.Partial, got, want)
			}
		}
	}
}

// valuesTexts has the results of the functions of a bell and a partial as texts.
func valuesTexts(list []impl.Measure, bell string, partial int64) []string {
	values, code := impl.ValuesOf(list, bell, partial)
	mean, meanCode := impl.MeanOf(list, bell, partial)
	median, medianCode := impl.MedianOf(list, bell, partial)
	spread, spreadCode := impl.SpreadOf(list, bell, partial)
	sound, soundCode := impl.SoundFrom(list, bell)
	return []string{fmt.Sprint(values, code), fmt.Sprint(mean, meanCode), fmt.Sprint(median, medianCode), fmt.Sprint(spread, spreadCode), fmt.Sprint(sound, soundCode)}
}

func TestP12Outliers(t *testing.T) {
	around := func(values ...int64) []impl.Measure {
		return slices.Concat(measuresOf("b", 2, 440000, 440000, 440000), measuresOf("b", 2, values...))
	}
	for _, c := range []struct {
		list  []impl.Measure
		limit int64
		want  []int64
	}{
		{nil, 0, nil}, {nil, 120000, nil}, {equalMeasures(1), 0, nil}, {equalMeasures(64), 0, nil},
		// intervals of exactly the limit and of one tenth past it, above and below
		{around(440515), 20, nil}, {around(440516), 20, []int64{3}}, {around(439474), 20, nil}, {around(439473), 20, []int64{3}},
		{around(440491), 19, []int64{3}}, {around(439498), 19, []int64{3}}, {around(441024), 40, nil}, {around(441025), 40, []int64{3}},
		{around(466171, 466172, 415288, 415287), 1000, []int64{4, 6}}, {around(880013, 880014, 219991, 219990), 12000, []int64{4, 6}}, {measuresOf("b", 2, 438966, 441025, 440000, 440000, 440000), 40, []int64{0, 1}},
		{measuresOf("b", 1, 10000, 10240267), 120000, nil}, {measuresOf("b", 1, 10000, 10240268), 120000, []int64{1}}, {measuresOf("b", 1, 10240268, 10000, 10000), 119999, []int64{0}}, {measuresOf("b", 1, 10000, 20000000), 120000, []int64{1}},
		{measuresOf("b", 1, 10000, 10240000, 10240000), 120000, nil}, {measuresOf("b", 1, 10240588, 10000, 10240588), 120000, []int64{1}}, {measuresOf("b", 1, 20000000, 20000000, 19531), 120000, nil}, {measuresOf("b", 1, 20000000, 20000000, 19530), 120000, []int64{2}},
		// a limit of 0: other values of the same tenth are no outliers
		{around(440001), 0, nil}, {measuresOf("b", 1, 300000, 300001, 300500, 301500), 0, []int64{2, 3}},
		// the middle of two values is the lesser one
		{measuresOf("b", 1, 440516, 440000), 20, []int64{0}}, {measuresOf("b", 1, 440000, 440516), 20, []int64{1}}, {measuresOf("b", 1, 440000, 440515), 20, nil},
		// each bell and each partial has a middle of its own
		{mixedMeasures(), 120000, []int64{2}}, {mixedMeasures(), 40, []int64{2, 3}}, {mixedMeasures(), 0, []int64{2, 3, 7}}, {slices.Concat(measuresOf("a", 1, 200000), measuresOf("b", 1, 400000), measuresOf("a", 2, 800000), measuresOf("a1", 1, 1600000)), 0, nil},
	} {
		got, code := impl.OutliersOf(c.list, c.limit)
		checkList(t, fmt.Sprintf("OutliersOf(%v, %d)", c.list, c.limit), got, code, c.want, codeOK)
		checkWithout(t, c.list, c.limit, c.want)
	}
}

// checkWithout holds the measurements without outliers against those that are not among some indices.
func checkWithout(t *testing.T, list []impl.Measure, limit int64, far []int64) {
	t.Helper()
	var want []impl.Measure
	for i, m := range list {
		if !slices.Contains(far, int64(i)) {
			want = append(want, m)
		}
	}
	got, code := impl.WithoutOutliers(list, limit)
	if !slices.Equal(got, want) || code != codeOK {
		t.Errorf("WithoutOutliers(%v, %d): got %v %d, want %v", list, limit, got, code, want)
	}
}

// TestP12OutliersOfMany holds outliers against the model, at limits that are intervals of the list and beside them.
func TestP12OutliersOfMany(t *testing.T) {
	some := 0
	for _, list := range manyMeasures(115, 300) {
		limits := []int64{0, 1, 5, 20, 87, 1000, 119999, 120000}
		for _, m := range list {
			interval := apartModel(medianModel(valuesModel(list, m.Bell, m.Partial)), m.Value)
			limits = append(limits, interval-1, interval, interval+1)
		}
		slices.Sort(limits)
		for _, limit := range slices.Compact(limits) {
			if limit < 0 || limit > 120000 {
				continue
			}
			want := farModel(list, limit)
			got, code := impl.OutliersOf(list, limit)
			checkList(t, fmt.Sprintf("OutliersOf(%v, %d)", list, limit), got, code, want, codeOK)
			checkWithout(t, list, limit, want)
			some += len(want)
		}
	}
	if some < 3000 {
		t.Errorf("only %d outliers were found", some)
	}
}

// bellValues has all five partials of a bell, with the means of the example sound.
func bellValues() []impl.Measure {
	return slices.Concat(measuresOf("bell", 5, 880001, 879999), measuresOf("bell", 1, 220000), measuresOf("bell", 3, 523252, 523251, 523253), measuresOf("bell", 4, 659256), measuresOf("bell", 2, 440000, 440000), measuresOf("other", 1, 100000))
}

func TestP12SoundFrom(t *testing.T) {
	check := func(what string, list []impl.Measure, bell string, want impl.Sound, wantCode int64) {
		t.Helper()
		got, code := impl.SoundFrom(list, bell)
		if got != want || code != wantCode {
			t.Errorf("SoundFrom %s, %v, %q: got %v %d, want %v %d", what, list, bell, got, code, want, wantCode)
		}
	}
	five := func(values ...int64) []impl.Measure {
		var list []impl.Measure
		for k, value := range values {
			list = append(list, impl.Measure{Bell: "b", Partial: 1 + int64(k), Value: value})
		}
		return list
	}
	check("of all partials", bellValues(), "bell", minorSound, codeOK)
	check("of rounded means", append(bellValues(), measuresOf("bell", 1, 220001)...), "bell", soundWith(220001, 440000, 523252, 659256, 880000), codeOK)
	check("of another bell", bellValues(), "other", impl.Sound{}, codeMissing)
	for _, bell := range []string{"", "none", "Bell", "bel", "bell2", "bell "} {
		check("of no bell", bellValues(), bell, impl.Sound{}, codeMissing)
	}
	check("of no measurements", nil, "bell", impl.Sound{}, codeMissing)
	for partial := int64(1); partial <= 5; partial++ {
		without := slices.DeleteFunc(bellValues(), func(m impl.Measure) bool { return m.Bell == "bell" && m.Partial == partial })
		check("without a partial", without, "bell", impl.Sound{}, codeMissing)
		// another bell has the partial that is missing
		check("without a partial", append(without, measuresOf("other", partial, 300000)...), "bell", impl.Sound{}, codeMissing)
	}
	check("at the least frequencies", five(10000, 10001, 10002, 10003, 10004), "b", soundWith(10000, 10001, 10002, 10003, 10004), codeOK)
	check("at the greatest frequencies", five(19999996, 19999997, 19999998, 19999999, 20000000), "b", soundWith(19999996, 19999997, 19999998, 19999999, 20000000), codeOK)
	// means that are equal or fall are no sound, and a missing partial comes before them
	check("of equal means", five(200000, 400000, 400000, 600000, 800000), "b", impl.Sound{}, codeState)
	check("of falling means", five(200000, 400000, 399999, 600000, 800000), "b", impl.Sound{}, codeState)
	check("of a great hum", five(900000, 400000, 500000, 600000, 800000), "b", impl.Sound{}, codeState)
	check("of a small nominal", five(200000, 400000, 500000, 600000, 600000), "b", impl.Sound{}, codeState)
	check("of means that rounding makes equal", append(five(200000, 200001, 500000, 600000, 700000), measuresOf("b", 1, 200001)...), "b", impl.Sound{}, codeState)
	check("of means that are next to each other", append(five(200000, 200002, 500000, 600000, 700000), measuresOf("b", 1, 200001)...), "b", soundWith(200001, 200002, 500000, 600000, 700000), codeOK)
	check("of falling means without a nominal", five(900000, 400000, 300000, 200000), "b", impl.Sound{}, codeMissing)
	found := map[int64]int{}
	for _, list := range manyMeasures(116, 1000) {
		for _, bell := range bellNames {
			want, code := soundModel(list, bell)
			check("of many", list, bell, want, code)
			found[code]++
		}
	}
	if found[codeOK] < 100 || found[codeMissing] < 100 || found[codeState] < 100 {
		t.Errorf("only %v sounds of each code were found", found)
	}
}

func TestP12Classes(t *testing.T) {
	for _, c := range []struct{ tenths, want int64 }{
		{0, 1}, {1, 1}, {19, 1}, {20, 1}, {21, 2}, {49, 2}, {50, 2}, {51, 3}, {99, 3}, {100, 3}, {101, 4}, {1000, 4}, {120000, 4}, {120001, 4}, {1 << 32, 4}, {1<<32 + 20, 4}, {math.MaxInt64 - 1, 4}, {math.MaxInt64, 4},
		{-1, 1}, {-19, 1}, {-20, 1}, {-21, 2}, {-49, 2}, {-50, 2}, {-51, 3}, {-99, 3}, {-100, 3}, {-101, 4}, {-120000, 4}, {-1 << 32, 4}, {math.MinInt64 + 1, 4}, {math.MinInt64, 4},
	} {
		if got := impl.ClassOf(c.tenths); got != c.want {
			t.Errorf("ClassOf(%d): got %d, want %d", c.tenths, got, c.want)
		}
	}
	for tenths := int64(-500); tenths <= 500; tenths++ {
		want := int64(4)
		for class, most := range map[int64]float64{1: 20, 2: 50, 3: 100} {
			if math.Abs(float64(tenths)) <= most {
				want = min(want, class)
			}
		}
		if got := impl.ClassOf(tenths); got != want {
			t.Errorf("ClassOf(%d): got %d, want %d", tenths, got, want)
		}
	}
}

func TestP12WorstClass(t *testing.T) {
	for _, c := range []struct {
		list       []int64
		want, code int64
	}{
		{nil, 0, codeState}, {[]int64{}, 0, codeState}, {[]int64{0}, 1, codeOK}, {[]int64{20}, 1, codeOK}, {[]int64{-20, 20, 0}, 1, codeOK}, {[]int64{21}, 2, codeOK}, {[]int64{-21, 0}, 2, codeOK}, {[]int64{0, 50}, 2, codeOK}, {[]int64{3, -60, 20}, 3, codeOK}, {[]int64{51, 0, 0}, 3, codeOK}, {[]int64{0, 0, -100}, 3, codeOK},
		{[]int64{101, 51, 21, 0}, 4, codeOK}, {[]int64{0, 21, 51, -101}, 4, codeOK}, {[]int64{math.MinInt64}, 4, codeOK}, {[]int64{0, math.MinInt64, 0}, 4, codeOK}, {[]int64{math.MaxInt64, 0}, 4, codeOK}, {make([]int64, 1000), 1, codeOK}, {append(make([]int64, 1000), 101), 4, codeOK},
	} {
		got, code := impl.WorstClass(c.list)
		checkNumber(t, fmt.Sprintf("WorstClass(%v)", c.list), got, code, c.want, c.code)
	}
	random := rand.New(rand.NewSource(117))
	for range 1000 {
		list, worst := make([]int64, 1+random.Intn(8)), int64(0)
		for i := range list {
			list[i] = random.Int63n(241) - 120
			worst = max(worst, impl.ClassOf(list[i]))
		}
		got, code := impl.WorstClass(list)
		checkNumber(t, fmt.Sprintf("WorstClass(%v)", list), got, code, worst, codeOK)
	}
}

// measureCodes returns the codes of all functions with a list of measurements; with an error no other result may come.
func measureCodes(t *testing.T, list []impl.Measure, bell string, partial, limit int64) []int64 {
	t.Helper()
	bells, bellsCode := impl.BellsMeasured(list)
	values, valuesCode := impl.ValuesOf(list, bell, partial)
	mean, meanCode := impl.MeanOf(list, bell, partial)
	median, medianCode := impl.MedianOf(list, bell, partial)
	spread, spreadCode := impl.SpreadOf(list, bell, partial)
	outliers, outliersCode := impl.OutliersOf(list, limit)
	others, othersCode := impl.WithoutOutliers(list, limit)
	sound, soundCode := impl.SoundFrom(list, bell)
	if bellsCode != codeOK && len(bells) > 0 || valuesCode != codeOK && len(values) > 0 || meanCode != codeOK && mean != 0 || medianCode != codeOK && median != 0 || spreadCode != codeOK && spread != 0 || outliersCode != codeOK && len(outliers) > 0 || othersCode != codeOK && len(others) > 0 || soundCode != codeOK && sound != (impl.Sound{}) {
		t.Errorf("%v, %q, %d, %d: got a result and an error: %q %d, %v %d, %d %d, %d %d, %d %d, %v %d, %v %d, %v %d", list, bell, partial, limit, bells, bellsCode, values, valuesCode, mean, meanCode, median, medianCode, spread, spreadCode, outliers, outliersCode, others, othersCode, sound, soundCode)
	}
	return []int64{bellsCode, valuesCode, meanCode, medianCode, spreadCode, outliersCode, othersCode, soundCode}
}

// TestP12OrderOfErrors: ErrInvalid comes before ErrRange, and ErrRange before ErrNotFound.
func TestP12OrderOfErrors(t *testing.T) {
	invalid := []int64{codeInvalid, codeInvalid, codeInvalid, codeInvalid, codeInvalid, codeInvalid, codeInvalid, codeInvalid}
	for i, list := range badMeasures() {
		for _, partial := range []int64{1, 5, 0, 6} {
			for _, limit := range []int64{0, -1, 120000, 120001} {
				if got := measureCodes(t, list, bellNames[i%len(bellNames)], partial, limit); !slices.Equal(got, invalid) {
					t.Errorf("%v, %d, %d: got the codes %v", list, partial, limit, got)
				}
			}
		}
	}
	for _, partial := range append(slices.Clone(edgeNumbers), 4, 5, 6, 7) {
		for _, limit := range append(slices.Clone(edgeNumbers), 119999, 120000, 120001) {
			for _, bell := range bellNames {
				list, at, far := bellValues(), int64(codeMissing), int64(codeOK)
				if bell == "bell" || bell == "other" && partial == 1 {
					at = codeOK
				}
				if partial < 1 || partial > 5 {
					at = codeRange
				}
				if limit < 0 || limit > 120000 {
					far = codeRange
				}
				_, soundCode := soundModel(list, bell)
				got, want := measureCodes(t, list, bell, partial, limit), []int64{codeOK, at, at, at, at, far, far, soundCode}
				if !slices.Equal(got, want) {
					t.Errorf("%q, %d, %d: got the codes %v, want %v", bell, partial, limit, got, want)
				}
				none := []int64{codeOK, codeMissing, codeMissing, codeMissing, codeMissing, far, far, codeMissing}
				if at == codeRange {
					none = []int64{codeOK, at, at, at, at, far, far, codeMissing}
				}
				if got := measureCodes(t, nil, bell, partial, limit); !slices.Equal(got, none) {
					t.Errorf("no measurements, %q, %d, %d: got the codes %v, want %v", bell, partial, limit, got, none)
				}
			}
		}
	}
}

var measureTexts = []string{"bell hum 300.500", "a prime 10.000", "abcdefghij tierce 20000.000", "z9 quint 440.000", "b nominal 1200.001", "hum hum 100.000", "nominal nominal 99.999"}

func TestP12MeasureTexts(t *testing.T) {
	for _, text := range measureTexts {
		m, ok := impl.ReadMeasure(text)
		if got := impl.MeasureText(m); got != text || !ok {
			t.Errorf("ReadMeasure(%q): got %v %v, with the text %q", text, m, ok, got)
		}
	}
	names := []string{"hum", "prime", "tierce", "quint", "nominal"}
	for _, bell := range []string{"a", "bell", "hum", "z9", "abcdefghij", "b0"} {
		for k, name := range names {
			for _, value := range []int64{10000, 10001, 10010, 10100, 99999, 100000, 440000, 440050, 999999, 1000000, 19999999, 20000000} {
				m, want := impl.Measure{Bell: bell, Partial: 1 + int64(k), Value: value}, fmt.Sprintf("%s %s %d.%03d", bell, name, value/1000, value%1000)
				if got := impl.MeasureText(m); got != want {
					t.Errorf("MeasureText(%v): got %q, want %q", m, got, want)
				}
				if got, ok := impl.ReadMeasure(want); got != m || !ok {
					t.Errorf("ReadMeasure(%q): got %v %v, want %v", want, got, ok, m)
				}
			}
		}
	}
	for _, list := range slices.Concat(badMeasures(), goodMeasures()) {
		for _, m := range list {
			if got := impl.MeasureText(m); (got != "") != isMeasure(m) {
				t.Errorf("MeasureText(%v): got %q", m, got)
			}
		}
	}
}

func TestP12ReadMeasure(t *testing.T) {
	bad := []string{
		// missing, superfluous and empty parts
		"bell", "bell ", "bell hum", "bell hum ", "bell  300.500", "bell hum  300.500", "bell  hum 300.500", " hum 300.500", "hum 300.500", " bell hum 300.500", "bell hum 300.500 ", "bell hum 300.500 1", "bell hum 300.500 301.500", "bell hum prime 300.500", "bell bell hum 300.500", "bell 300.500", "bell 300.500 hum", "hum bell 300.500", "bell  ", "   ", "bell hum 300.500 bell hum 300.500",
		// unknown names of partials, and other ones
		"bell Hum 300.500", "bell HUM 300.500", "bell hums 300.500", "bell hu 300.500", "bell h 300.500", "bell strike 300.500", "bell third 300.500", "bell 1 300.500", "bell 0 300.500", "bell 5 300.500", "bell - 300.500", "bell nominals 300.500", "bell hum,prime 300.500", "bell \x00hum 300.500",
		// names that are none
		"Bell hum 300.500", "9bell hum 300.500", "abcdefghijk hum 300.500", "bell- hum 300.500", "be.ll hum 300.500", "é hum 300.500", "\xff hum 300.500", "- hum 300.500",
		// leading zeros, signs, and missing and superfluous digits and points
		"bell hum 0300.500", "bell hum 00.500", "bell hum 010.000", "bell hum +300.500", "bell hum -300.500", "bell hum 300", "bell hum 300.", "bell hum 300.5", "bell hum 300.50", "bell hum 300.5000", "bell hum .500", "bell hum 300500", "bell hum 300,500", "bell hum 3.00.500", "bell hum 300..500", "bell hum 300.500.", "bell hum 3e2.000", "bell hum 300.5x0", "bell hum 300.-50", "bell hum 0x10.000", "bell hum a", "bell hum .", "bell hum -",
		// values that are no frequencies
		"bell hum 9.999", "bell hum 20000.001", "bell hum 0.000", "bell hum 0.300", "bell hum 100000.000", "bell hum 9223372036854775.807", "bell hum 18446744073709851.616", "bell hum 99999999999999999999.000", "bell hum " + strings.Repeat("9", 1000) + ".000",
		// other blanks and separators
		"bell\thum 300.500", "bell hum\t300.500", "bell hum 300.500\n", "\nbell hum 300.500", "bell\u00a0hum 300.500", "bell/hum/300.500", "bell,hum,300.500", "bell hum 300.500\x00", "bell hum:300.500", "bell hum ٣00.500", strings.Repeat(" ", 1000), strings.Repeat("bell ", 1000),
	}
	for _, s := range slices.Concat(bad, edgeTexts, pointedTexts, temperamentTexts, soundTexts, profileTexts, modelTexts, cutsTexts) {
		if got, ok := impl.ReadMeasure(s); got != (impl.Measure{}) || ok {
			t.Errorf("ReadMeasure(%q): got %v %v, want none", s, got, ok)
		}
	}
}

// TestP12DamagedMeasuresAreNotRead: a text that is damaged is that of the measurement that is read, or of none.
func TestP12DamagedMeasuresAreNotRead(t *testing.T) {
	for _, s := range damagedTexts(measureTexts, " 09.-+ahA") {
		got, ok := impl.ReadMeasure(s)
		if ok && (impl.MeasureText(got) != s || !isMeasure(got)) || !ok && got != (impl.Measure{}) {
			t.Errorf("ReadMeasure(%q): got %v %v", s, got, ok)
		}
	}
}

// measuresResults has the results of all functions of the chapter for valid and invalid arguments, as texts.
func measuresResults() []string {
	var all []string
	add := func(results ...any) { all = append(all, fmt.Sprint(results...)) }
	for i, list := range slices.Concat(goodMeasures(), badMeasures(), manyMeasures(118, 20)) {
		add(impl.ValidMeasures(list))
		add(impl.BellsMeasured(list))
		for k, bell := range bellNames {
			partial, limit := []int64{1, 2, 3, 4, 5, 0, 6, math.MinInt64, math.MaxInt64}[(i+k)%9], edgeNumbers[(i*3+k)%len(edgeNumbers)]
			all = append(all, valuesTexts(list, bell, partial)...)
			add(impl.OutliersOf(list, limit))
			add(impl.WithoutOutliers(list, limit))
			add(impl.OutliersOf(list, 20))
			add(impl.WithoutOutliers(list, 20))
		}
		for _, m := range list {
			add(impl.MeasureText(m))
		}
	}
	for _, n := range edgeNumbers {
		add(impl.ClassOf(n))
		add(impl.WorstClass([]int64{0, n}))
	}
	add(impl.WorstClass(nil))
	for _, s := range slices.Concat(measureTexts, edgeTexts, pointedTexts) {
		add(impl.ReadMeasure(s))
	}
	return all
}

// atTheSameTime calls a function from several goroutines at once.
func atTheSameTime(call func()) {
	var group sync.WaitGroup
	for range 8 {
		group.Add(1)
		go func() {
			defer group.Done()
			call()
		}()
	}
	group.Wait()
}

// checkReturns compares the results of some functions with those of later calls, one after the other and at the same time.
func checkReturns(t *testing.T, results func() []string) {
	t.Helper()
	first := results()
	again := func() {
		if !slices.Equal(first, results()) {
			t.Error("other results for equal arguments")
		}
	}
	again()
	again()
	atTheSameTime(again)
}

// TestP1MeasuresReturn: every function of chapter 11 returns for all arguments, and the same again, also at the same time.
func TestP1MeasuresReturn(t *testing.T) { checkReturns(t, measuresResults) }

// TestP1MeasuresKeepTheirArguments: neither a list nor the capacity behind it is modified.
func TestP1MeasuresKeepTheirArguments(t *testing.T) {
	whole := append(slices.Grow([]impl.Measure(nil), 80), slices.Concat(mixedMeasures(), bellValues(), []impl.Measure{{Bell: "B", Partial: 9, Value: -1}, {}})...)
	want := slices.Clone(whole[:cap(whole)])
	for size := range len(whole) + 1 {
		list := whole[:size]
		impl.ValidMeasures(list)
		for _, bell := range []string{"tenor", "bell", "a", "none"} {
			for _, limit := range []int64{-1, 0, 40, 120000} {
				measureCodes(t, list, bell, 1+int64(size)%6, limit)
			}
		}
		if !slices.Equal(whole[:cap(whole)], want) {
			t.Fatalf("%d measurements: they are now %v", size, whole)
		}
	}
	numbers := append(slices.Grow([]int64(nil), 12), 30, 0, -101, 20, 51, 77, 78)
	wantNumbers := slices.Clone(numbers[:cap(numbers)])
	for size := range 7 {
		impl.WorstClass(numbers[:size])
		if !slices.Equal(numbers[:cap(numbers)], wantNumbers) {
			t.Fatalf("WorstClass of %d numbers: they are now %v", size, numbers)
		}
	}
}

// TestP1MeasuresAreNew: a result that is overwritten, with the capacity behind it, changes neither an argument nor another result, and the other way round.
func TestP1MeasuresAreNew(t *testing.T) {
	roomy := func() []impl.Measure {
		list := append(slices.Grow([]impl.Measure(nil), 80), mixedMeasures()...)
		return append(list, impl.Measure{Bell: "b", Partial: 1, Value: 55555})[:len(list)]
	}
	mark := impl.Measure{Bell: "mark", Partial: 3, Value: 77777}
	for _, limit := range []int64{0, 40, 120000} {
		list := roomy()
		want := slices.Clone(first(impl.WithoutOutliers(list, limit)))
		got := first(impl.WithoutOutliers(list, limit))
		overwrite(first(impl.WithoutOutliers(list, limit)), mark)
		if !slices.Equal(list[:cap(list)], roomy()[:cap(list)]) || !slices.Equal(got, want) || len(want) < 10 {
			t.Errorf("WithoutOutliers: the list is now %v, and %v has become %v", list, want, got)
		}
		overwrite(list, mark)
		if !slices.Equal(got, want) {
			t.Errorf("WithoutOutliers: got %v, which has become %v", want, got)
		}
	}
	for name, numbers := range map[string]func(list []impl.Measure) []int64{
		"ValuesOf":         func(list []impl.Measure) []int64 { return first(impl.ValuesOf(list, "bell", 1)) },
		"ValuesOf one":     func(list []impl.Measure) []int64 { return first(impl.ValuesOf(list, "bell", 5)) },
		"OutliersOf":       func(list []impl.Measure) []int64 { return first(impl.OutliersOf(list, 0)) },
		"OutliersOf at 40": func(list []impl.Measure) []int64 { return first(impl.OutliersOf(list, 40)) },
	} {
		list := roomy()
		want, got := slices.Clone(numbers(list)), numbers(list)
		overwrite(numbers(list), 99)
		overwrite(list, mark)
		if !slices.Equal(got, want) || len(want) == 0 {
			t.Errorf("%s: got %v, which has become %v", name, want, got)
		}
	}
	list := roomy()
	want, got := slices.Clone(first(impl.BellsMeasured(list))), first(impl.BellsMeasured(list))
	overwrite(first(impl.BellsMeasured(list)), "mark")
	overwrite(list, mark)
	if !slices.Equal(got, want) || len(want) != 5 {
		t.Errorf("BellsMeasured: got %q, which has become %q", want, got)
	}
}
