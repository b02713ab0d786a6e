package tests

import (
	"fmt"
	"math"
	"math/big"
	"math/rand"
	"slices"
	"strings"
	"testing"

	"loop.example/g00952/impl"
)

const (
	maxScale  = 1000
	codeOrder = 7
)

var (
	noScales  = []int64{math.MinInt64, math.MinInt64 + 1, -1000, -1, 0, 1001, 1<<32 + 1, math.MaxInt64 - 1, math.MaxInt64}
	noShares  = []int64{math.MinInt64, math.MinInt64 + 1, -1000, -2, -1, 1001, 1002, 1<<32 + 1, math.MaxInt64 - 1, math.MaxInt64}
	noCounts  = []int64{math.MinInt64, math.MinInt64 + 1, -64, -1, 0, 65, 66, 1<<32 + 1, math.MaxInt64 - 1, math.MaxInt64}
	noChanges = []int64{math.MinInt64, math.MinInt64 + 1, -150002, -150001, 150001, 150002, 1 << 32, math.MaxInt64 - 1, math.MaxInt64}
	noNames   = []string{"", "A", "New", "7a", "a b", "a ", " a", "abcdefghijk", "a-b", "\xff", "é", "a\x00", strings.Repeat("a", 1000)}
)

// read returns the valid profile with a text.
func read(text string) impl.Profile {
	p, ok := impl.ReadProfile(text)
	if !ok {
		panic("no profile: " + text)
	}
	return p
}

// ratioModel returns the number nearest to n num / den.
func ratioModel(n, num, den int64) int64 { return nearestModel(productOf(n, num), den) }

// changedModel returns the profile of the rings that a function makes, which need not be valid.
func changedModel(p impl.Profile, change func(k int, r impl.Ring) impl.Ring) impl.Profile {
	q := copyOf(p)
	for k, r := range p.Rings {
		q.Rings[k] = change(k, r)
	}
	return q
}

func sizeModel(p impl.Profile, num, den int64) impl.Profile {
	return changedModel(p, func(_ int, r impl.Ring) impl.Ring {
		return ringWith(ratioModel(r.Outer, num, den), ratioModel(r.Inner, num, den), ratioModel(r.Height, num, den))
	})
}

func blendModel(a, b impl.Profile, share int64) impl.Profile {
	return changedModel(a, func(k int, r impl.Ring) impl.Ring {
		other := b.Rings[k]
		return ringWith(r.Outer+ratioModel(other.Outer-r.Outer, share, 1000), r.Inner+ratioModel(other.Inner-r.Inner, share, 1000), r.Height+ratioModel(other.Height-r.Height, share, 1000))
	})
}

func smoothModel(p impl.Profile) impl.Profile {
	return changedModel(p, func(k int, r impl.Ring) impl.Ring {
		if k == 0 || k == len(p.Rings)-1 {
			return r
		}
		below, above := p.Rings[k-1], p.Rings[k+1]
		return ringWith(nearestModel(big.NewInt(below.Outer+2*r.Outer+above.Outer), 4), nearestModel(big.NewInt(below.Inner+2*r.Inner+above.Inner), 4), r.Height)
	})
}

// checkShape holds a result against the profile that it must be, or against ErrState if that is not valid.
func checkShape(t *testing.T, what string, got impl.Profile, code int64, want impl.Profile) bool {
	t.Helper()
	if !isProfile(want) {
		if !noProfile(got) || code != codeState {
			t.Errorf("%s: got %v %d, want the error %d", what, got, code, codeState)
		}
		return false
	}
	if !sameProfiles(got, want) || code != codeOK {
		t.Errorf("%s: got %v %d, want %v", what, got, code, want)
	}
	return true
}

// checkText holds a result and its code against a text and a code.
func checkText(t *testing.T, what string, got impl.Profile, code int64, want string, wantCode int64) {
	t.Helper()
	if impl.ProfileText(got) != want || code != wantCode || code != codeOK && !noProfile(got) {
		t.Errorf("%s: got %v %d, want %q %d", what, got, code, want, wantCode)
	}
}

func TestP8Constants(t *testing.T) {
	if impl.MaxScale != 1000 {
		t.Errorf("MaxScale is %d", impl.MaxScale)
	}
}

// TestP8Example is the example of the chapter.
func TestP8Example(t *testing.T) {
	got, code := impl.ScaleProfile(read("small 5000/4500/600"), 1, 2)
	checkText(t, "ScaleProfile(1, 2)", got, code, "small 2500/2250/300", codeOK)
}

func TestP8ScaleProfile(t *testing.T) {
	for _, c := range []struct {
		text     string
		num, den int64
		want     string
		code     int64
	}{
		{smallText, 1, 1, smallText, codeOK}, {smallText, 1000, 1000, smallText, codeOK}, {smallText, 3, 2, "small 7500/6750/900 7200/6600/1350", codeOK}, {smallText, 1, 2, "small 2500/2250/300 2400/2200/450", codeOK},
		// exactly between two numbers
		{"a 1001/501/21", 1, 2, "a 501/251/11", codeOK}, {"a 501/301/11", 3, 2, "a 752/452/17", codeOK}, {"a 1001/501/21", 500, 1000, "a 501/251/11", codeOK}, {"a 1002/502/22", 3, 4, "a 752/377/17", codeOK},
		// below and above the middle
		{"a 1000/500/100", 1, 3, "", codeState}, {"a 2000/1000/100", 1, 3, "a 667/333/33", codeOK},
		// the ends of ratios
		{"a 500/0/10", 300, 1, "a 150000/0/3000", codeOK}, {"a 500/0/10", 301, 1, "", codeState}, {"a 500/0/10", 1000, 1, "", codeState}, {"a 150000/0/10000", 1, 300, "a 500/0/33", codeOK}, {"a 150000/0/300000", 1, 1000, "", codeState},
		{"a 150000/0/300000", 1000, 1000, "a 150000/0/300000", codeOK}, {"a 150000/0/300000", 999, 1000, "a 149850/0/299700", codeOK}, {"a 150000/0/300000", 1000, 999, "", codeState}, {"a 150000/0/300000", 1000, 1, "", codeState},
		{"a 150000/149900/300000", 1000, 1000, "a 150000/149900/300000", codeOK}, {"a 149999/0/10", 1000, 1000, "a 149999/0/10", codeOK}, {"a 150000/0/300000", 1, 1, "a 150000/0/300000", codeOK},
		// each limit is passed alone
		{"a 999/0/1000", 1, 2, "a 500/0/500", codeOK}, {"a 998/0/1000", 1, 2, "", codeState}, {"a 5000/4801/1000", 1, 2, "", codeState}, {"a 5000/4800/1000", 1, 2, "a 2500/2400/500", codeOK}, {"a 5000/0/19", 1, 2, "a 2500/0/10", codeOK},
		{"a 5000/0/18", 1, 2, "", codeState}, {"a 500/0/200000", 3, 2, "a 750/0/300000", codeOK}, {"a 500/0/200001", 3, 2, "", codeState}, {"a 100000/0/10", 3, 2, "a 150000/0/15", codeOK}, {"a 100001/0/10", 3, 2, "", codeState},
		// 150001.5 and 149998.5 are too long when both are rounded, and a ring falls into the one above
		{"a 500/0/100001 500/0/99999", 3, 2, "", codeState}, {"a 500/0/100000 500/0/100000", 3, 2, "a 750/0/150000 750/0/150000", codeOK},
		{"a 3001/1901/100 1902/0/100", 1, 2, "", codeState}, {"a 3001/1901/100 1903/0/100", 1, 2, "a 1501/951/50 952/0/50", codeOK},
		// numbers that are no scales come before a result that is not valid
		{"a 500/0/10", 0, 11, "", codeRange}, {"a 500/0/10", 1, 0, "", codeRange}, {"a 500/0/10", 1001, 1, "", codeRange}, {"a 500/0/10", 1, 1001, "", codeRange}, {"a 500/0/10", 1, 11, "", codeState},
	} {
		got, code := impl.ScaleProfile(read(c.text), c.num, c.den)
		checkText(t, fmt.Sprintf("ScaleProfile(%q, %d, %d)", c.text, c.num, c.den), got, code, c.want, c.code)
	}
}

func TestP8ScalesAreNearest(t *testing.T) {
	random := rand.New(rand.NewSource(71))
	valid := 0
	for _, p := range weighedProfiles(72) {
		for _, ratio := range [][2]int64{{1, 1}, {1, 2}, {2, 1}, {999, 1000}, {1000, 999}, {1, 1000}, {1000, 1}, {1 + random.Int63n(1000), 1 + random.Int63n(1000)}, {500 + random.Int63n(500), 500 + random.Int63n(500)}} {
			num, den := ratio[0], ratio[1]
			got, code := impl.ScaleProfile(p, num, den)
			if checkShape(t, fmt.Sprintf("ScaleProfile(%v, %d, %d)", p, num, den), got, code, sizeModel(p, num, den)) {
				valid++
			}
		}
	}
	if valid < 1000 {
		t.Errorf("only %d results are valid", valid)
	}
}

func TestP8ScaleForPitch(t *testing.T) {
	for _, c := range []struct {
		text     string
		from, to int64
		want     string
		code     int64
	}{
		{smallText, 440000, 440000, smallText, codeOK}, {smallText, 440000, 880000, "small 2500/2250/300 2400/2200/450", codeOK}, {smallText, 440000, 220000, "small 10000/9000/1200 9600/8800/1800", codeOK},
		{smallText, 10000, 10000, smallText, codeOK}, {smallText, 20000000, 20000000, smallText, codeOK}, {smallText, 10000, 20000000, "", codeState}, {smallText, 20000000, 10000, "", codeState},
		// products that are greater than the numbers of DivRound
		{"a 150000/149900/300000", 20000000, 20000000, "a 150000/149900/300000", codeOK}, {"a 150000/0/300000", 20000000, 19999999, "a 150000/0/300000", codeOK}, {"a 150000/0/300000", 19999999, 20000000, "a 150000/0/300000", codeOK},
		{"a 150000/0/300000", 19000000, 20000000, "a 142500/0/285000", codeOK}, {"a 500/0/10", 20000000, 66667, "a 149999/0/3000", codeOK}, {"a 500/0/10", 20000000, 66666, "", codeState}, {"a 150000/0/10000", 66667, 20000000, "a 500/0/33", codeOK},
		// exactly between two numbers
		{"a 1001/501/21", 10000000, 20000000, "a 501/251/11", codeOK}, {"a 501/301/11", 15000, 10000, "a 752/452/17", codeOK}, {"a 5000/0/18", 440000, 880000, "", codeState},
		// numbers that are no frequencies come before a result that is not valid
		{smallText, 9999, 440000, "", codeRange}, {smallText, 440000, 9999, "", codeRange}, {smallText, 20000001, 440000, "", codeRange}, {smallText, 440000, 20000001, "", codeRange}, {smallText, 1, 2, "", codeRange}, {smallText, 0, 0, "", codeRange},
	} {
		got, code := impl.ScaleForPitch(read(c.text), c.from, c.to)
		checkText(t, fmt.Sprintf("ScaleForPitch(%q, %d, %d)", c.text, c.from, c.to), got, code, c.want, c.code)
	}
	random := rand.New(rand.NewSource(73))
	for _, p := range weighedProfiles(74) {
		for range 10 {
			from := randomFrequency(random)
			to := min(max(minHertz, from/2+random.Int63n(from)), maxHertz)
			got, code := impl.ScaleForPitch(p, from, to)
			checkShape(t, fmt.Sprintf("ScaleForPitch(%v, %d, %d)", p, from, to), got, code, sizeModel(p, from, to))
		}
	}
}

func TestP8PitchAfter(t *testing.T) {
	for _, c := range []struct{ f, num, den, want, code int64 }{
		{440000, 1, 1, 440000, codeOK}, {440000, 1, 2, 880000, codeOK}, {440000, 2, 1, 220000, codeOK}, {440000, 1000, 1000, 440000, codeOK}, {440000, 3, 2, 293333, codeOK}, {440000, 2, 3, 660000, codeOK},
		// exactly between two numbers
		{440001, 2, 1, 220001, codeOK}, {440003, 2, 1, 220002, codeOK}, {440001, 1000, 500, 220001, codeOK}, {440001, 2, 3, 660002, codeOK},
		// the ends of the range
		{20000000, 1000, 1000, 20000000, codeOK}, {20000000, 1000, 999, 19980000, codeOK}, {20000000, 999, 1000, 0, codeState}, {20000000, 1000, 1, 20000, codeOK}, {20000000, 1, 1000, 0, codeState},
		{10000, 1, 1000, 10000000, codeOK}, {10000, 1000, 999, 0, codeState}, {10000, 1000, 1, 0, codeState}, {10000, 1, 1, 10000, codeOK},
		{19999, 2, 1, 10000, codeOK}, {19998, 2, 1, 0, codeState}, {13333333, 2, 3, 20000000, codeOK}, {13333334, 2, 3, 0, codeState},
		// arguments before a result that is no frequency
		{440000, 0, 1, 0, codeRange}, {440000, 1, 0, 0, codeRange}, {440000, 1001, 1, 0, codeRange}, {440000, 1, 1001, 0, codeRange}, {440000, -1, -1, 0, codeRange}, {9999, 1, 2, 0, codeRange}, {20000001, 2, 1, 0, codeRange}, {440000, 1, 1000, 0, codeState},
	} {
		if got, code := impl.PitchAfter(c.f, c.num, c.den); got != c.want || code != c.code {
			t.Errorf("PitchAfter(%d, %d, %d): got %d %d, want %d %d", c.f, c.num, c.den, got, code, c.want, c.code)
		}
	}
	for _, f := range noFrequencies {
		if got, code := impl.PitchAfter(f, 1, 1); got != 0 || code != codeRange {
			t.Errorf("PitchAfter(%d, 1, 1): got %d %d", f, got, code)
		}
	}
	for _, n := range noScales {
		for _, m := range []int64{1, 1000, n} {
			got, code := impl.PitchAfter(440000, n, m)
			other, otherCode := impl.PitchAfter(440000, m, n)
			if got != 0 || other != 0 || code != codeRange || otherCode != codeRange {
				t.Errorf("PitchAfter(440000) with %d and %d: got %d %d and %d %d", n, m, got, code, other, otherCode)
			}
		}
	}
}

// TestP8ASmallerBellSoundsHigher: no measure of a smaller bell is greater, its pitch is higher, and the other way round.
func TestP8ASmallerBellSoundsHigher(t *testing.T) {
	random := rand.New(rand.NewSource(75))
	for range 20000 {
		f, num, den := randomFrequency(random), 1+random.Int63n(maxScale), 1+random.Int63n(maxScale)
		want := ratioModel(f, den, num)
		got, code := impl.PitchAfter(f, num, den)
		if !isFrequency(want) {
			if got != 0 || code != codeState {
				t.Errorf("PitchAfter(%d, %d, %d): got %d %d, want an error", f, num, den, got, code)
			}
			continue
		}
		if got != want || code != codeOK {
			t.Errorf("PitchAfter(%d, %d, %d): got %d %d, want %d", f, num, den, got, code, want)
		}
		if num < den && got <= f || num == den && got != f || num > den && got >= f {
			t.Errorf("PitchAfter(%d, %d, %d): got %d", f, num, den, got)
		}
	}
	for _, p := range weighedProfiles(76) {
		num, den := 1+random.Int63n(maxScale), 1+random.Int63n(maxScale)
		small, code := impl.ScaleProfile(p, min(num, den), max(num, den))
		if code == codeOK && !isPartOf(small, p) {
			t.Errorf("ScaleProfile(%v, %d, %d): %v is greater", p, min(num, den), max(num, den), small)
		}
		great, code := impl.ScaleProfile(p, max(num, den), min(num, den))
		if code == codeOK && !isPartOf(p, great) {
			t.Errorf("ScaleProfile(%v, %d, %d): %v is smaller", p, max(num, den), min(num, den), great)
		}
		f, g := randomFrequency(random), randomFrequency(random)
		higher, code := impl.ScaleForPitch(p, min(f, g), max(f, g))
		if code == codeOK && !isPartOf(higher, p) {
			t.Errorf("ScaleForPitch(%v, %d, %d): %v is greater", p, min(f, g), max(f, g), higher)
		}
	}
}

// isPartOf reports whether no measure of a is greater than that of b.
func isPartOf(a, b impl.Profile) bool {
	for k, r := range a.Rings {
		if other := b.Rings[k]; r.Outer > other.Outer || r.Inner > other.Inner || r.Height > other.Height {
			return false
		}
	}
	return len(a.Rings) == len(b.Rings)
}

// TestP8SizeAndPitchAgree: the profile for the pitch after a change of the size is that of this size, but for the rounding of the pitch.
func TestP8SizeAndPitchAgree(t *testing.T) {
	for _, p := range weighedProfiles(77) {
		for _, ratio := range [][2]int64{{1, 2}, {9, 10}, {10, 9}, {944, 1000}, {3, 4}} {
			to, pitchCode := impl.PitchAfter(440000, ratio[0], ratio[1])
			want, sizeCode := impl.ScaleProfile(p, ratio[0], ratio[1])
			got, code := impl.ScaleForPitch(p, 440000, to)
			if pitchCode != codeOK || sizeCode != codeOK || code != codeOK {
				continue
			}
			for k, r := range got.Rings {
				// half a millihertz of at least 396000 is less than half of one in 300000, so that rounding differs by one at most
				if w := want.Rings[k]; max(r.Outer-w.Outer, w.Outer-r.Outer, r.Inner-w.Inner, w.Inner-r.Inner, r.Height-w.Height, w.Height-r.Height) > 1 {
					t.Errorf("%v by %v: got %v for the pitch and %v for the size", p, ratio, got, want)
				}
			}
		}
	}
}

func TestP8FamilyOf(t *testing.T) {
	for _, c := range []struct {
		text            string
		num, den, count int64
		want            []string
		code            int64
	}{
		{smallText, 1, 2, 1, []string{smallText}, codeOK}, {smallText, 1, 1000, 1, []string{smallText}, codeOK}, {smallText, 1, 1, 2, []string{smallText, smallText}, codeOK}, {smallText, 1000, 1000, 3, []string{smallText, smallText, smallText}, codeOK},
		{"small 5000/4500/600", 90, 100, 3, []string{"small 5000/4500/600", "small 4500/4050/540", "small 4050/3645/486"}, codeOK},
		// each one is rounded from the one before: 4001 becomes 1001, not 1000
		{"a 4001/0/401", 1, 2, 3, []string{"a 4001/0/401", "a 2001/0/201", "a 1001/0/101"}, codeOK}, {"a 4001/0/401", 1, 2, 4, []string{"a 4001/0/401", "a 2001/0/201", "a 1001/0/101", "a 501/0/51"}, codeOK}, {"a 4001/0/401", 1, 2, 5, nil, codeState},
		// the wall of the fourth one is 62
		{"small 5000/4500/600", 1, 2, 3, []string{"small 5000/4500/600", "small 2500/2250/300", "small 1250/1125/150"}, codeOK}, {"small 5000/4500/600", 1, 2, 4, nil, codeState}, {"small 5000/4500/600", 1, 2, 64, nil, codeState}, {"small 5000/4500/600", 1, 1000, 2, nil, codeState},
		// arguments come before a family that is not valid
		{smallText, 0, 2, 1, nil, codeRange}, {smallText, 1, 0, 1, nil, codeRange}, {smallText, 1001, 1001, 1, nil, codeRange}, {smallText, 1, 1001, 1, nil, codeRange}, {smallText, 2, 1, 1, nil, codeRange}, {smallText, 1000, 999, 3, nil, codeRange},
		{smallText, 1, 2, 0, nil, codeRange}, {smallText, 1, 2, 65, nil, codeRange}, {smallText, 1, 1, 65, nil, codeRange}, {smallText, 1, 2, -1, nil, codeRange}, {smallText, 0, 0, 0, nil, codeRange},
	} {
		family, code := impl.FamilyOf(read(c.text), c.num, c.den, c.count)
		var got []string
		for _, member := range family {
			got = append(got, impl.ProfileText(member))
		}
		if !slices.Equal(got, c.want) || code != c.code {
			t.Errorf("FamilyOf(%q, %d, %d, %d): got %q %d, want %q %d", c.text, c.num, c.den, c.count, got, code, c.want, c.code)
		}
	}
	same, code := impl.FamilyOf(smallProfile(), 7, 7, 64)
	if len(same) != 64 || code != codeOK || slices.ContainsFunc(same, func(p impl.Profile) bool { return !sameProfiles(p, smallProfile()) }) {
		t.Errorf("FamilyOf 64 of one size: got %v %d", same, code)
	}
}

// TestP8FamiliesGoOn: each member is the one before of another size, and a family ends before the first one that is not valid.
func TestP8FamiliesGoOn(t *testing.T) {
	random := rand.New(rand.NewSource(78))
	for _, p := range weighedProfiles(79) {
		den := 1 + random.Int63n(maxScale)
		num := den - random.Int63n(1+den/4)
		want := []impl.Profile{p}
		for len(want) < maxList {
			next := sizeModel(want[len(want)-1], num, den)
			if !isProfile(next) {
				break
			}
			want = append(want, next)
		}
		for _, count := range []int64{1, 2, int64(len(want)) - 1, int64(len(want)), int64(len(want)) + 1, 64} {
			family, code := impl.FamilyOf(p, num, den, count)
			var wantCode int64
			switch {
			case count < 1 || count > maxList:
				wantCode = codeRange
			case count > int64(len(want)):
				wantCode = codeState
			}
			if code != wantCode || code == codeOK && !slices.EqualFunc(family, want[:count], sameProfiles) || code != codeOK && len(family) != 0 {
				t.Errorf("FamilyOf(%v, %d, %d, %d): got %v %d, want the code %d", p, num, den, count, family, code, wantCode)
			}
		}
	}
}

func TestP8BlendProfiles(t *testing.T) {
	great := "b 150000/149900/300000"
	for _, c := range []struct {
		a, b  string
		share int64
		want  string
		code  int64
	}{
		{"a 5000/4500/600", "b 6000/5000/800", 0, "a 5000/4500/600", codeOK}, {"a 5000/4500/600", "b 6000/5000/800", 1000, "a 6000/5000/800", codeOK}, {"a 5000/4500/600", "b 6000/5000/800", 500, "a 5500/4750/700", codeOK},
		{"a 5000/4500/600", "b 6000/5000/800", 1, "a 5001/4501/600", codeOK}, {"a 5000/4500/600", "b 6000/5000/800", 999, "a 5999/5000/800", codeOK}, {"b 6000/5000/800", "a 5000/4500/600", 1, "b 5999/4999/800", codeOK}, {"b 6000/5000/800", "a 5000/4500/600", 999, "b 5001/4500/600", codeOK},
		// exactly between two numbers, in both directions
		{"a 5000/4500/600", "b 5001/4499/605", 500, "a 5001/4499/603", codeOK}, {"b 5001/4499/605", "a 5000/4500/600", 500, "b 5000/4500/602", codeOK}, {"a 5000/4500/600", "b 5003/4497/595", 500, "a 5002/4498/597", codeOK},
		{"a 5000/4500/600", "b 5500/4000/600", 1, "a 5001/4499/600", codeOK}, {"a 5000/4500/600", "b 5499/4001/600", 1, "a 5000/4500/600", codeOK}, {"a 5000/4500/600", "b 5500/4000/600", 999, "a 5500/4000/600", codeOK}, {"a 5000/4500/600", "b 5501/3999/600", 999, "a 5500/4000/600", codeOK},
		// the greatest differences
		{"a 500/0/10", great, 0, "a 500/0/10", codeOK}, {"a 500/0/10", great, 1, "a 650/150/310", codeOK}, {"a 500/0/10", great, 999, "a 149851/149750/299700", codeOK}, {"a 500/0/10", great, 1000, "a 150000/149900/300000", codeOK},
		{great, "a 500/0/10", 1, "b 149850/149750/299700", codeOK}, {great, "a 500/0/10", 999, "b 649/150/310", codeOK}, {great, "a 500/0/10", 1000, "b 500/0/10", codeOK},
		{"small 5000/4500/600 4800/4400/900 4600/4100/500", "large 5200/4500/700 5000/4400/900 4700/4100/500", 500, "small 5100/4500/650 4900/4400/900 4650/4100/500", codeOK},
		// both are as long as possible, and with two heights that are rounded up a blend is longer by one
		{"a 500/0/100000 500/0/99999 500/0/100001", "b 500/0/100001 500/0/100000 500/0/99999", 500, "", codeState}, {"a 500/0/100000 500/0/99999 500/0/100001", "b 500/0/100001 500/0/100000 500/0/99999", 499, "a 500/0/100000 500/0/99999 500/0/100000", codeOK},
		// a share comes before the number of rings
		{smallText, "b 500/0/10", 0, "", codeOrder}, {smallText, "b 500/0/10", 1000, "", codeOrder}, {"b 500/0/10", smallText, 500, "", codeOrder}, {smallText, "b 500/0/10", -1, "", codeRange}, {smallText, "b 500/0/10", 1001, "", codeRange}, {"b 500/0/10", smallText, -1, "", codeRange},
		{smallText, smallText, -1, "", codeRange}, {smallText, smallText, 1001, "", codeRange}, {smallText, smallText, 333, smallText, codeOK},
	} {
		got, code := impl.BlendProfiles(read(c.a), read(c.b), c.share)
		checkText(t, fmt.Sprintf("BlendProfiles(%q, %q, %d)", c.a, c.b, c.share), got, code, c.want, c.code)
	}
	for _, share := range noShares {
		got, code := impl.BlendProfiles(smallProfile(), smallProfile(), share)
		checkText(t, fmt.Sprintf("BlendProfiles(%d)", share), got, code, "", codeRange)
	}
}

// TestP8BlendingLeadsOver: from a to the rings of b, and each measure only in one direction.
func TestP8BlendingLeadsOver(t *testing.T) {
	all := weighedProfiles(80)
	blended := 0
	for i, a := range all {
		for _, b := range all[i : min(i+40, len(all))-1] {
			if len(a.Rings) != len(b.Rings) {
				continue
			}
			blended++
			last := a
			for _, share := range []int64{0, 1, 333, 500, 666, 999, 1000} {
				want := blendModel(a, b, share)
				got, code := impl.BlendProfiles(a, b, share)
				if !checkShape(t, fmt.Sprintf("BlendProfiles(%v, %v, %d)", a, b, share), got, code, want) {
					continue
				}
				for k := range got.Rings {
					if !isOnTheWay(last.Rings[k], got.Rings[k], b.Rings[k]) {
						t.Errorf("BlendProfiles(%v, %v, %d): got %v after %v", a, b, share, got, last)
					}
				}
				last = got
			}
			if b.Name = a.Name; !sameProfiles(last, b) {
				t.Errorf("BlendProfiles(%v, %v): leads to %v", a, b, last)
			}
		}
	}
	if blended < 500 {
		t.Errorf("only %d pairs could be blended", blended)
	}
}

// isOnTheWay reports whether each measure of r is between those of the two others, or equal to one.
func isOnTheWay(from, r, to impl.Ring) bool {
	between := func(x, y, z int64) bool { return y >= min(x, z) && y <= max(x, z) }
	return between(from.Outer, r.Outer, to.Outer) && between(from.Inner, r.Inner, to.Inner) && between(from.Height, r.Height, to.Height)
}

func TestP8ThickenProfile(t *testing.T) {
	for _, c := range []struct {
		text string
		by   int64
		want string
		code int64
	}{
		{smallText, 0, smallText, codeOK}, {smallText, 100, "small 5100/4500/600 4900/4400/900", codeOK}, {smallText, -100, "small 4900/4500/600 4700/4400/900", codeOK}, {smallText, 1, "small 5001/4500/600 4801/4400/900", codeOK},
		{smallText, -299, "small 4701/4500/600 4501/4400/900", codeOK}, {smallText, -300, "", codeState}, {smallText, -400, "", codeState}, {smallText, -150000, "", codeState}, {smallText, 150000, "", codeState}, {smallText, -150001, "", codeRange}, {smallText, 150001, "", codeRange},
		{"a 500/0/10", 149500, "a 150000/0/10", codeOK}, {"a 500/0/10", 149501, "", codeState}, {"a 500/0/10", 150000, "", codeState}, {"a 500/0/10", -1, "", codeState}, {"a 501/0/10", -1, "a 500/0/10", codeOK}, {"a 150000/0/10", -149500, "a 500/0/10", codeOK},
		{"a 150000/0/10", -149501, "", codeState}, {"a 150000/0/10", -150000, "", codeState}, {"a 150000/0/10", 1, "", codeState}, {"a 900/800/10", -1, "", codeState}, {"a 900/799/10", -1, "a 899/799/10", codeOK},
		// the walls are thick enough, but a ring falls into the one above
		{"a 1000/800/20 801/0/20", -1, "", codeState}, {"a 1000/800/20 802/0/20", -1, "a 999/800/20 801/0/20", codeOK},
	} {
		got, code := impl.ThickenProfile(read(c.text), c.by)
		checkText(t, fmt.Sprintf("ThickenProfile(%q, %d)", c.text, c.by), got, code, c.want, c.code)
	}
	for _, by := range noChanges {
		got, code := impl.ThickenProfile(smallProfile(), by)
		checkText(t, fmt.Sprintf("ThickenProfile(%d)", by), got, code, "", codeRange)
	}
	random := rand.New(rand.NewSource(81))
	for _, p := range weighedProfiles(82) {
		for _, by := range []int64{0, 1, -1, 149500, -149500, maxRadius, -maxRadius, random.Int63n(801) - 400, random.Int63n(2*maxRadius+1) - maxRadius} {
			got, code := impl.ThickenProfile(p, by)
			want := changedModel(p, func(_ int, r impl.Ring) impl.Ring { return ringWith(r.Outer+by, r.Inner, r.Height) })
			if !checkShape(t, fmt.Sprintf("ThickenProfile(%v, %d)", p, by), got, code, want) {
				continue
			}
			if again, code := impl.ThickenProfile(got, -by); !sameProfiles(again, p) || code != codeOK {
				t.Errorf("ThickenProfile(%v, %d): got %v %d, want %v", got, -by, again, code, p)
			}
		}
	}
}

func TestP8SmoothProfile(t *testing.T) {
	for _, c := range []struct {
		text, want string
		code       int64
	}{
		{"a 5000/4500/600", "a 5000/4500/600", codeOK}, {smallText, smallText, codeOK}, {"a 5000/4500/600 4800/4400/900 4600/4100/500", "a 5000/4500/600 4800/4350/900 4600/4100/500", codeOK},
		// the rest is one, two (exactly between two numbers), three and none
		{"a 1000/500/10 1000/500/20 1001/502/30", "a 1000/500/10 1000/501/20 1001/502/30", codeOK}, {"a 1000/500/10 1000/500/20 1002/501/30", "a 1000/500/10 1001/500/20 1002/501/30", codeOK},
		{"a 1003/504/10 1000/500/20 1000/500/30", "a 1003/504/10 1001/501/20 1000/500/30", codeOK}, {"a 1000/500/10 1002/502/20 1000/500/30", "a 1000/500/10 1001/501/20 1000/500/30", codeOK},
		// four rings: the neighbours are those of the profile, not smoothed ones
		{"a 2000/1000/10 2400/1400/20 2000/1000/30 2000/1000/40", "a 2000/1000/10 2200/1200/20 2100/1100/30 2000/1000/40", codeOK}, {"a 2000/1000/10 2000/1000/20 2400/1400/30 2000/1000/40", "a 2000/1000/10 2100/1100/20 2200/1200/30 2000/1000/40", codeOK},
		{"a 150000/149900/10 150000/149900/20 150000/149900/30", "a 150000/149900/10 150000/149900/20 150000/149900/30", codeOK}, {"a 500/0/10 150000/0/20 150000/0/30", "a 500/0/10 112625/0/20 150000/0/30", codeOK},
		// the first or the last ring does not fit the smoothed one
		{"a 1000/900/20 901/0/20 500/0/20", "", codeState}, {"a 500/0/20 901/0/20 1000/900/20", "", codeState}, {"a 1000/900/20 1000/0/20 604/0/20", "a 1000/900/20 901/225/20 604/0/20", codeOK}, {"a 1000/900/20 1000/0/20 598/0/20", "a 1000/900/20 900/225/20 598/0/20", codeState},
		{"a 1000/0/20 1000/900/20 1000/0/20", "a 1000/0/20 1000/450/20 1000/0/20", codeOK},
	} {
		if c.code != codeOK {
			c.want = ""
		}
		got, code := impl.SmoothProfile(read(c.text))
		checkText(t, fmt.Sprintf("SmoothProfile(%q)", c.text), got, code, c.want, c.code)
	}
	for _, p := range weighedProfiles(83) {
		got, code := impl.SmoothProfile(p)
		checkShape(t, fmt.Sprintf("SmoothProfile(%v)", p), got, code, smoothModel(p))
	}
}

func TestP8GreatestStep(t *testing.T) {
	for text, want := range map[string]int64{
		"a 500/0/10": 0, smallText: 200, "a 4800/4400/900 5000/4500/600": 200, "a 500/0/10 500/100/10 500/0/10": 0, "a 500/0/10 150000/0/10": 149500, "a 150000/0/10 500/0/10": 149500,
		"a 900/0/10 800/0/10 1000/0/10 999/0/10": 200, "a 900/0/10 600/0/10 700/0/10 900/0/10": 300, "a 900/0/10 901/0/10 903/0/10 906/0/10": 3, "a 906/0/10 903/0/10 901/0/10 900/0/10": 3,
		// rings that do not follow one another are farther apart
		"a 600/0/10 700/0/10 800/0/10 900/0/10": 100,
	} {
		if got, code := impl.GreatestStep(read(text)); got != want || code != codeOK {
			t.Errorf("GreatestStep(%q): got %d %d, want %d", text, got, code, want)
		}
	}
	for _, p := range weighedProfiles(84) {
		want := int64(0)
		for k, r := range p.Rings[1:] {
			want = max(want, r.Outer-p.Rings[k].Outer, p.Rings[k].Outer-r.Outer)
		}
		if got, code := impl.GreatestStep(p); got != want || code != codeOK {
			t.Errorf("GreatestStep(%v): got %d %d, want %d", p, got, code, want)
		}
	}
}

func TestP8RenameProfile(t *testing.T) {
	for _, name := range []string{"a", "z", "new", "small", "abcdefghij", "a123456789"} {
		for _, p := range slices.Concat(goodProfiles(), greatestProfiles()) {
			got, code := impl.RenameProfile(p, name)
			if want := (impl.Profile{Name: name, Rings: p.Rings}); !sameProfiles(got, want) || code != codeOK {
				t.Errorf("RenameProfile(%v, %q): got %v %d", p, name, got, code)
			}
		}
	}
	for _, name := range noNames {
		got, code := impl.RenameProfile(smallProfile(), name)
		checkText(t, fmt.Sprintf("RenameProfile(%q)", name), got, code, "", codeInvalid)
	}
}

// TestP8NoScalesAndNoFrequencies: each number alone is an error, and so are both.
func TestP8NoScalesAndNoFrequencies(t *testing.T) {
	p := smallProfile()
	for _, n := range noScales {
		for _, other := range []int64{1, 1000, n} {
			for _, pair := range [][2]int64{{n, other}, {other, n}} {
				got, code := impl.ScaleProfile(p, pair[0], pair[1])
				checkText(t, fmt.Sprintf("ScaleProfile(%v)", pair), got, code, "", codeRange)
				if family, code := impl.FamilyOf(p, pair[0], pair[1], 1); len(family) != 0 || code != codeRange {
					t.Errorf("FamilyOf(%v): got %v %d", pair, family, code)
				}
			}
		}
	}
	for _, f := range noFrequencies {
		for _, other := range []int64{10000, 440000, 20000000, f} {
			for _, pair := range [][2]int64{{f, other}, {other, f}} {
				got, code := impl.ScaleForPitch(p, pair[0], pair[1])
				checkText(t, fmt.Sprintf("ScaleForPitch(%v)", pair), got, code, "", codeRange)
			}
		}
	}
	for _, count := range noCounts {
		if family, code := impl.FamilyOf(p, 1, 1, count); len(family) != 0 || code != codeRange {
			t.Errorf("FamilyOf(%d): got %v %d", count, family, code)
		}
	}
}

// TestP8InvalidProfiles: ErrInvalid comes before all other errors.
func TestP8InvalidProfiles(t *testing.T) {
	good := smallProfile()
	for _, p := range badProfiles() {
		shape := func(what string, got impl.Profile, code int64) {
			t.Helper()
			checkText(t, fmt.Sprintf("%s of %v", what, p), got, code, "", codeInvalid)
		}
		for _, n := range []int64{math.MinInt64, -150001, -1, 0, 1, 500, 440000, math.MaxInt64} {
			got, code := impl.ScaleProfile(p, n, 11)
			shape("ScaleProfile", got, code)
			got, code = impl.ScaleForPitch(p, n, 440000)
			shape("ScaleForPitch", got, code)
			got, code = impl.BlendProfiles(p, good, n)
			shape("BlendProfiles", got, code)
			got, code = impl.BlendProfiles(good, p, n)
			shape("BlendProfiles", got, code)
			got, code = impl.BlendProfiles(p, p, n)
			shape("BlendProfiles", got, code)
			got, code = impl.ThickenProfile(p, n)
			shape("ThickenProfile", got, code)
			if family, code := impl.FamilyOf(p, n, 1, n); len(family) != 0 || code != codeInvalid {
				t.Errorf("FamilyOf(%v, %d): got %v %d", p, n, family, code)
			}
		}
		got, code := impl.SmoothProfile(p)
		shape("SmoothProfile", got, code)
		got, code = impl.RenameProfile(p, "new")
		shape("RenameProfile", got, code)
		got, code = impl.RenameProfile(p, "New")
		shape("RenameProfile", got, code)
		if step, code := impl.GreatestStep(p); step != 0 || code != codeInvalid {
			t.Errorf("GreatestStep(%v): got %d %d", p, step, code)
		}
	}
}

// scalingResults has the results of all functions of the chapter for valid and invalid arguments, as texts.
func scalingResults() []string {
	var all []string
	add := func(results ...any) { all = append(all, fmt.Sprint(results...)) }
	numbers := slices.Concat(edgeNumbers, []int64{64, 65, 500, 999, 1000, 1001, 9999, 10000, 440000, 20000000, 20000001, 150000, 150001, -150000, -150001})
	profiles := slices.Concat(goodProfiles(), badProfiles(), greatestProfiles())
	for i, p := range profiles {
		add(impl.SmoothProfile(p))
		add(impl.GreatestStep(p))
		for j, n := range numbers {
			other := numbers[(i+j)%len(numbers)]
			add(impl.ScaleProfile(p, n, other))
			add(impl.ScaleProfile(p, 7, n))
			add(impl.ScaleForPitch(p, n, other))
			add(impl.ScaleForPitch(p, 440000, n))
			add(impl.PitchAfter(n, other, n))
			add(impl.PitchAfter(440000, n, other))
			add(impl.BlendProfiles(p, profiles[(i+j)%len(profiles)], n))
			add(impl.ThickenProfile(p, n))
			add(impl.FamilyOf(p, n, other, other))
			add(impl.FamilyOf(p, 9, 10, n))
			add(impl.FamilyOf(p, 1, 1, n))
		}
		for _, name := range slices.Concat(noNames, edgeTexts, []string{"new"}) {
			add(impl.RenameProfile(p, name))
		}
	}
	return all
}

// TestP1ScalingReturns: every function of chapter 7 returns for all arguments, and the same again.
func TestP1ScalingReturns(t *testing.T) {
	first := scalingResults()
	if again := scalingResults(); !slices.Equal(first, again) {
		t.Error("other results for equal arguments")
	}
}

// shapesOf returns the functions that make a profile of another one, with arguments that are right for most profiles.
func shapesOf() map[string]func(impl.Profile) (impl.Profile, int64) {
	return map[string]func(impl.Profile) (impl.Profile, int64){
		"ScaleProfile":        func(p impl.Profile) (impl.Profile, int64) { return impl.ScaleProfile(p, 3, 2) },
		"ScaleProfile by one": func(p impl.Profile) (impl.Profile, int64) { return impl.ScaleProfile(p, 1, 1) },
		"ScaleForPitch":       func(p impl.Profile) (impl.Profile, int64) { return impl.ScaleForPitch(p, 440000, 400000) },
		"ScaleForPitch same":  func(p impl.Profile) (impl.Profile, int64) { return impl.ScaleForPitch(p, 440000, 440000) },
		"BlendProfiles 0":     func(p impl.Profile) (impl.Profile, int64) { return impl.BlendProfiles(p, p, 0) },
		"BlendProfiles 1000": func(p impl.Profile) (impl.Profile, int64) {
			return impl.BlendProfiles(impl.Profile{Name: "b", Rings: slices.Clone(p.Rings)}, p, 1000)
		},
		"BlendProfiles 500": func(p impl.Profile) (impl.Profile, int64) {
			return impl.BlendProfiles(p, impl.Profile{Name: "b", Rings: slices.Repeat([]impl.Ring{ringWith(5200, 4500, 50)}, len(p.Rings))}, 500)
		},
		"ThickenProfile":      func(p impl.Profile) (impl.Profile, int64) { return impl.ThickenProfile(p, 77) },
		"ThickenProfile by 0": func(p impl.Profile) (impl.Profile, int64) { return impl.ThickenProfile(p, 0) },
		"SmoothProfile":       impl.SmoothProfile,
		"RenameProfile":       func(p impl.Profile) (impl.Profile, int64) { return impl.RenameProfile(p, "new") },
		"RenameProfile same":  func(p impl.Profile) (impl.Profile, int64) { return impl.RenameProfile(p, p.Name) },
		"FamilyOf":            func(p impl.Profile) (impl.Profile, int64) { return lastOf(impl.FamilyOf(p, 99, 100, 3)) },
		"FamilyOf one":        func(p impl.Profile) (impl.Profile, int64) { return lastOf(impl.FamilyOf(p, 99, 100, 1)) },
		"FamilyOf same":       func(p impl.Profile) (impl.Profile, int64) { return lastOf(impl.FamilyOf(p, 1, 1, 3)) },
	}
}

// lastOf returns the last member of a family.
func lastOf(family []impl.Profile, code int64) (impl.Profile, int64) {
	if len(family) == 0 {
		return impl.Profile{}, code
	}
	return family[len(family)-1], code
}

// TestP1ScalingKeepsItsArguments: neither the rings nor the capacity behind them are modified.
func TestP1ScalingKeepsItsArguments(t *testing.T) {
	whole := make([]impl.Ring, 40)
	for i := range whole {
		whole[i] = ringWith(5000+int64(i), 4500-int64(i*i%7), 40+int64(i))
	}
	before := slices.Clone(whole)
	for size := range len(whole) {
		p := impl.Profile{Name: "a", Rings: whole[:size]}
		for name, change := range shapesOf() {
			change(p)
			if !slices.Equal(whole, before) {
				t.Fatalf("%s of a profile of %d rings: the rings are now %v", name, size, whole)
			}
		}
		impl.GreatestStep(p)
		if !slices.Equal(whole, before) {
			t.Fatalf("GreatestStep of a profile of %d rings: the rings are now %v", size, whole)
		}
	}
}

// TestP1ScalingResultsAreNew: a result that is overwritten changes neither the argument nor any other result, and the other way round.
func TestP1ScalingResultsAreNew(t *testing.T) {
	for _, text := range []string{"small 5000/4500/600", smallText, "small 5000/4500/600 4800/4400/900 4700/4300/100"} {
		for name, change := range shapesOf() {
			checkNew(t, name, read(text), change)
		}
	}
}

func checkNew(t *testing.T, name string, plain impl.Profile, change func(impl.Profile) (impl.Profile, int64)) {
	t.Helper()
	mark := ringWith(1, 2, 3)
	roomy := append(slices.Grow(copyOf(plain).Rings, 10), mark)
	p := impl.Profile{Name: plain.Name, Rings: roomy[:len(plain.Rings)]}
	want, code := change(p)
	want = copyOf(want)
	overwrite(first(change(p)).Rings, mark)
	if !sameProfiles(p, plain) || roomy[len(plain.Rings)] != mark || code != codeOK || !isProfile(want) {
		t.Errorf("%s: the argument is now %v, and the result was %v %d", name, p, want, code)
	}
	got, other := first(change(p)), first(change(p))
	overwrite(other.Rings, mark)
	overwrite(p.Rings, mark)
	if !sameProfiles(got, want) {
		t.Errorf("%s: got %v, which has become %v", name, want, got)
	}
}

// TestP1FamiliesShareNothing: a member that is overwritten changes no other one, nor p.
func TestP1FamiliesShareNothing(t *testing.T) {
	mark := ringWith(1, 2, 3)
	for _, num := range []int64{99, 100} {
		for place := range 4 {
			p := smallProfile()
			want := first(impl.FamilyOf(p, num, 100, 4))
			family := first(impl.FamilyOf(p, num, 100, 4))
			overwrite(family[place].Rings, mark)
			for k, member := range family {
				if k != place && !sameProfiles(member, want[k]) || !sameProfiles(p, smallProfile()) {
					t.Errorf("FamilyOf(%d, 100): the member %d is overwritten, and %d is %v", num, place, k, member)
				}
			}
		}
	}
}
