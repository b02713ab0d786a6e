package tests

import (
	"fmt"
	"math"
	"math/rand"
	"slices"
	"strings"
	"testing"

	"loop.example/g00952/impl"
)

// maxSteps is the limit of chapter 9 that chapter 8 does not use, written out from the document.
const maxSteps = 20

// cutsOf returns the cuts of zones and steps, which follow one another.
func cutsOf(numbers ...int64) []impl.Cut {
	var cuts []impl.Cut
	for i := 0; i < len(numbers); i += 2 {
		cuts = append(cuts, impl.Cut{Zone: numbers[i], Steps: numbers[i+1]})
	}
	return cuts
}

// allZones returns a cut of some steps in each of the zones from 0 up.
func allZones(count int, steps int64) []impl.Cut {
	var cuts []impl.Cut
	for zone := range count {
		cuts = append(cuts, impl.Cut{Zone: int64(zone), Steps: steps})
	}
	return cuts
}

// goodCuts has valid cuts: none, with each number at its limits, of one zone and of all, and as many as possible.
func goodCuts() [][]impl.Cut {
	return [][]impl.Cut{
		nil, {}, cutsOf(0, 1), cutsOf(0, 20), cutsOf(7, 1), cutsOf(7, 20), cutsOf(0, 3, 2, 1), cutsOf(2, 1, 0, 3), cutsOf(1, 2, 0, 3, 1, 1), allZones(8, 1), allZones(8, 20), slices.Repeat(allZones(8, 2), 8),
		// several cuts of one zone, with a sum of MaxSteps, of one more, and of many more
		cutsOf(0, 19, 0, 1), cutsOf(0, 20, 0, 1), cutsOf(1, 20, 1, 1), cutsOf(7, 10, 7, 10), cutsOf(7, 10, 7, 11), slices.Repeat(cutsOf(3, 1), 20), slices.Repeat(cutsOf(3, 1), 21), slices.Repeat(cutsOf(0, 20), 64), slices.Repeat(cutsOf(7, 1), 64),
		cutsOf(1, 7, 0, 20, 1, 7, 2, 1, 1, 6), cutsOf(1, 7, 0, 20, 1, 7, 2, 1, 1, 7), cutsOf(0, 1, 1, 20, 0, 19), cutsOf(0, 1, 1, 20, 0, 20), slices.Repeat(allZones(8, 1), 8),
	}
}

// badCuts has cuts that are not valid, each for one reason or for several.
func badCuts() [][]impl.Cut {
	bad := [][]impl.Cut{{{}}, cutsOf(8, 21), cutsOf(-1, 0), slices.Repeat(cutsOf(0, 1), 65), slices.Repeat(cutsOf(7, 20), 65), slices.Repeat(cutsOf(0, 1), 1000), make([]impl.Cut, 65), append(slices.Repeat(cutsOf(0, 1), 63), impl.Cut{})}
	for _, zone := range []int64{math.MinInt64, math.MinInt64 + 1, -1 << 32, -8, -2, -1, 8, 9, 31, 32, 1 << 32, 1<<32 + 1, math.MaxInt64 - 1, math.MaxInt64} {
		bad = append(bad, cutsOf(zone, 1), cutsOf(zone, 20), cutsOf(0, 1, zone, 1), cutsOf(zone, 1, 0, 1), cutsOf(0, 1, zone, 1, 1, 1))
	}
	for _, steps := range noSteps {
		bad = append(bad, cutsOf(0, steps), cutsOf(7, steps), cutsOf(0, 1, 1, steps), cutsOf(0, steps, 1, 1), cutsOf(0, 1, 1, steps, 2, 1), cutsOf(0, steps, 0, -steps))
	}
	return bad
}

var noSteps = []int64{math.MinInt64, math.MinInt64 + 1, math.MinInt64 / 10, -1 << 32, -20, -1, 0, 21, 22, 40, 1 << 32, 1<<32 + 1, math.MaxInt64 / 10, math.MaxInt64/10 + 1, math.MaxInt64 - 1, math.MaxInt64}

func isCuts(cuts []impl.Cut) bool {
	for _, c := range cuts {
		if c.Zone < 0 || c.Zone >= maxZones || c.Steps < 1 || c.Steps > maxSteps {
			return false
		}
	}
	return len(cuts) <= maxList
}

// sumsModel returns the sum of the steps of each zone.
func sumsModel(cuts []impl.Cut) [maxZones]int64 {
	var sums [maxZones]int64
	for _, c := range cuts {
		sums[c.Zone] += c.Steps
	}
	return sums
}

// sortedModel returns one cut for each zone in ascending order, which need not be valid.
func sortedModel(cuts []impl.Cut) []impl.Cut {
	var sorted []impl.Cut
	for zone, sum := range sumsModel(cuts) {
		if sum > 0 {
			sorted = append(sorted, impl.Cut{Zone: int64(zone), Steps: sum})
		}
	}
	return sorted
}

// applyModel returns the profile after cuts, made one step after the other, or the error.
func applyModel(p impl.Profile, zones []int64, cuts []impl.Cut) (impl.Profile, int64) {
	if !areZonesOf(p, zones) || !isCuts(cuts) {
		return impl.Profile{}, codeInvalid
	}
	for _, c := range cuts {
		if c.Zone >= int64(len(zones)) {
			return impl.Profile{}, codeRange
		}
	}
	sums := sumsModel(cuts)
	if slices.Max(sums[:]) > maxSteps {
		return impl.Profile{}, codeFull
	}
	for _, c := range cuts {
		for range c.Steps {
			p = cutModel(p, zones, int(c.Zone), 1)
		}
	}
	if !isProfile(p) {
		return impl.Profile{}, codeState
	}
	return p, codeOK
}

// roomModel returns the greatest number of steps up to which all lead to valid profiles.
func roomModel(p impl.Profile, zones []int64, zone int) int64 {
	for steps := int64(1); steps <= maxSteps; steps++ {
		if !isProfile(cutModel(p, zones, zone, steps)) {
			return steps - 1
		}
	}
	return maxSteps
}

// chipsModel returns the sum of the steps of each ring times its height.
func chipsModel(p impl.Profile, zones []int64, cuts []impl.Cut) int64 {
	sum, sums := int64(0), sumsModel(cuts)
	for k, r := range p.Rings {
		sum += stepSize * sums[zoneModel(zones, k)] * r.Height
	}
	return sum
}

// randomZones returns zones of a profile with some number of rings.
func randomZones(random *rand.Rand, rings int) []int64 { return randomModel(random, rings).Zones }

// randomCuts returns up to 10 cuts of up to some number of steps in zones below some number.
func randomCuts(random *rand.Rand, zones int, steps int64) []impl.Cut {
	var cuts []impl.Cut
	for range random.Intn(11) {
		cuts = append(cuts, impl.Cut{Zone: random.Int63n(int64(zones)), Steps: 1 + random.Int63n(steps)})
	}
	return cuts
}

// thickProfiles has profiles of which each zone allows all steps.
func thickProfiles() []impl.Profile {
	thick := []impl.Profile{profileWith(ringWith(500, 0, 10)), profileWith(ringWith(150000, 0, 300000)), repeated(ringWith(150000, 0, 9375), 32), repeated(ringWith(500, 200, 10), 32), repeated(ringWith(150000, 149700, 9375), 32)}
	for count := 2; count <= 9; count++ {
		thick = append(thick, repeated(ringWith(5000, 4700, 600), count))
	}
	return thick
}

// turnedProfiles calls a function with many profiles, each with zones of it.
func turnedProfiles(seed int64, use func(random *rand.Rand, p impl.Profile, zones []int64)) {
	random := rand.New(rand.NewSource(seed))
	for _, p := range slices.Concat(weighedProfiles(seed+1), thickProfiles()) {
		use(random, p, []int64{0})
		for range 3 {
			use(random, p, randomZones(random, len(p.Rings)))
		}
	}
}

// checkCuts holds cuts and their code against what they must be.
func checkCuts(t *testing.T, what string, got []impl.Cut, code int64, want []impl.Cut, wantCode int64) {
	t.Helper()
	if !slices.Equal(got, want) || code != wantCode {
		t.Errorf("%s: got %v %d, want %v %d", what, got, code, want, wantCode)
	}
}

// checkNumber holds a number and its code against what they must be.
func checkNumber(t *testing.T, what string, got, code, want, wantCode int64) {
	t.Helper()
	if got != want || code != wantCode {
		t.Errorf("%s: got %d %d, want %d %d", what, got, code, want, wantCode)
	}
}

func TestP10Constants(t *testing.T) {
	got := []int64{impl.MaxZones, impl.MaxSteps, impl.StepSize}
	if want := []int64{8, 20, 10}; !slices.Equal(got, want) {
		t.Errorf("constants: got %v, want %v", got, want)
	}
}

// TestP10Example is the example of the chapter.
func TestP10Example(t *testing.T) {
	cuts, ok := impl.ReadCuts("0x3,2x1")
	if want := cutsOf(0, 3, 2, 1); !slices.Equal(cuts, want) || !ok || impl.CutsText(cuts) != "0x3,2x1" {
		t.Errorf("ReadCuts: got %v %v, want %v", cuts, ok, want)
	}
	total, code := impl.TotalSteps(cuts)
	checkNumber(t, "TotalSteps", total, code, 4, codeOK)
}

func TestP10ValidZones(t *testing.T) {
	for _, p := range slices.Concat(goodProfiles(), greatestProfiles(), badProfiles()) {
		rings := int64(len(p.Rings))
		for _, zones := range slices.Concat(goodZones, badZones, [][]int64{{0, rings - 2}, {0, rings - 1}, {0, rings}, {0, rings + 1}, {0, 1, rings - 1}, {0, 1, rings}, {rings - 1}, {rings}}) {
			if got := impl.ValidZones(p, zones); got != areZonesOf(p, zones) {
				t.Errorf("ValidZones(%v, %v): got %v", p, zones, got)
			}
		}
	}
	for rings := 1; rings <= 33; rings++ {
		p := repeated(ringWith(500, 0, 10), rings)
		for last := int64(-1); last <= 34; last++ {
			if got, want := impl.ValidZones(p, []int64{0, last}), rings <= 32 && last >= 1 && last < int64(rings); got != want {
				t.Errorf("ValidZones of %d rings, and %d: got %v", rings, last, got)
			}
		}
	}
}

// TestP10AllShortZones tries all lists of three numbers near those of the rings.
func TestP10AllShortZones(t *testing.T) {
	p := repeated(ringWith(500, 0, 10), 4)
	for a := int64(-1); a <= 5; a++ {
		for b := int64(-1); b <= 5; b++ {
			for c := int64(-1); c <= 5; c++ {
				got, want := impl.ValidZones(p, []int64{a, b, c}), a == 0 && b > 0 && c > b && c < 4
				if got != want {
					t.Errorf("ValidZones of four rings, and %d, %d, %d: got %v", a, b, c, got)
				}
			}
		}
	}
}

// TestP10NumberOfZones: 8 zones are enough, and 9 are too many, even for a profile with as many rings.
func TestP10NumberOfZones(t *testing.T) {
	p := repeated(ringWith(500, 0, 10), 32)
	for count := range 33 {
		var zones []int64
		for zone := range count {
			zones = append(zones, int64(zone))
		}
		want := count >= 1 && count <= 8
		_, code := impl.ZoneOf(zones, 0)
		if got := impl.ValidZones(p, zones); got != want || (code == codeOK) != want {
			t.Errorf("%d zones: ValidZones is %v, and the code of ZoneOf %d", count, got, code)
		}
	}
}

func TestP10ZoneOf(t *testing.T) {
	for _, c := range []struct {
		zones            []int64
		ring, want, code int64
	}{
		{[]int64{0}, 0, 0, codeOK}, {[]int64{0}, 31, 0, codeOK}, {[]int64{0}, 32, 0, codeRange}, {[]int64{0}, -1, 0, codeRange},
		{[]int64{0, 2, 5}, 0, 0, codeOK}, {[]int64{0, 2, 5}, 1, 0, codeOK}, {[]int64{0, 2, 5}, 2, 1, codeOK}, {[]int64{0, 2, 5}, 4, 1, codeOK}, {[]int64{0, 2, 5}, 5, 2, codeOK}, {[]int64{0, 2, 5}, 31, 2, codeOK},
		{[]int64{0, 31}, 30, 0, codeOK}, {[]int64{0, 31}, 31, 1, codeOK}, {[]int64{0, 31}, 32, 0, codeRange}, {[]int64{0, 1, 2, 3, 4, 5, 6, 7}, 7, 7, codeOK}, {[]int64{0, 1, 2, 3, 4, 5, 6, 7}, 31, 7, codeOK},
		// zones that are none come before a ring that is none
		{nil, 0, 0, codeInvalid}, {nil, -1, 0, codeInvalid}, {[]int64{1}, 32, 0, codeInvalid}, {[]int64{0, 32}, 32, 0, codeInvalid}, {[]int64{0, 32}, 0, 0, codeInvalid}, {[]int64{-1}, 0, 0, codeInvalid},
	} {
		got, code := impl.ZoneOf(c.zones, c.ring)
		checkNumber(t, fmt.Sprintf("ZoneOf(%v, %d)", c.zones, c.ring), got, code, c.want, c.code)
	}
	random := rand.New(rand.NewSource(101))
	lists := slices.Concat(goodZones, badZones)
	for range 200 {
		lists = append(lists, randomZones(random, maxRings))
	}
	for _, zones := range lists {
		for _, ring := range append(slices.Clone(edgeNumbers), 4, 5, 6, 7, 8, 9, 23, 24, 25, 28, 29, 30, 31, 32, 33, 1<<32, 1<<32+5) {
			want, wantCode := int64(0), int64(codeInvalid)
			if isZones(zones) && (ring < 0 || ring >= maxRings) {
				wantCode = codeRange
			} else if isZones(zones) {
				want, wantCode = int64(zoneModel(zones, int(ring))), codeOK
			}
			got, code := impl.ZoneOf(zones, ring)
			checkNumber(t, fmt.Sprintf("ZoneOf(%v, %d)", zones, ring), got, code, want, wantCode)
		}
	}
}

func TestP10ValidCuts(t *testing.T) {
	for _, cuts := range goodCuts() {
		if !impl.ValidCuts(cuts) || !isCuts(cuts) {
			t.Errorf("ValidCuts(%v): got false", cuts)
		}
	}
	for _, cuts := range badCuts() {
		if impl.ValidCuts(cuts) || isCuts(cuts) {
			t.Errorf("ValidCuts(%v): got true", cuts)
		}
	}
	for zone := int64(-3); zone <= 35; zone++ {
		for steps := int64(-3); steps <= 45; steps++ {
			if got, want := impl.ValidCuts(cutsOf(zone, steps)), zone >= 0 && zone <= 7 && steps >= 1 && steps <= 20; got != want {
				t.Errorf("ValidCuts of %d steps in the zone %d: got %v", steps, zone, got)
			}
		}
	}
	for count := range 200 {
		if got := impl.ValidCuts(slices.Repeat(cutsOf(1, 1), count)); got != (count <= 64) {
			t.Errorf("ValidCuts of %d cuts: got %v", count, got)
		}
	}
}

func TestP10SortCuts(t *testing.T) {
	for _, c := range []struct {
		cuts, want []impl.Cut
		code       int64
	}{
		{nil, nil, codeOK}, {cutsOf(0, 3), cutsOf(0, 3), codeOK}, {cutsOf(1, 2, 0, 3, 1, 1), cutsOf(0, 3, 1, 3), codeOK}, {cutsOf(7, 1, 6, 2, 5, 3, 4, 4, 3, 5, 2, 6, 1, 7, 0, 8), cutsOf(0, 8, 1, 7, 2, 6, 3, 5, 4, 4, 5, 3, 6, 2, 7, 1), codeOK},
		{allZones(8, 20), allZones(8, 20), codeOK}, {slices.Repeat(allZones(8, 2), 8), allZones(8, 16), codeOK}, {slices.Repeat(allZones(4, 1), 16), allZones(4, 16), codeOK}, {slices.Repeat(cutsOf(3, 1), 20), cutsOf(3, 20), codeOK},
		{slices.Repeat(cutsOf(3, 1), 21), nil, codeFull},
		{cutsOf(0, 19, 0, 1), cutsOf(0, 20), codeOK}, {cutsOf(0, 20, 0, 1), nil, codeFull}, {cutsOf(7, 10, 7, 10), cutsOf(7, 20), codeOK}, {cutsOf(7, 10, 7, 11), nil, codeFull}, {slices.Repeat(cutsOf(0, 20), 64), nil, codeFull},
		{slices.Repeat(cutsOf(7, 1), 64), nil, codeFull},
		// sums of different zones are not added
		{cutsOf(0, 20, 1, 20), cutsOf(0, 20, 1, 20), codeOK}, {cutsOf(1, 7, 0, 20, 1, 7, 2, 1, 1, 6), cutsOf(0, 20, 1, 20, 2, 1), codeOK}, {cutsOf(1, 7, 0, 20, 1, 7, 2, 1, 1, 7), nil, codeFull},
		// cuts that are not valid come before a sum that is too great
		{cutsOf(0, 20, 0, 1, 8, 1), nil, codeInvalid}, {cutsOf(0, 20, 0, 1, 0, 0), nil, codeInvalid}, {cutsOf(0, 20, 0, 21), nil, codeInvalid}, {slices.Repeat(cutsOf(0, 20), 65), nil, codeInvalid}, {slices.Repeat(cutsOf(0, 1), 65), nil, codeInvalid},
	} {
		got, code := impl.SortCuts(c.cuts)
		checkCuts(t, fmt.Sprintf("SortCuts(%v)", c.cuts), got, code, c.want, c.code)
	}
	random := rand.New(rand.NewSource(102))
	lists := goodCuts()
	for range 2000 {
		lists = append(lists, randomCuts(random, 1+random.Intn(maxZones), 1+random.Int63n(maxSteps)))
	}
	sorted := 0
	for _, cuts := range lists {
		want, wantCode := sortedModel(cuts), int64(codeOK)
		if !isCuts(want) {
			want, wantCode = nil, codeFull
		} else {
			sorted++
		}
		got, code := impl.SortCuts(cuts)
		checkCuts(t, fmt.Sprintf("SortCuts(%v)", cuts), got, code, want, wantCode)
		if again, againCode := impl.SortCuts(got); code == codeOK && (!slices.Equal(again, got) || againCode != codeOK) {
			t.Errorf("SortCuts(%v), which is sorted: got %v %d", got, again, againCode)
		}
	}
	if sorted < 500 || len(lists)-sorted < 500 {
		t.Errorf("only %d of %d lists were sorted", sorted, len(lists))
	}
}

func TestP10TotalSteps(t *testing.T) {
	for _, c := range []struct {
		cuts []impl.Cut
		want int64
	}{
		{nil, 0}, {cutsOf(0, 1), 1}, {cutsOf(7, 20), 20}, {cutsOf(0, 3, 2, 1), 4}, {cutsOf(1, 2, 0, 3, 1, 1), 6}, {allZones(8, 20), 160}, {slices.Repeat(cutsOf(3, 1), 21), 21},
		// more steps in a zone than a profile may have
		{cutsOf(0, 20, 0, 1), 21}, {slices.Repeat(cutsOf(0, 20), 64), 1280}, {slices.Repeat(allZones(8, 20), 8), 1280}, {slices.Repeat(cutsOf(7, 1), 64), 64},
	} {
		got, code := impl.TotalSteps(c.cuts)
		checkNumber(t, fmt.Sprintf("TotalSteps(%v)", c.cuts), got, code, c.want, codeOK)
	}
	for _, cuts := range goodCuts() {
		sums, want := sumsModel(cuts), int64(0)
		for _, sum := range sums {
			want += sum
		}
		got, code := impl.TotalSteps(cuts)
		checkNumber(t, fmt.Sprintf("TotalSteps(%v)", cuts), got, code, want, codeOK)
	}
	for _, cuts := range badCuts() {
		got, code := impl.TotalSteps(cuts)
		checkNumber(t, fmt.Sprintf("TotalSteps(%v)", cuts), got, code, 0, codeInvalid)
	}
}

const threeText = "small 5000/4500/600 4800/4400/900 4600/4100/500"

func TestP10ApplyCuts(t *testing.T) {
	for _, c := range []struct {
		text  string
		zones []int64
		cuts  []impl.Cut
		want  string
		code  int64
	}{
		{threeText, []int64{0, 2}, cutsOf(1, 2, 0, 3, 1, 1), "small 5000/4530/600 4800/4430/900 4600/4130/500", codeOK}, {threeText, []int64{0, 1}, cutsOf(1, 2, 0, 3, 1, 1), "small 5000/4530/600 4800/4430/900 4600/4130/500", codeOK},
		{threeText, []int64{0, 1, 2}, cutsOf(1, 2), "small 5000/4500/600 4800/4420/900 4600/4100/500", codeOK},
		{threeText, []int64{0}, cutsOf(0, 19), "small 5000/4690/600 4800/4590/900 4600/4290/500", codeOK}, {threeText, []int64{0}, cutsOf(0, 20), "", codeState}, {threeText, []int64{0, 2}, nil, threeText, codeOK},
		{threeText, []int64{0, 2}, cutsOf(1, 20), "small 5000/4500/600 4800/4400/900 4600/4300/500", codeOK}, {"a 500/0/10", []int64{0}, cutsOf(0, 20), "a 500/200/10", codeOK},
		// several cuts of one zone with a sum of MaxSteps and one more
		{"a 500/0/10", []int64{0}, cutsOf(0, 10, 0, 10), "a 500/200/10", codeOK}, {"a 500/0/10", []int64{0}, cutsOf(0, 20, 0, 1), "", codeFull}, {"a 500/0/10", []int64{0}, slices.Repeat(cutsOf(0, 1), 20), "a 500/200/10", codeOK},
		{"a 500/0/10", []int64{0}, slices.Repeat(cutsOf(0, 1), 21), "", codeFull},
		// a wall that is exactly as thin as is allowed, and one step or less thinner
		{"a 500/390/10", []int64{0}, cutsOf(0, 1), "a 500/400/10", codeOK}, {"a 500/391/10", []int64{0}, cutsOf(0, 1), "", codeState}, {"a 500/400/10", []int64{0}, cutsOf(0, 1), "", codeState},
		{"a 500/390/10", []int64{0}, cutsOf(0, 1, 0, 1), "", codeState}, {"a 500/200/10", []int64{0}, cutsOf(0, 20), "a 500/400/10", codeOK}, {"a 500/210/10", []int64{0}, cutsOf(0, 20), "", codeState},
		{"a 500/201/10", []int64{0}, cutsOf(0, 20), "", codeState},
		{"a 5000/4800/10 5000/4890/10", []int64{0}, cutsOf(0, 1), "a 5000/4810/10 5000/4900/10", codeOK}, {"a 5000/4800/10 5000/4890/10", []int64{0}, cutsOf(0, 2), "", codeState},
		{"a 5000/4800/10 5000/4890/10", []int64{0, 1}, cutsOf(0, 2), "a 5000/4820/10 5000/4890/10", codeOK}, {"a 5000/4800/10 5000/4890/10", []int64{0, 1}, cutsOf(0, 2, 1, 2), "", codeState},
		// two rings that just lie and no longer lie beside one another, above and below
		{"a 1000/800/20 811/0/20", []int64{0, 1}, cutsOf(0, 1), "a 1000/810/20 811/0/20", codeOK}, {"a 1000/800/20 810/0/20", []int64{0, 1}, cutsOf(0, 1), "", codeState}, {"a 1000/800/20 811/0/20", []int64{0, 1}, cutsOf(0, 2), "", codeState},
		{"a 1000/800/20 810/0/20", []int64{0, 1}, cutsOf(1, 20), "a 1000/800/20 810/200/20", codeOK},
		{"a 811/0/20 1000/800/20", []int64{0, 1}, cutsOf(1, 1), "a 811/0/20 1000/810/20", codeOK}, {"a 810/0/20 1000/800/20", []int64{0, 1}, cutsOf(1, 1), "", codeState}, {"a 810/0/20 1000/800/20", []int64{0}, cutsOf(0, 1), "", codeState},
		{"a 811/0/20 1000/800/20", []int64{0}, cutsOf(0, 1), "a 811/10/20 1000/810/20", codeOK},
		// zones that the profile does not have come before too many steps, and those before a result that is not valid
		{threeText, []int64{0, 2}, cutsOf(2, 1), "", codeRange}, {threeText, []int64{0, 2}, cutsOf(0, 1, 1, 1, 2, 1), "", codeRange}, {threeText, []int64{0, 2}, cutsOf(7, 20), "", codeRange}, {threeText, []int64{0}, cutsOf(1, 1), "", codeRange},
		{threeText, []int64{0}, cutsOf(0, 20, 0, 1, 1, 1), "", codeRange}, {threeText, []int64{0}, cutsOf(1, 20, 1, 1), "", codeRange},
		{"a 500/400/10", []int64{0}, cutsOf(0, 1, 1, 1), "", codeRange}, {"a 500/400/10", []int64{0}, cutsOf(0, 20, 0, 1), "", codeFull}, {"a 500/400/10", []int64{0}, slices.Repeat(cutsOf(0, 20), 64), "", codeFull},
		// all errors of arguments that are not valid come first
		{threeText, []int64{1}, cutsOf(2, 1), "", codeInvalid}, {threeText, []int64{0, 3}, cutsOf(0, 1), "", codeInvalid}, {threeText, []int64{0, 3}, cutsOf(2, 1), "", codeInvalid}, {threeText, nil, nil, "", codeInvalid},
		{threeText, []int64{0}, cutsOf(8, 1), "", codeInvalid}, {threeText, []int64{0}, cutsOf(1, 1, 0, 0), "", codeInvalid}, {threeText, []int64{0}, slices.Repeat(cutsOf(1, 1), 65), "", codeInvalid},
		// the last zone of 32 rings, and cuts of all zones
		{"a" + strings.Repeat(" 500/0/10", 32), []int64{0, 31}, cutsOf(1, 1), "a" + strings.Repeat(" 500/0/10", 31) + " 500/10/10", codeOK},
		{"a" + strings.Repeat(" 500/0/10", 32), []int64{0, 31}, cutsOf(0, 1), "a" + strings.Repeat(" 500/10/10", 31) + " 500/0/10", codeOK},
		{"a" + strings.Repeat(" 500/0/10", 8), []int64{0, 1, 2, 3, 4, 5, 6, 7}, allZones(8, 20), "a" + strings.Repeat(" 500/200/10", 8), codeOK},
		{"a" + strings.Repeat(" 500/0/10", 3), []int64{0, 1, 2}, cutsOf(2, 3, 0, 1, 1, 2), "a 500/10/10 500/20/10 500/30/10", codeOK},
	} {
		got, code := impl.ApplyCuts(read(c.text), c.zones, c.cuts)
		checkText(t, fmt.Sprintf("ApplyCuts(%q, %v, %v)", c.text, c.zones, c.cuts), got, code, c.want, c.code)
	}
}

// TestP10AllCuts makes cuts of zones that exist and of some that do not, and holds the result and its code against the model.
func TestP10AllCuts(t *testing.T) {
	codes := map[int64]int{}
	turnedProfiles(103, func(random *rand.Rand, p impl.Profile, zones []int64) {
		lists := [][]impl.Cut{randomCuts(random, len(zones), 3), randomCuts(random, len(zones), maxSteps), randomCuts(random, maxZones, 5), goodCuts()[random.Intn(len(goodCuts()))], badCuts()[random.Intn(len(badCuts()))]}
		for _, cuts := range lists {
			want, wantCode := applyModel(p, zones, cuts)
			got, code := impl.ApplyCuts(p, zones, cuts)
			if !sameProfiles(got, want) || code != wantCode {
				t.Errorf("ApplyCuts(%v, %v, %v): got %v %d, want %v %d", p, zones, cuts, got, code, want, wantCode)
			}
			codes[code]++
			wantChips := int64(0)
			if wantCode == codeOK {
				wantChips = chipsModel(p, zones, cuts)
			}
			chips, code := impl.ChipsOf(p, zones, cuts)
			checkNumber(t, fmt.Sprintf("ChipsOf(%v, %v, %v)", p, zones, cuts), chips, code, wantChips, wantCode)
		}
	})
	for _, code := range []int64{codeOK, codeInvalid, codeRange, codeFull, codeState} {
		if codes[code] < 100 {
			t.Errorf("only %d results have the code %d", codes[code], code)
		}
	}
}

// TestP10CutsOnlyTakeMetalAway: Inner grows by as much as is told, nothing else changes, and the order of cuts does not matter.
func TestP10CutsOnlyTakeMetalAway(t *testing.T) {
	made := 0
	turnedProfiles(104, func(random *rand.Rand, p impl.Profile, zones []int64) {
		cuts := randomCuts(random, len(zones), 5)
		got, code := impl.ApplyCuts(p, zones, cuts)
		random.Shuffle(len(cuts), func(i, k int) { cuts[i], cuts[k] = cuts[k], cuts[i] })
		if other, otherCode := impl.ApplyCuts(p, zones, cuts); !sameProfiles(other, got) || otherCode != code {
			t.Errorf("ApplyCuts(%v, %v, %v): got %v %d, and in another order %v %d", p, zones, cuts, got, code, other, otherCode)
		}
		if code != codeOK {
			return
		}
		made++
		sums := sumsModel(cuts)
		for k, r := range got.Rings {
			zone := first(impl.ZoneOf(zones, int64(k)))
			if told := p.Rings[k].Inner + 10*sums[zone]; r != ringWith(p.Rings[k].Outer, told, p.Rings[k].Height) {
				t.Errorf("ApplyCuts(%v, %v, %v): the ring %d is %v", p, zones, cuts, k, r)
			}
		}
		if got.Name != p.Name || len(got.Rings) != len(p.Rings) || !impl.ValidProfile(got) {
			t.Errorf("ApplyCuts(%v, %v, %v): got %v", p, zones, cuts, got)
		}
		checkOneByOne(t, p, zones, cuts, got)
	})
	if made < 500 {
		t.Errorf("only %d lists of cuts were made", made)
	}
}

// checkOneByOne makes cuts one after the other, which leads to the same profile with as many chips.
func checkOneByOne(t *testing.T, p impl.Profile, zones []int64, cuts []impl.Cut, want impl.Profile) {
	t.Helper()
	got, sum := p, int64(0)
	for i := range cuts {
		chips, code := impl.ChipsOf(got, zones, cuts[i:i+1])
		next, nextCode := impl.ApplyCuts(got, zones, cuts[i:i+1])
		if code != codeOK || nextCode != codeOK {
			t.Errorf("%v, %v: the cut %v of %v gives %d %d", p, zones, cuts[i], cuts, code, nextCode)
		}
		got, sum = next, sum+chips
	}
	if !sameProfiles(got, want) {
		t.Errorf("%v, %v: the cuts %v lead to %v, and together to %v", p, zones, cuts, got, want)
	}
	whole, code := impl.ChipsOf(p, zones, cuts)
	checkNumber(t, fmt.Sprintf("ChipsOf(%v, %v, %v)", p, zones, cuts), whole, code, sum, codeOK)
}

func TestP10ChipsOf(t *testing.T) {
	for _, c := range []struct {
		text       string
		zones      []int64
		cuts       []impl.Cut
		want, code int64
	}{
		{threeText, []int64{0, 2}, cutsOf(1, 2, 0, 3, 1, 1), 60000, codeOK}, {threeText, []int64{0, 2}, nil, 0, codeOK}, {threeText, []int64{0, 2}, cutsOf(0, 1), 15000, codeOK}, {threeText, []int64{0, 2}, cutsOf(1, 1), 5000, codeOK},
		{threeText, []int64{0, 1, 2}, cutsOf(1, 7), 63000, codeOK},
		{"a 500/0/10", []int64{0}, cutsOf(0, 1), 100, codeOK}, {"a 150000/0/300000", []int64{0}, cutsOf(0, 20), 60000000, codeOK}, {"a" + strings.Repeat(" 150000/0/9375", 32), []int64{0, 31}, cutsOf(0, 20, 1, 20), 60000000, codeOK},
		{"a" + strings.Repeat(" 150000/0/9375", 32), []int64{0, 31}, cutsOf(1, 20), 1875000, codeOK},
		{threeText, []int64{0, 2}, cutsOf(2, 1), 0, codeRange}, {threeText, []int64{0, 2}, cutsOf(0, 20, 0, 1, 2, 1), 0, codeRange}, {threeText, []int64{0, 2}, cutsOf(0, 20, 0, 20), 0, codeFull},
		{threeText, []int64{0, 2}, cutsOf(0, 31), 0, codeInvalid}, {threeText, []int64{0, 2}, cutsOf(0, 19, 1, 1), 290000, codeOK}, {threeText, []int64{0, 2}, cutsOf(0, 20, 1, 1), 0, codeState},
		{"a 500/400/10", []int64{0}, cutsOf(0, 1), 0, codeState}, {"a 500/390/10", []int64{0}, cutsOf(0, 1), 100, codeOK}, {"a 1000/800/20 810/0/20", []int64{0, 1}, cutsOf(0, 1), 0, codeState}, {threeText, []int64{0, 3}, cutsOf(2, 1), 0, codeInvalid},
	} {
		got, code := impl.ChipsOf(read(c.text), c.zones, c.cuts)
		checkNumber(t, fmt.Sprintf("ChipsOf(%q, %v, %v)", c.text, c.zones, c.cuts), got, code, c.want, c.code)
	}
}

func TestP10MostSteps(t *testing.T) {
	for _, c := range []struct {
		text             string
		zones            []int64
		zone, want, code int64
	}{
		{"thin 5000/4700/600 4800/4400/900 4600/4380/500", []int64{0, 1, 2}, 0, 9, codeOK}, {"thin 5000/4700/600 4800/4400/900 4600/4380/500", []int64{0, 1, 2}, 1, 19, codeOK},
		{"thin 5000/4700/600 4800/4400/900 4600/4380/500", []int64{0, 1, 2}, 2, 12, codeOK}, {"thin 5000/4700/600 4800/4400/900 4600/4380/500", []int64{0, 2}, 0, 9, codeOK},
		{"thin 5000/4700/600 4800/4400/900 4600/4380/500", []int64{0}, 0, 9, codeOK},
		// the thinnest ring of a zone limits it, wherever it is, and the rings of other zones do not
		{"a 5000/4800/10 5000/4850/10 5000/4700/10", []int64{0}, 0, 5, codeOK}, {"a 5000/4850/10 5000/4800/10 5000/4700/10", []int64{0}, 0, 5, codeOK}, {"a 5000/4700/10 5000/4800/10 5000/4850/10", []int64{0}, 0, 5, codeOK},
		{"a 5000/4700/10 5000/4900/10", []int64{0, 1}, 0, 20, codeOK}, {"a 5000/4700/10 5000/4900/10", []int64{0, 1}, 1, 0, codeOK}, {"a 5000/4900/10 5000/4700/10", []int64{0}, 0, 0, codeOK},
		// MaxSteps, one less, and walls that would allow more
		{"a 500/200/10", []int64{0}, 0, 20, codeOK}, {"a 500/201/10", []int64{0}, 0, 19, codeOK}, {"a 500/210/10", []int64{0}, 0, 19, codeOK}, {"a 500/211/10", []int64{0}, 0, 18, codeOK}, {"a 500/190/10", []int64{0}, 0, 20, codeOK},
		{"a 500/0/10", []int64{0}, 0, 20, codeOK}, {"a 150000/0/300000", []int64{0}, 0, 20, codeOK},
		{"a 500/390/10", []int64{0}, 0, 1, codeOK}, {"a 500/391/10", []int64{0}, 0, 0, codeOK}, {"a 500/400/10", []int64{0}, 0, 0, codeOK}, {"a 500/380/10", []int64{0}, 0, 2, codeOK},
		// a ring beside another one limits it before the wall does
		{"a 1000/800/20 811/0/20", []int64{0, 1}, 0, 1, codeOK}, {"a 1000/800/20 810/0/20", []int64{0, 1}, 0, 0, codeOK}, {"a 811/0/20 1000/800/20", []int64{0, 1}, 1, 1, codeOK}, {"a 810/0/20 1000/800/20", []int64{0, 1}, 1, 0, codeOK},
		{"a 1000/700/20 801/0/20", []int64{0, 1}, 0, 10, codeOK}, {"a 1000/700/20 801/0/20", []int64{0, 1}, 1, 20, codeOK}, {"a 1000/700/20 800/0/20", []int64{0}, 0, 9, codeOK},
		{"a 500/0/10", []int64{0}, 1, 0, codeRange}, {"a 500/0/10", []int64{0}, -1, 0, codeRange}, {"a 500/400/10", []int64{0}, 1, 0, codeRange}, {threeText, []int64{0, 2}, 2, 0, codeRange}, {threeText, []int64{0, 1, 2}, 2, 20, codeOK},
		{threeText, []int64{0, 1, 2}, 3, 0, codeRange},
		{threeText, []int64{0, 2}, 1 << 32, 0, codeRange}, {threeText, []int64{0, 2}, 1<<32 + 1, 0, codeRange}, {threeText, []int64{0, 2}, math.MinInt64, 0, codeRange}, {threeText, []int64{0, 2}, math.MaxInt64, 0, codeRange},
		{threeText, []int64{2}, 0, 0, codeInvalid}, {threeText, []int64{0, 3}, 2, 0, codeInvalid}, {threeText, nil, 0, 0, codeInvalid},
	} {
		got, code := impl.MostSteps(read(c.text), c.zones, c.zone)
		checkNumber(t, fmt.Sprintf("MostSteps(%q, %v, %d)", c.text, c.zones, c.zone), got, code, c.want, c.code)
	}
}

// TestP10AllWalls tries all walls from the least one to those that allow all steps.
func TestP10AllWalls(t *testing.T) {
	for wall := int64(100); wall <= 500; wall++ {
		want := min(20, (wall-100)/10)
		got, code := impl.MostSteps(profileWith(ringWith(500, 500-wall, 10)), []int64{0}, 0)
		checkNumber(t, fmt.Sprintf("MostSteps of the wall %d", wall), got, code, want, codeOK)
	}
}

func TestP10RoomOf(t *testing.T) {
	for _, c := range []struct {
		text        string
		zones, want []int64
		code        int64
	}{
		{"thin 5000/4700/600 4800/4400/900 4600/4380/500", []int64{0, 1, 2}, []int64{9, 19, 12}, codeOK}, {"thin 5000/4700/600 4800/4400/900 4600/4380/500", []int64{0, 2}, []int64{9, 12}, codeOK}, {"a 500/0/10", []int64{0}, []int64{20}, codeOK},
		{"a 500/400/10", []int64{0}, []int64{0}, codeOK},
		{"a 500/0/10 500/399/10 500/390/10 500/380/10 500/200/10 500/210/10 500/0/10 500/400/10", []int64{0, 1, 2, 3, 4, 5, 6, 7}, []int64{20, 0, 1, 2, 20, 19, 20, 0}, codeOK}, {"a 500/0/10", []int64{0, 1}, nil, codeInvalid},
		{"a 500/0/10", nil, nil, codeInvalid}, {"a 500/0/10", []int64{1}, nil, codeInvalid},
	} {
		got, code := impl.RoomOf(read(c.text), c.zones)
		checkList(t, fmt.Sprintf("RoomOf(%q, %v)", c.text, c.zones), got, code, c.want, c.code)
	}
}

// TestP10RoomIsEnough: as many steps as there is room for can be made, and one more cannot.
func TestP10RoomIsEnough(t *testing.T) {
	seen := map[int64]int{}
	turnedProfiles(105, func(random *rand.Rand, p impl.Profile, zones []int64) {
		var want []int64
		for zone := range zones {
			room := roomModel(p, zones, zone)
			want = append(want, room)
			seen[room]++
			got, code := impl.MostSteps(p, zones, int64(zone))
			checkNumber(t, fmt.Sprintf("MostSteps(%v, %v, %d)", p, zones, zone), got, code, room, codeOK)
			for steps := int64(1); steps <= maxSteps; steps++ {
				wantCode := int64(codeOK)
				if steps > room {
					wantCode = codeState
				}
				if _, code := impl.ApplyCuts(p, zones, cutsOf(int64(zone), steps)); code != wantCode {
					t.Errorf("ApplyCuts(%v, %v) of %d steps in the zone %d: got %d, want %d", p, zones, steps, zone, code, wantCode)
				}
			}
		}
		got, code := impl.RoomOf(p, zones)
		checkList(t, fmt.Sprintf("RoomOf(%v, %v)", p, zones), got, code, want, codeOK)
	})
	for room := int64(0); room <= maxSteps; room++ {
		if seen[room] == 0 {
			t.Errorf("no zone has room for %d steps", room)
		}
	}
}

func TestP10CutsBetween(t *testing.T) {
	for _, c := range []struct {
		a, b  string
		zones []int64
		want  []impl.Cut
		code  int64
	}{
		{threeText, "small 5000/4530/600 4800/4430/900 4600/4130/500", []int64{0, 2}, cutsOf(0, 3, 1, 3), codeOK}, {threeText, "small 5000/4530/600 4800/4430/900 4600/4130/500", []int64{0}, cutsOf(0, 3), codeOK},
		{threeText, "small 5000/4530/600 4800/4430/900 4600/4130/500", []int64{0, 1, 2}, cutsOf(0, 3, 1, 3, 2, 3), codeOK},
		// equal profiles, and zones that are not cut before, between and behind those that are
		{threeText, threeText, []int64{0, 2}, nil, codeOK}, {threeText, threeText, []int64{0}, nil, codeOK}, {threeText, "small 5000/4500/600 4800/4410/900 4600/4100/500", []int64{0, 1, 2}, cutsOf(1, 1), codeOK},
		{threeText, "small 5000/4510/600 4800/4400/900 4600/4120/500", []int64{0, 1, 2}, cutsOf(0, 1, 2, 2), codeOK},
		{"a 500/0/10", "a 500/200/10", []int64{0}, cutsOf(0, 20), codeOK}, {"a 500/0/10", "a 500/10/10", []int64{0}, cutsOf(0, 1), codeOK},
		// more than MaxSteps, metal that was added, and no multiple of StepSize
		{"a 500/0/10", "a 500/210/10", []int64{0}, nil, codeMissing}, {"a 500/0/10", "a 500/400/10", []int64{0}, nil, codeMissing}, {"a 500/200/10", "a 500/190/10", []int64{0}, nil, codeMissing},
		{"a 500/200/10", "a 500/0/10", []int64{0}, nil, codeMissing}, {"a 500/200/10", "a 500/199/10", []int64{0}, nil, codeMissing}, {"a 150000/149900/10", "a 150000/0/10", []int64{0}, nil, codeMissing},
		{"a 150000/0/10", "a 150000/149900/10", []int64{0}, nil, codeMissing},
		{"a 500/0/10", "a 500/1/10", []int64{0}, nil, codeMissing}, {"a 500/0/10", "a 500/9/10", []int64{0}, nil, codeMissing}, {"a 500/0/10", "a 500/11/10", []int64{0}, nil, codeMissing},
		{"a 500/0/10", "a 500/15/10", []int64{0}, nil, codeMissing}, {"a 500/0/10", "a 500/199/10", []int64{0}, nil, codeMissing}, {"a 500/0/10", "a 500/201/10", []int64{0}, nil, codeMissing},
		{"a 500/0/10", "a 500/209/10", []int64{0}, nil, codeMissing},
		// different numbers of steps within a zone, which are found in more zones
		{"a 500/0/10 500/0/10", "a 500/10/10 500/20/10", []int64{0}, nil, codeMissing}, {"a 500/0/10 500/0/10", "a 500/20/10 500/10/10", []int64{0}, nil, codeMissing}, {"a 500/0/10 500/0/10", "a 500/0/10 500/10/10", []int64{0}, nil, codeMissing},
		{"a 500/0/10 500/0/10", "a 500/10/10 500/0/10", []int64{0}, nil, codeMissing}, {"a 500/0/10 500/0/10", "a 500/10/10 500/20/10", []int64{0, 1}, cutsOf(0, 1, 1, 2), codeOK},
		{"a 500/10/10 500/0/10", "a 500/20/10 500/20/10", []int64{0}, nil, codeMissing}, {"a 500/0/10 500/0/10 500/0/10", "a 500/10/10 500/10/10 500/0/10", []int64{0, 1}, nil, codeMissing},
		{"a 500/0/10 500/0/10 500/0/10", "a 500/10/10 500/10/10 500/0/10", []int64{0, 2}, cutsOf(0, 1), codeOK}, {"a 500/0/10 500/0/10", "a 500/10/10 500/1/10", []int64{0, 1}, nil, codeMissing},
		// other radii and heights
		{"a 500/0/10", "a 501/0/10", []int64{0}, nil, codeMissing}, {"a 500/0/10", "a 510/10/10", []int64{0}, nil, codeMissing}, {"a 500/0/10", "a 500/0/11", []int64{0}, nil, codeMissing},
		{"a 500/0/10", "a 500/10/11", []int64{0}, nil, codeMissing}, {"a 500/0/10 500/0/10", "a 500/10/10 501/10/10", []int64{0, 1}, nil, codeMissing}, {"a 500/0/10 500/0/10", "a 500/10/10 500/10/20", []int64{0}, nil, codeMissing},
		// other names and numbers of rings come before cuts that are none
		{"a 500/0/10", "b 500/0/10", []int64{0}, nil, codeOrder}, {"a 500/0/10", "b 500/1/10", []int64{0}, nil, codeOrder}, {"a 500/0/10", "a 500/0/10 500/0/10", []int64{0}, nil, codeOrder},
		{"a 500/0/10 500/0/10", "a 500/0/10", []int64{0}, nil, codeOrder}, {"a 500/0/10 500/0/10", "a 500/0/10", []int64{0, 1}, nil, codeOrder}, {"a 500/0/10", "b 500/0/10 500/0/10", []int64{0}, nil, codeOrder},
		{"a 500/0/20", "a 500/0/10 500/0/10", []int64{0}, nil, codeOrder},
		// zones that are not those of the first profile come before all of that, also if they are those of the other one
		{"a 500/0/10", "a 500/0/10 500/0/10", []int64{0, 1}, nil, codeInvalid}, {"a 500/0/10", "b 500/1/10", []int64{0, 1}, nil, codeInvalid}, {"a 500/0/10", "a 500/0/10", nil, nil, codeInvalid},
		{"a 500/0/10", "a 500/0/10", []int64{1}, nil, codeInvalid}, {"a 500/0/10", "a 500/10/10", []int64{0, 32}, nil, codeInvalid},
	} {
		got, code := impl.CutsBetween(read(c.a), read(c.b), c.zones)
		checkCuts(t, fmt.Sprintf("CutsBetween(%q, %q, %v)", c.a, c.b, c.zones), got, code, c.want, c.code)
	}
}

// TestP10CutsAreFoundAgain: the cuts that lead from a profile to another one are found from both, and never the other way.
func TestP10CutsAreFoundAgain(t *testing.T) {
	found := map[int]int{}
	turnedProfiles(106, func(random *rand.Rand, p impl.Profile, zones []int64) {
		cuts := randomCuts(random, len(zones), 4)
		q, code := impl.ApplyCuts(p, zones, cuts)
		if code != codeOK {
			return
		}
		want := sortedModel(cuts)
		found[len(want)]++
		got, code := impl.CutsBetween(p, q, zones)
		checkCuts(t, fmt.Sprintf("CutsBetween(%v, %v, %v)", p, q, zones), got, code, want, codeOK)
		backCode := int64(codeOK)
		if len(want) > 0 {
			backCode = codeMissing
		}
		got, code = impl.CutsBetween(q, p, zones)
		checkCuts(t, fmt.Sprintf("CutsBetween(%v, %v, %v)", q, p, zones), got, code, nil, backCode)
		checkOtherProfile(t, random, p, q, zones)
	})
	for count := range 5 {
		if found[count] < 10 {
			t.Errorf("only %d lists of %d cuts are found", found[count], count)
		}
	}
}

// checkOtherProfile changes one number of the profile after cuts: what is found then leads there too, or there is nothing.
func checkOtherProfile(t *testing.T, random *rand.Rand, p, q impl.Profile, zones []int64) {
	t.Helper()
	q = copyOf(q)
	r := &q.Rings[random.Intn(len(q.Rings))]
	by := []int64{-10, -1, 1, 5, 10, 20}[random.Intn(6)]
	switch random.Intn(4) {
	case 0:
		r.Outer += by
	case 1:
		r.Height += by
	default:
		r.Inner += by
	}
	if !isProfile(q) {
		return
	}
	// each zone is tried alone: the steps that lead there are at most one number
	var want []impl.Cut
	wantCode := int64(codeOK)
	for zone := range zones {
		steps := stepsModel(p, q, zones, zone)
		if steps < 0 {
			want, wantCode = nil, codeMissing
			break
		}
		if steps > 0 {
			want = append(want, impl.Cut{Zone: int64(zone), Steps: steps})
		}
	}
	got, code := impl.CutsBetween(p, q, zones)
	checkCuts(t, fmt.Sprintf("CutsBetween(%v, %v, %v)", p, q, zones), got, code, want, wantCode)
}

// stepsModel returns the steps after which the rings of a zone are those of another profile, or -1.
func stepsModel(p, q impl.Profile, zones []int64, zone int) int64 {
	for steps := int64(0); steps <= maxSteps; steps++ {
		after, same := cutModel(p, zones, zone, steps), true
		for k := range after.Rings {
			same = same && (zoneModel(zones, k) != zone || after.Rings[k] == q.Rings[k])
		}
		if same {
			return steps
		}
	}
	return -1
}

// latheCodes returns the codes of all functions with a profile and zones; with an error no other result may come.
func latheCodes(t *testing.T, p, q impl.Profile, zones []int64, cuts []impl.Cut, zone int64) []int64 {
	t.Helper()
	turned, turnedCode := impl.ApplyCuts(p, zones, cuts)
	most, mostCode := impl.MostSteps(p, zones, zone)
	room, roomCode := impl.RoomOf(p, zones)
	between, betweenCode := impl.CutsBetween(p, q, zones)
	chips, chipsCode := impl.ChipsOf(p, zones, cuts)
	if turnedCode != codeOK && !noProfile(turned) || mostCode != codeOK && most != 0 || roomCode != codeOK && len(room) > 0 || betweenCode != codeOK && len(between) > 0 || chipsCode != codeOK && chips != 0 {
		t.Errorf("%v, %v, %v, %v, %d: got a result and an error: %v %d, %d %d, %v %d, %v %d, %d %d", p, q, zones, cuts, zone, turned, turnedCode, most, mostCode, room, roomCode, between, betweenCode, chips, chipsCode)
	}
	return []int64{turnedCode, mostCode, roomCode, betweenCode, chipsCode}
}

// TestP10InvalidArguments: ErrInvalid comes before all other errors, whatever the others are.
func TestP10InvalidArguments(t *testing.T) {
	invalid := []int64{codeInvalid, codeInvalid, codeInvalid, codeInvalid, codeInvalid}
	lists := [][]impl.Cut{nil, cutsOf(0, 1), cutsOf(7, 20), cutsOf(0, 20, 0, 1), cutsOf(8, 0)}
	whole := repeated(ringWith(500, 400, 10), 32)
	for i, zones := range badZones {
		for _, cuts := range lists {
			for _, q := range []impl.Profile{whole, smallProfile(), {}} {
				if got := latheCodes(t, whole, q, zones, cuts, edgeNumbers[i%len(edgeNumbers)]); !slices.Equal(got, invalid) {
					t.Errorf("the zones %v, and the cuts %v: got the codes %v", zones, cuts, got)
				}
			}
		}
	}
	for i, p := range badProfiles() {
		for _, cuts := range lists {
			for _, zones := range [][]int64{{0}, {0, 1}, {0, 31}, {0, 32}, {1}, nil} {
				if got := latheCodes(t, p, copyOf(p), zones, cuts, edgeNumbers[i%len(edgeNumbers)]); !slices.Equal(got, invalid) {
					t.Errorf("%v, the zones %v, and the cuts %v: got the codes %v", p, zones, cuts, got)
				}
			}
		}
		for _, zones := range [][]int64{{0}, {0, 1}} {
			got, code := impl.CutsBetween(smallProfile(), p, zones)
			checkCuts(t, fmt.Sprintf("CutsBetween(small, %v, %v)", p, zones), got, code, nil, codeInvalid)
		}
	}
	for _, cuts := range badCuts() {
		for _, zones := range [][]int64{{0}, {0, 1}, {0, 1, 2, 3, 4, 5, 6, 7}} {
			want := []int64{codeInvalid, codeOK, codeOK, codeOK, codeInvalid}
			if got := latheCodes(t, whole, whole, zones, cuts, 0); !slices.Equal(got, want) {
				t.Errorf("the zones %v, and the cuts %v: got the codes %v, want %v", zones, cuts, got, want)
			}
		}
		got, code := impl.SortCuts(cuts)
		checkCuts(t, fmt.Sprintf("SortCuts(%v)", cuts), got, code, nil, codeInvalid)
	}
}

var cutsTexts = []string{"-", "0x1", "7x20", "0x3,2x1", "2x1,0x3", "1x2,0x3,1x1", "0x20,0x20", "0x9,1x10,2x11,3x19,4x1,5x5,6x6,7x7", strings.Repeat("0x1,", 63) + "0x1", strings.Repeat("7x20,", 63) + "7x20"}

func TestP10CutsTexts(t *testing.T) {
	for _, text := range cutsTexts {
		cuts, ok := impl.ReadCuts(text)
		if got := impl.CutsText(cuts); got != text || !ok {
			t.Errorf("ReadCuts(%q): got %v %v, with the text %q", text, cuts, ok, got)
		}
	}
	random := rand.New(rand.NewSource(107))
	lists := goodCuts()
	for range 500 {
		lists = append(lists, randomCuts(random, maxZones, maxSteps))
	}
	for _, cuts := range lists {
		var parts []string
		for _, c := range cuts {
			parts = append(parts, fmt.Sprintf("%dx%d", c.Zone, c.Steps))
		}
		want := strings.Join(parts, ",")
		if len(cuts) == 0 {
			want = "-"
		}
		text := impl.CutsText(cuts)
		if text != want {
			t.Errorf("CutsText(%v): got %q, want %q", cuts, text, want)
		}
		if got, ok := impl.ReadCuts(text); !slices.Equal(got, cuts) || !ok {
			t.Errorf("ReadCuts(%q): got %v %v, want %v", text, got, ok, cuts)
		}
	}
	for _, cuts := range badCuts() {
		if got := impl.CutsText(cuts); got != "" {
			t.Errorf("CutsText(%v): got %q, want none", cuts, got)
		}
	}
}

// TestP10AllShortCuts reads all cuts of up to two digits each.
func TestP10AllShortCuts(t *testing.T) {
	for zone := int64(-20); zone <= 99; zone++ {
		for steps := int64(-20); steps <= 99; steps++ {
			text, want := fmt.Sprintf("%dx%d", zone, steps), cutsOf(zone, steps)
			if !isCuts(want) {
				want = nil
			}
			if got, ok := impl.ReadCuts(text); !slices.Equal(got, want) || ok != (want != nil) {
				t.Errorf("ReadCuts(%q): got %v %v, want %v", text, got, ok, want)
			}
		}
	}
}

func TestP10ReadCuts(t *testing.T) {
	bad := []string{
		// missing, superfluous and empty parts
		"x", "0", "0x", "x1", "0x1x1", "0xx1", "x0x1", "0x1x", ",", "0x1,", ",0x1", "0x1,,1x1", "0x1,1", "0x1,x", "0x1,1x", "0x1,x1", "0,1", "01", "0x1,1x1,", "--", "-,", ",-", "-,0x1", "0x1,-", "-x1", "0x-", "-x-", "- ",
		// leading zeros and signs
		"00x1", "01x1", "0x01", "0x020", "07x1", "+0x1", "-0x1", "0x+1", "-1x1", "0x-1", "0x-0", "+1x+1", "0x1,01x1", "0x1,1x01", "0x1,-1x1", "0x1,+1x1",
		// capital X, other separators and spaces
		"0X1", "0x3,2X1", "0X3,2x1", "0*1", "0:1", "0/1", "0×1", "0x1;1x1", "0x1 1x1", "0x1/1x1", "0x1.1x1", "0x1|1x1", " 0x1", "0x1 ", "0 x1", "0x 1", "0 x 1", "0x1, 1x1", "0x1 ,1x1", "\t0x1", "0x1\n", "0x1\x00", "0\u00a0x1", " - ", " -", "-\n",
		// numbers that are no zones or steps
		"0x0", "8x1", "0x21", "7x21", "8x20", "9x1", "10x1", "0x100", "0x200", "0x1,8x1", "0x1,0x0", "0x1,0x21", "8x1,0x1", "0x1.0", "0.0x1", "0x1e1", "ax1", "0xa", "0x0x1", "0x1_0", "٣x1", "0x٣", "\xffx1", "0x\xff",
		"4294967296x1", "0x4294967297", "18446744073709551616x1", "0x18446744073709551617", "9223372036854775808x1", "0x9223372036854775807", "-9223372036854775808x1", "0x-9223372036854775808", "0x999999999999999999", "0x1000000000000000001",
		// one cut too many, and many more
		strings.Repeat("0x1,", 64) + "0x1", strings.Repeat("0x1,", 64), strings.Repeat("0x1,", 65), strings.Repeat("0x1,", 5000) + "0x1", strings.Repeat(",", 1000), strings.Repeat("x", 1000), strings.Repeat("0x", 1000), "0x" + strings.Repeat("1", 1000), strings.Repeat("0", 1000) + "x1",
	}
	for _, s := range slices.Concat(bad, edgeTexts, pointedTexts, temperamentTexts, soundTexts, profileTexts, modelTexts) {
		// two of the texts of chapter 1 are those of cuts
		if got, ok := impl.ReadCuts(s); (len(got) > 0 || ok) && !slices.Contains(cutsTexts, s) {
			t.Errorf("ReadCuts(%q): got %v %v, want none", s, got, ok)
		}
	}
}

// TestP10DamagedTextsAreNotRead: a text that is damaged is that of the cuts that are read, or of none.
func TestP10DamagedTextsAreNotRead(t *testing.T) {
	for _, s := range damagedTexts(cutsTexts, " 0129xX,-+") {
		got, ok := impl.ReadCuts(s)
		if ok && (impl.CutsText(got) != s || !isCuts(got)) || !ok && len(got) > 0 {
			t.Errorf("ReadCuts(%q): got %v %v", s, got, ok)
		}
	}
}

// latheResults has the results of all functions of the chapter for valid and invalid arguments, as texts.
func latheResults() []string {
	var all []string
	add := func(results ...any) { all = append(all, fmt.Sprint(results...)) }
	lists := slices.Concat(goodCuts(), badCuts())
	numbers := slices.Concat(edgeNumbers, []int64{4, 7, 8, 20, 21, 31, 32})
	for _, cuts := range lists {
		add(impl.ValidCuts(cuts), impl.CutsText(cuts))
		add(impl.SortCuts(cuts))
		add(impl.TotalSteps(cuts))
	}
	for i, zones := range slices.Concat(goodZones, badZones) {
		for _, n := range numbers {
			add(impl.ZoneOf(zones, n))
			add(impl.MostSteps(smallProfile(), zones, n))
		}
		for j, p := range slices.Concat(goodProfiles(), badProfiles(), greatestProfiles()) {
			cuts := lists[(i*7+j)%len(lists)]
			add(impl.ValidZones(p, zones))
			add(impl.ApplyCuts(p, zones, cuts))
			add(impl.MostSteps(p, zones, numbers[(i+j)%len(numbers)]))
			add(impl.RoomOf(p, zones))
			add(impl.CutsBetween(p, smallProfile(), zones))
			add(impl.CutsBetween(smallProfile(), p, zones))
			add(impl.CutsBetween(p, p, zones))
			add(impl.ChipsOf(p, zones, cuts))
		}
	}
	for _, s := range slices.Concat(cutsTexts, edgeTexts, pointedTexts) {
		add(impl.ReadCuts(s))
	}
	return all
}

// TestP1LatheReturns: every function of chapter 9 returns for all arguments, and the same again.
func TestP1LatheReturns(t *testing.T) {
	first := latheResults()
	for range 3 {
		if again := latheResults(); !slices.Equal(first, again) {
			t.Error("other results for equal arguments")
		}
	}
}

// roomyThree returns three rings, two zones of them and four cuts, each with more of its kind behind it.
func roomyThree() ([]impl.Ring, []int64, []impl.Cut) {
	rings := append(slices.Grow([]impl.Ring(nil), 12), ringWith(5000, 4500, 600), ringWith(4800, 4400, 900), ringWith(4600, 4100, 500), ringWith(4600, 4000, 500), ringWith(1, 2, 3))
	return rings, append(slices.Grow([]int64(nil), 12), 0, 2, 3, 77, 78), append(slices.Grow(cutsOf(), 12), cutsOf(1, 2, 0, 3, 1, 1, 0, 2, 1, 4, 9, 99)...)
}

// TestP1LatheKeepsItsArguments: neither rings, nor zones, nor cuts, nor the capacity behind them are modified.
func TestP1LatheKeepsItsArguments(t *testing.T) {
	rings, zones, cuts := roomyThree()
	wantRings, wantZones, wantCuts := slices.Clone(rings[:cap(rings)]), slices.Clone(zones[:cap(zones)]), slices.Clone(cuts[:cap(cuts)])
	other := slices.Clone(rings)
	other[0].Inner += 10
	for size := range 6 {
		p, q := impl.Profile{Name: "a", Rings: rings[:size]}, impl.Profile{Name: "a", Rings: other[:size]}
		for count := range 5 {
			for some := range 7 {
				list := cuts[:some]
				impl.ValidZones(p, zones[:count])
				impl.ZoneOf(zones[:count], 2)
				impl.ValidCuts(list)
				impl.SortCuts(list)
				impl.TotalSteps(list)
				impl.CutsText(list)
				latheCodes(t, p, q, zones[:count], list, 1)
				if !slices.Equal(rings[:cap(rings)], wantRings) || !slices.Equal(zones[:cap(zones)], wantZones) || !slices.Equal(cuts[:cap(cuts)], wantCuts) {
					t.Fatalf("%d rings, %d zones, %d cuts: they are now %v, %v and %v", size, count, some, rings, zones, cuts)
				}
			}
		}
		if size > 0 && (other[0] != ringWith(5000, 4510, 600) || !slices.Equal(other[1:], rings[1:])) {
			t.Fatalf("the rings of the other profile are now %v", other)
		}
	}
}

// TestP1TurnedProfilesAreNew: a profile after cuts, or after none, shares no memory with its arguments and with other results.
func TestP1TurnedProfilesAreNew(t *testing.T) {
	for name, cuts := range map[string][]impl.Cut{"none": nil, "one": cutsOf(0, 3), "the last": cutsOf(1, 1), "both": cutsOf(1, 2, 0, 3, 1, 1)} {
		for _, zones := range [][]int64{{0, 2}, {0, 1}} {
			checkNew(t, "ApplyCuts of "+name, read(threeText), func(p impl.Profile) (impl.Profile, int64) { return impl.ApplyCuts(p, zones, cuts) })
		}
	}
}

// TestP1LatheListsAreNew: a list that is overwritten, with the capacity behind it, changes neither an argument nor another result, and the other way round.
func TestP1LatheListsAreNew(t *testing.T) {
	mark := impl.Cut{Zone: 66, Steps: 99}
	for name, list := range map[string]func(rings []impl.Ring, zones []int64, cuts []impl.Cut) ([]impl.Cut, int64){
		"SortCuts":           func(_ []impl.Ring, _ []int64, cuts []impl.Cut) ([]impl.Cut, int64) { return impl.SortCuts(cuts[:4]) },
		"SortCuts of one":    func(_ []impl.Ring, _ []int64, cuts []impl.Cut) ([]impl.Cut, int64) { return impl.SortCuts(cuts[:1]) },
		"SortCuts of sorted": func(_ []impl.Ring, _ []int64, cuts []impl.Cut) ([]impl.Cut, int64) { return impl.SortCuts(cuts[1:3]) },
		"CutsBetween": func(rings []impl.Ring, zones []int64, _ []impl.Cut) ([]impl.Cut, int64) {
			return impl.CutsBetween(profileWith(rings[:3]...), read("a 5000/4530/600 4800/4430/900 4600/4110/500"), zones[:2])
		},
		"ReadCuts": func(_ []impl.Ring, _ []int64, _ []impl.Cut) ([]impl.Cut, int64) {
			cuts, _ := impl.ReadCuts("0x3,1x1")
			return cuts, codeOK
		},
	} {
		rings, zones, cuts := roomyThree()
		wantRings, wantZones, wantCuts := roomyThree()
		want := slices.Clone(first(list(rings, zones, cuts)))
		got, code := list(rings, zones, cuts)
		overwrite(first(list(rings, zones, cuts)), mark)
		if !slices.Equal(rings, wantRings) || !slices.Equal(zones, wantZones) || !slices.Equal(cuts, wantCuts) || !slices.Equal(got, want) || len(want) == 0 || code != codeOK {
			t.Errorf("%s: the arguments are now %v, %v and %v, and %v has become %v %d", name, rings, zones, cuts, want, got, code)
		}
		overwrite(rings, ringWith(1, 2, 3))
		overwrite(zones, 77)
		overwrite(cuts, mark)
		if !slices.Equal(got, want) {
			t.Errorf("%s: got %v, which has become %v", name, want, got)
		}
	}
	_, zones, _ := roomyThree()
	want, code := impl.RoomOf(read(threeText), zones[:2])
	want = slices.Clone(want)
	got := first(impl.RoomOf(read(threeText), zones[:2]))
	overwrite(first(impl.RoomOf(read(threeText), zones[:2])), 99)
	if !slices.Equal(zones, []int64{0, 2, 3, 77, 78}) || !slices.Equal(got, want) || code != codeOK {
		t.Errorf("RoomOf: the zones are now %v, and %v has become %v", zones, want, got)
	}
	overwrite(zones, 77)
	if !slices.Equal(got, want) {
		t.Errorf("RoomOf: got %v, which has become %v", want, got)
	}
}
