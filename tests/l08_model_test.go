package tests

import (
	"fmt"
	"math"
	"math/big"
	"math/rand"
	"slices"
	"strings"
	"testing"

	"loop.example/g00952/impl"
)

// The limits of chapter 8, and those of chapter 9 that it uses, written out from the document.
const (
	mostWeight = 1000
	maxBase    = 1000000000
	maxZones   = 8
	stepSize   = 10
)

const bellModelText = "0,1/1000,100/775,325/550,550/325,775/100,1000/1000,1000,1000,1000,1000"

// goodZones has lists of zones of one up to MaxZones, with the last one at its limit.
var goodZones = [][]int64{
	{0}, {0, 1}, {0, 31}, {0, 5, 9}, {0, 1, 2, 3, 4, 5, 6, 7}, {0, 25, 26, 27, 28, 29, 30, 31}, {0, 4, 8, 12, 16, 20, 24, 28}, {0, 30, 31}, {0, 1, 31},
}

// badZones has lists that are not zones of any profile.
var badZones = [][]int64{
	nil, {}, {1}, {-1}, {31}, {32}, {0, 0}, {0, 1, 1}, {0, 2, 1}, {0, 2, 2, 3}, {0, 5, 4, 6}, {0, 32}, {0, 1, 32}, {0, 33}, {0, -1}, {-1, 0}, {-1, 0, 1}, {1, 2}, {1, 0}, {0, 1, 0},
	{0, 1, 2, 3, 4, 5, 6, 7, 8}, {0, 23, 24, 25, 26, 27, 28, 29, 30}, {0, math.MinInt64}, {0, math.MaxInt64}, {math.MinInt64}, {math.MinInt64, 0}, {math.MaxInt64, 0}, {0, 1 << 32}, {1 << 32},
	{0, math.MaxInt64, math.MinInt64}, {0, 1, math.MinInt64, 3}, make([]int64, 1000),
}

// isZones reports whether there can be a profile with these zones.
func isZones(zones []int64) bool {
	for i, ring := range zones {
		if ring < 0 || ring >= maxRings || i > 0 && ring <= zones[i-1] {
			return false
		}
	}
	return len(zones) >= 1 && len(zones) <= maxZones && zones[0] == 0
}

func areZonesOf(p impl.Profile, zones []int64) bool {
	return isProfile(p) && isZones(zones) && int(slices.Max(zones)) < len(p.Rings)
}

func isModel(m impl.Model) bool {
	if !isZones(m.Zones) || len(m.Weights) != 5 || len(m.Base) != 5 {
		return false
	}
	for k, row := range m.Weights {
		sum := big.NewInt(0)
		for _, weight := range row {
			if weight < 0 || weight > mostWeight {
				return false
			}
			sum.Add(sum, big.NewInt(weight))
		}
		if len(row) != len(m.Zones) || sum.Sign() == 0 || m.Base[k] < 1 || m.Base[k] > maxBase {
			return false
		}
	}
	return true
}

func noModel(m impl.Model) bool {
	return len(m.Zones) == 0 && len(m.Weights) == 0 && len(m.Base) == 0
}

// listsOf returns the lists of a model from the zones to the base, which are its own memory.
func listsOf(m impl.Model) [][]int64 {
	return append(append([][]int64{m.Zones}, m.Weights...), m.Base)
}

// modelOf returns the model of the seven lists.
func modelOf(lists [][]int64) impl.Model {
	return impl.Model{Zones: lists[0], Weights: lists[1 : len(lists)-1], Base: lists[len(lists)-1]}
}

func cloneLists(lists [][]int64) [][]int64 {
	lists = slices.Clone(lists)
	for i := range lists {
		lists[i] = slices.Clone(lists[i])
	}
	return lists
}

func cloneModel(m impl.Model) impl.Model { return modelOf(cloneLists(listsOf(m))) }

func sameModels(a, b impl.Model) bool {
	return slices.EqualFunc(listsOf(a), listsOf(b), func(x, y []int64) bool { return slices.Equal(x, y) })
}

// evenModel returns a model with the same weight everywhere and the same base for all partials.
func evenModel(zones []int64, weight, base int64) impl.Model {
	row := slices.Repeat([]int64{weight}, len(zones))
	return cloneModel(impl.Model{Zones: zones, Weights: [][]int64{row, row, row, row, row}, Base: slices.Repeat([]int64{base}, 5)})
}

// withBase returns a model with another base.
func withBase(m impl.Model, base ...int64) impl.Model {
	m = cloneModel(m)
	m.Base = base
	return m
}

// bellModel is the standard model with two zones.
func bellModel() impl.Model {
	return impl.Model{Zones: []int64{0, 1}, Weights: [][]int64{{1000, 100}, {775, 325}, {550, 550}, {325, 775}, {100, 1000}}, Base: []int64{1000, 1000, 1000, 1000, 1000}}
}

// withLists returns models in each of which one list of a good model is another one.
func withLists(place int, lists ...[]int64) []impl.Model {
	var all []impl.Model
	for _, list := range lists {
		whole := cloneLists(listsOf(bellModel()))
		whole[place] = slices.Clone(list)
		all = append(all, modelOf(whole))
	}
	return all
}

// goodModels has valid models, with each number at its limits.
func goodModels() []impl.Model {
	good := []impl.Model{bellModel(), withBase(bellModel(), 1, maxBase, 1, maxBase, 1), withBase(bellModel(), maxBase, maxBase, maxBase, maxBase, maxBase)}
	for _, zones := range goodZones {
		good = append(good, evenModel(zones, 1, 1), evenModel(zones, mostWeight, maxBase), evenModel(zones, 500, 1000))
	}
	for place := 1; place <= 5; place++ {
		good = append(good, withLists(place, []int64{0, 1}, []int64{1, 0}, []int64{0, 1000}, []int64{1000, 0}, []int64{1000, 1000})...)
	}
	for k := range 5 {
		good = append(good, withBase(bellModel(), replaced(bellModel().Base, k, 1)...), withBase(bellModel(), replaced(bellModel().Base, k, maxBase)...))
	}
	return good
}

// badModels has models that are not valid, each for one reason or for several.
func badModels() []impl.Model {
	bad := []impl.Model{{}, {Zones: []int64{}, Weights: [][]int64{}, Base: []int64{}}, {Zones: []int64{0}}, {Weights: bellModel().Weights}, {Base: bellModel().Base}}
	for _, zones := range badZones {
		// with rows as long as the zones, and with rows that are not
		bad = append(bad, evenModel(zones, 500, 1000))
		bad = append(bad, withLists(0, zones)...)
	}
	bad = append(bad, withLists(0, []int64{0}, []int64{0, 1, 2})...)
	outside := []int64{math.MinInt64, math.MinInt64 + 1, -1 << 32, -1000, -1, 1001, 1002, 1<<32 + 1, math.MaxInt64 - 1, math.MaxInt64}
	for place := 1; place <= 5; place++ {
		bad = append(bad, withLists(place, nil, []int64{}, []int64{1}, []int64{1000}, []int64{1, 1, 1}, []int64{1, 1, 0}, []int64{0, 0}, []int64{1, -1}, []int64{-1, 1}, []int64{0, 0, 0}, make([]int64, 100))...)
		for _, weight := range outside {
			bad = append(bad, withLists(place, []int64{weight, 500}, []int64{500, weight}, []int64{weight, weight}, []int64{0, weight})...)
		}
		// a row less, and one more
		lists := cloneLists(listsOf(bellModel()))
		bad = append(bad, modelOf(slices.Delete(lists, place, place+1)))
		lists = cloneLists(listsOf(bellModel()))
		bad = append(bad, modelOf(slices.Insert(lists, place, []int64{500, 500})))
	}
	base := bellModel().Base
	bad = append(bad, withLists(6, nil, []int64{}, []int64{1000}, base[:4], append(slices.Clone(base), 1000), slices.Repeat(base, 2), make([]int64, 5), make([]int64, 1000))...)
	for k := range base {
		for _, n := range []int64{math.MinInt64, math.MinInt64 + 1, -1000, -1, 0, maxBase + 1, maxBase + 2, 1<<32 + 1000, math.MaxInt64 - 1, math.MaxInt64} {
			bad = append(bad, withBase(bellModel(), replaced(base, k, n)...))
		}
	}
	noRows, manyRows := bellModel(), bellModel()
	noRows.Weights, manyRows.Weights = nil, slices.Repeat([][]int64{{500, 500}}, 1000)
	return append(bad, noRows, manyRows)
}

// randomModel returns a valid model that fits profiles with some number of rings.
func randomModel(random *rand.Rand, rings int) impl.Model {
	count := 1 + random.Intn(min(maxZones, rings))
	zones := []int64{0}
	for _, ring := range random.Perm(rings - 1)[:count-1] {
		zones = append(zones, int64(ring)+1)
	}
	slices.Sort(zones)
	m := evenModel(zones, 1, 1)
	for k, row := range m.Weights {
		for z := range row {
			row[z] = random.Int63n(mostWeight + 1)
		}
		row[random.Intn(count)] = 1 + random.Int63n(mostWeight)
		m.Base[k] = 1 + random.Int63n(int64(math.Pow10(1+random.Intn(9))))
	}
	return m
}

// modelledProfiles calls a function with many profiles, each with a model that fits it.
func modelledProfiles(seed int64, use func(random *rand.Rand, m impl.Model, p impl.Profile)) {
	random := rand.New(rand.NewSource(seed))
	for _, p := range weighedProfiles(seed + 1) {
		for range 3 {
			use(random, randomModel(random, len(p.Rings)), p)
		}
		use(random, evenModel([]int64{0}, mostWeight, maxBase), p)
	}
}

// zoneModel returns the zone in which a ring is.
func zoneModel(zones []int64, ring int) int {
	zone := 0
	for z, begin := range zones {
		if begin <= int64(ring) {
			zone = z
		}
	}
	return zone
}

func wallsModel(p impl.Profile, zones []int64) []int64 {
	sums, counts := make([]int64, len(zones)), make([]int64, len(zones))
	for k, r := range p.Rings {
		zone := zoneModel(zones, k)
		sums[zone] += r.Outer - r.Inner
		counts[zone]++
	}
	for zone := range sums {
		sums[zone] = nearestModel(big.NewInt(sums[zone]), counts[zone])
	}
	return sums
}

// weighedModel returns M for a partial from 0 to 4, and D.
func weighedModel(m impl.Model, p impl.Profile, k int) (int64, int64) {
	sum := int64(0)
	for zone, wall := range wallsModel(p, m.Zones) {
		sum += m.Weights[k][zone] * wall
	}
	diameter := 2 * p.Rings[0].Outer
	return sum, nearestModel(productOf(diameter, diameter), 1000000)
}

func partialsModel(m impl.Model, p impl.Profile) []int64 {
	list := make([]int64, 5)
	for k := range list {
		weighed, divisor := weighedModel(m, p, k)
		list[k] = nearestModel(productOf(m.Base[k], weighed), divisor)
	}
	return list
}

// cutModel returns the profile after some steps in a zone, which need not be valid.
func cutModel(p impl.Profile, zones []int64, zone int, steps int64) impl.Profile {
	return changedModel(p, func(k int, r impl.Ring) impl.Ring {
		if zoneModel(zones, k) == zone {
			r.Inner += steps * stepSize
		}
		return r
	})
}

// checkList holds a list and its code against what they must be.
func checkList(t *testing.T, what string, got []int64, code int64, want []int64, wantCode int64) {
	t.Helper()
	if !slices.Equal(got, want) || code != wantCode {
		t.Errorf("%s: got %v %d, want %v %d", what, got, code, want, wantCode)
	}
}

func TestP9Constants(t *testing.T) {
	got := []int64{impl.MostWeight, impl.MaxBase, impl.MaxZones, impl.StepSize}
	if want := []int64{1000, 1000000000, 8, 10}; !slices.Equal(got, want) {
		t.Errorf("constants: got %v, want %v", got, want)
	}
}

// TestP9Example is the example of the chapter.
func TestP9Example(t *testing.T) {
	got, code := impl.StandardModel([]int64{0})
	if want := evenModel([]int64{0}, 1000, 1000); !sameModels(got, want) || code != codeOK {
		t.Errorf("StandardModel of one zone: got %v %d, want %v", got, code, want)
	}
}

func TestP9ValidModel(t *testing.T) {
	for _, m := range goodModels() {
		if !impl.ValidModel(m) || !isModel(m) {
			t.Errorf("ValidModel(%v): got false", m)
		}
	}
	for _, m := range badModels() {
		if impl.ValidModel(m) || isModel(m) {
			t.Errorf("ValidModel(%v): got true", m)
		}
	}
	random := rand.New(rand.NewSource(91))
	for range 2000 {
		m := randomModel(random, 1+random.Intn(maxRings))
		lists := listsOf(m)
		list := lists[random.Intn(len(lists))]
		list[random.Intn(len(list))] += []int64{-1, 1, 0, -1000, 1000, -list[0]}[random.Intn(6)]
		if got := impl.ValidModel(m); got != isModel(m) {
			t.Errorf("ValidModel(%v): got %v", m, got)
		}
	}
}

func TestP9SameModel(t *testing.T) {
	all := slices.Concat(goodModels(), badModels())
	for i, a := range all {
		if !impl.SameModel(a, cloneModel(a)) {
			t.Errorf("SameModel(%v) with itself: got false", a)
		}
		for _, b := range []impl.Model{all[(i+1)%len(all)], all[(i*7+3)%len(all)], bellModel(), {}} {
			if got := impl.SameModel(a, b); got != sameModels(a, b) || impl.SameModel(b, a) != got {
				t.Errorf("SameModel(%v, %v): got %v", a, b, got)
			}
		}
	}
	whole := listsOf(bellModel())
	for place, list := range whole {
		for i := range list {
			other := cloneLists(whole)
			other[place][i]++
			longer := cloneLists(whole)
			longer[place] = append(longer[place], 0)
			shorter := cloneLists(whole)
			shorter[place] = shorter[place][1:]
			for _, lists := range [][][]int64{other, longer, shorter} {
				if impl.SameModel(bellModel(), modelOf(lists)) || impl.SameModel(modelOf(lists), bellModel()) {
					t.Errorf("SameModel(%v, %v): got true", bellModel(), modelOf(lists))
				}
			}
		}
	}
}

// TestP9SameModelEmptyLists: a nil slice and an empty one are equal, of rows too.
func TestP9SameModelEmptyLists(t *testing.T) {
	none, empty := impl.Model{}, impl.Model{Zones: []int64{}, Weights: [][]int64{}, Base: []int64{}}
	oneNil, oneEmpty := impl.Model{Weights: [][]int64{nil}}, impl.Model{Weights: [][]int64{{}}}
	if !impl.SameModel(none, empty) || !impl.SameModel(empty, none) || !impl.SameModel(oneNil, oneEmpty) || !impl.SameModel(oneEmpty, oneNil) {
		t.Error("SameModel: nil and empty lists are not equal")
	}
	if impl.SameModel(none, oneNil) || impl.SameModel(oneNil, none) || impl.SameModel(oneEmpty, impl.Model{Weights: [][]int64{nil, nil}}) {
		t.Error("SameModel: as many rows as none")
	}
}

func TestP9StandardModel(t *testing.T) {
	for _, c := range []struct {
		zones []int64
		want  string
	}{
		{[]int64{0}, "0/1000/1000/1000/1000/1000/1000,1000,1000,1000,1000"}, {[]int64{0, 1}, bellModelText}, {[]int64{0, 31}, strings.Replace(bellModelText, "0,1/", "0,31/", 1)},
		{[]int64{0, 3, 9}, "0,3,9/1000,550,100/775,775,325/550,1000,550/325,775,775/100,550,1000/1000,1000,1000,1000,1000"},
		{[]int64{0, 1, 2, 3, 4}, "0,1,2,3,4/1000,775,550,325,100/775,1000,775,550,325/550,775,1000,775,550/325,550,775,1000,775/100,325,550,775,1000/1000,1000,1000,1000,1000"},
		// the quotients are not whole: 128.57, 257.14, 385.71 and so on
		{[]int64{0, 1, 2, 3, 4, 5, 6, 7}, "0,1,2,3,4,5,6,7/1000,871,743,614,486,357,229,100/775,904,968,839,711,582,454,325/550,679,807,936,936,807,679,550/325,454,582,711,839,968,904,775/100,229,357,486,614,743,871,1000/1000,1000,1000,1000,1000"},
	} {
		got, code := impl.StandardModel(c.zones)
		if impl.ModelText(got) != c.want || code != codeOK {
			t.Errorf("StandardModel(%v): got %v %d, want %q", c.zones, got, code, c.want)
		}
	}
	for _, zones := range badZones {
		if got, code := impl.StandardModel(zones); !noModel(got) || code != codeInvalid {
			t.Errorf("StandardModel(%v): got %v %d", zones, got, code)
		}
	}
}

// TestP9StandardWeights holds the weights of all numbers of zones against their formula.
func TestP9StandardWeights(t *testing.T) {
	for _, zones := range append(goodZones, []int64{0, 1, 2}, []int64{0, 1, 2, 3}, []int64{0, 1, 2, 3, 4}, []int64{0, 1, 2, 3, 4, 5}, []int64{0, 1, 2, 3, 4, 5, 6}) {
		n := int64(len(zones))
		want := evenModel(zones, 1000, 1000)
		for k := range int64(5) {
			for z := int64(0); z < n && n > 1; z++ {
				want.Weights[k][z] -= nearestModel(productOf(900, max(4*z-k*(n-1), k*(n-1)-4*z)), 4*(n-1))
			}
		}
		if got, code := impl.StandardModel(zones); !sameModels(got, want) || !isModel(got) || code != codeOK {
			t.Errorf("StandardModel(%v): got %v %d, want %v", zones, got, code, want)
		}
	}
}

func TestP9ZoneWalls(t *testing.T) {
	full := "a" + strings.Repeat(" 1000/500/10", 31) + " 1000/300/10"
	for _, c := range []struct {
		text        string
		zones, want []int64
	}{
		{smallText, []int64{0}, []int64{450}}, {smallText, []int64{0, 1}, []int64{500, 400}}, {"a 500/0/10", []int64{0}, []int64{500}}, {"a 150000/0/300000", []int64{0}, []int64{150000}}, {"a 150000/149900/10", []int64{0}, []int64{100}},
		// exactly between two numbers, and not
		{"a 1000/500/10 1000/499/10", []int64{0}, []int64{501}}, {"a 1000/500/10 1000/501/10", []int64{0}, []int64{500}}, {"a 1000/900/10 1000/900/10 1000/899/10", []int64{0}, []int64{100}}, {"a 1000/900/10 1000/899/10 1000/899/10", []int64{0}, []int64{101}},
		{"a 1000/900/10 1000/900/10 1000/900/10 1000/898/10", []int64{0}, []int64{101}}, {"a 1000/900/10 1000/900/10 1000/900/10 1000/899/10", []int64{0}, []int64{100}},
		// heights do not count
		{"a 1000/900/300 1000/700/10", []int64{0}, []int64{200}}, {"a 1000/900/10 1000/800/10 1000/700/10 1000/600/10", []int64{0, 1, 3}, []int64{100, 250, 400}}, {"a 1000/900/10 1000/800/10 1000/700/10 1000/600/10", []int64{0, 2}, []int64{150, 350}},
		{full, []int64{0}, []int64{506}}, {full, []int64{0, 31}, []int64{500, 700}}, {full, []int64{0, 30}, []int64{500, 600}}, {full, []int64{0, 25, 26, 27, 28, 29, 30, 31}, []int64{500, 500, 500, 500, 500, 500, 500, 700}},
	} {
		got, code := impl.ZoneWalls(read(c.text), c.zones)
		checkList(t, fmt.Sprintf("ZoneWalls(%q, %v)", c.text, c.zones), got, code, c.want, codeOK)
	}
	for _, p := range weighedProfiles(92) {
		for _, zones := range slices.Concat(goodZones, badZones, [][]int64{{0, int64(len(p.Rings)) - 1}, {0, int64(len(p.Rings))}}) {
			got, code := impl.ZoneWalls(p, zones)
			if areZonesOf(p, zones) {
				checkList(t, fmt.Sprintf("ZoneWalls(%v, %v)", p, zones), got, code, wallsModel(p, zones), codeOK)
			} else {
				checkList(t, fmt.Sprintf("ZoneWalls(%v, %v)", p, zones), got, code, nil, codeRange)
			}
		}
	}
	for _, p := range badProfiles() {
		for _, zones := range slices.Concat(goodZones, badZones) {
			got, code := impl.ZoneWalls(p, zones)
			checkList(t, fmt.Sprintf("ZoneWalls(%v, %v)", p, zones), got, code, nil, codeInvalid)
		}
	}
}

func TestP9RawPartials(t *testing.T) {
	eight := []int64{0, 1, 2, 3, 4, 5, 6, 7}
	for _, c := range []struct {
		m    impl.Model
		text string
		want []int64
	}{
		{evenModel([]int64{0}, 1000, 1000), "a 5000/4500/600", []int64{5000000, 5000000, 5000000, 5000000, 5000000}}, {withBase(evenModel([]int64{0}, 1, 1), 1, 2, 3, 4, 5), "a 5000/4900/600", []int64{1, 2, 3, 4, 5}},
		// the walls are 500 and 400: 540000, 517500, 495000, 472500 and 450000 are weighed, and 100 is the divisor
		{bellModel(), smallText, []int64{5400000, 5175000, 4950000, 4725000, 4500000}}, {withBase(bellModel(), 7, 1, 3, 1000000000, 1), smallText, []int64{37800, 5175, 14850, 4725000000000, 4500}},
		// the divisor is 1 (1.498) and 2 (1.503), and the weighed wall 105, so that the half of it is exactly between two numbers
		{withBase(evenModel([]int64{0}, 1, 1), 1, 2, 3, 4, 5), "a 612/507/10", []int64{105, 210, 315, 420, 525}}, {withBase(evenModel([]int64{0}, 1, 1), 1, 2, 3, 4, 5), "a 613/508/10", []int64{53, 105, 158, 210, 263}},
		// only the first ring counts for the diameter
		{evenModel([]int64{0}, 1, 200), "a 5000/4900/10 5050/4950/10", []int64{200, 200, 200, 200, 200}}, {evenModel([]int64{0}, 1, 200), "a 6000/5900/10 5950/5850/10", []int64{139, 139, 139, 139, 139}}, {evenModel([]int64{0}, 1, 200), "a 5950/5850/10 6000/5900/10 6000/5900/10", []int64{141, 141, 141, 141, 141}},
		// the least partials, a third, a half and two thirds
		{evenModel([]int64{0}, 1, 1), "a 150000/149900/10", []int64{0, 0, 0, 0, 0}}, {withBase(evenModel([]int64{0}, 1, 1), 300, 449, 450, 600, 900), "a 150000/149900/10", []int64{0, 0, 1, 1, 1}}, {evenModel([]int64{0}, 1, 1), "a 500/400/10", []int64{100, 100, 100, 100, 100}},
		// great products
		{evenModel([]int64{0}, 1000, maxBase), "a 150000/0/300000", []int64{1666666666667, 1666666666667, 1666666666667, 1666666666667, 1666666666667}},
		{evenModel(eight, 1000, maxBase), "a" + strings.Repeat(" 150000/0/10", 8), []int64{13333333333333, 13333333333333, 13333333333333, 13333333333333, 13333333333333}},
		{withBase(evenModel(eight, 1000, 1), maxBase, 1, maxBase, 1, maxBase), "a 500/0/10" + strings.Repeat(" 150000/0/10", 7), []int64{1050500000000000000, 1050500000, 1050500000000000000, 1050500000, 1050500000000000000}},
	} {
		got, code := impl.RawPartials(c.m, read(c.text))
		checkList(t, fmt.Sprintf("RawPartials(%v, %q)", c.m, c.text), got, code, c.want, codeOK)
	}
	modelledProfiles(93, func(_ *rand.Rand, m impl.Model, p impl.Profile) {
		got, code := impl.RawPartials(m, p)
		checkList(t, fmt.Sprintf("RawPartials(%v, %v)", m, p), got, code, partialsModel(m, p), codeOK)
	})
}

// TestP9AllDiameters tries all radii of the lip.
func TestP9AllDiameters(t *testing.T) {
	m := evenModel([]int64{0}, 1, maxBase)
	for outer := int64(minRadius); outer <= maxRadius; outer++ {
		divisor := (4*outer*outer + 500000) / 1000000
		want := (2*100*maxBase + divisor) / (2 * divisor)
		got, code := impl.RawPartials(m, profileWith(ringWith(outer, outer-100, 10)))
		if len(got) != 5 || got[0] != want || got[4] != want || code != codeOK {
			t.Fatalf("RawPartials of the radius %d: got %v %d, want %d", outer, got, code, want)
		}
	}
}

// TestP9RowsAreForTheirPartials: a weight of a row counts for its own partial and zone alone.
func TestP9RowsAreForTheirPartials(t *testing.T) {
	p := read("a 5000/4900/10 5000/4700/10 5000/4000/10")
	for k := range 5 {
		for z, wall := range []int64{100, 300, 1000} {
			m := evenModel([]int64{0, 1, 2}, 1, 100)
			m.Weights[k][z] += 5
			want := replaced([]int64{1400, 1400, 1400, 1400, 1400}, k, 1400+5*wall)
			got, code := impl.RawPartials(m, p)
			checkList(t, fmt.Sprintf("RawPartials(%v)", m), got, code, want, codeOK)
		}
	}
}

func TestP9SoundOf(t *testing.T) {
	one := evenModel([]int64{0}, 1, 1)
	for _, c := range []struct {
		base []int64
		code int64
	}{
		{[]int64{220000, 440000, 523252, 659256, 880000}, codeOK}, {[]int64{10000, 10001, 10002, 10003, 10004}, codeOK}, {[]int64{19999996, 19999997, 19999998, 19999999, 20000000}, codeOK}, {[]int64{10000, 10001, 10002, 10003, 20000000}, codeOK},
		{[]int64{9999, 10001, 10002, 10003, 10004}, codeState}, {[]int64{19999996, 19999997, 19999998, 19999999, 20000001}, codeState}, {[]int64{1, 2, 3, 4, 5}, codeState}, {[]int64{maxBase - 4, maxBase - 3, maxBase - 2, maxBase - 1, maxBase}, codeState},
		{[]int64{220000, 220000, 523252, 659256, 880000}, codeState}, {[]int64{220000, 440000, 440000, 659256, 880000}, codeState}, {[]int64{220000, 440000, 523252, 523252, 880000}, codeState}, {[]int64{220000, 440000, 523252, 880000, 880000}, codeState},
		{[]int64{440000, 220000, 523252, 659256, 880000}, codeState}, {[]int64{880000, 659256, 523252, 440000, 220000}, codeState}, {[]int64{220000, 220000, 220000, 220000, 220000}, codeState},
	} {
		want := impl.Sound{}
		if c.code == codeOK {
			want = soundOf(c.base)
		}
		// the weighed wall and the divisor are both 100
		if got, code := impl.SoundOf(withBase(one, c.base...), read("a 5000/4900/600")); got != want || code != c.code {
			t.Errorf("SoundOf of the base %v: got %v %d, want %v %d", c.base, got, code, want, c.code)
		}
	}
	if got, code := impl.SoundOf(bellModel(), smallProfile()); got != (impl.Sound{}) || code != codeState {
		t.Errorf("SoundOf of falling partials: got %v %d", got, code)
	}
	modelledProfiles(94, func(_ *rand.Rand, m impl.Model, p impl.Profile) {
		slices.Sort(m.Base)
		want, wantCode := soundOf(partialsModel(m, p)), int64(codeOK)
		if !isSound(want) {
			want, wantCode = impl.Sound{}, codeState
		}
		if got, code := impl.SoundOf(m, p); got != want || code != wantCode {
			t.Errorf("SoundOf(%v, %v): got %v %d, want %v %d", m, p, got, code, want, wantCode)
		}
	})
}

func TestP9Sensitivity(t *testing.T) {
	for _, c := range []struct {
		m    impl.Model
		text string
		zone int64
		want []int64
		code int64
	}{
		{evenModel([]int64{0}, 1000, 1000), "a 5000/4500/600", 0, []int64{100000, 100000, 100000, 100000, 100000}, codeOK}, {bellModel(), smallText, 0, []int64{100000, 77500, 55000, 32500, 10000}, codeOK}, {bellModel(), smallText, 1, []int64{10000, 32500, 55000, 77500, 100000}, codeOK},
		{withBase(bellModel(), 1, 2, 3, 4, 5), smallText, 1, []int64{10, 65, 165, 310, 500}, codeOK}, {evenModel([]int64{0}, 1000, 1000), smallText, 0, []int64{100000, 100000, 100000, 100000, 100000}, codeOK},
		// a zone whose weight is 0 lowers nothing
		{impl.Model{Zones: []int64{0, 1}, Weights: [][]int64{{1, 0}, {0, 1}, {1, 0}, {0, 1}, {1, 1}}, Base: []int64{100, 100, 100, 100, 100}}, smallText, 0, []int64{10, 0, 10, 0, 10}, codeOK},
		// 105 and 95 halves, of which 52.5 and 47.5 are 53 and 48, and then 158 and 143, 263 and 238
		{withBase(evenModel([]int64{0}, 1, 1), 1, 2, 3, 4, 5), "a 613/498/10", 0, []int64{5, 10, 15, 20, 25}, codeOK}, {evenModel([]int64{0}, 1, 1), "a 800/690/10", 0, []int64{4, 4, 4, 4, 4}, codeOK}, {evenModel([]int64{0}, 1, 1), "a 150000/149800/10", 0, []int64{0, 0, 0, 0, 0}, codeOK},
		// great products
		{evenModel([]int64{0, 1}, 1000, maxBase), "a 500/0/10 150000/0/10", 1, []int64{10000000000000, 10000000000000, 10000000000000, 10000000000000, 10000000000000}, codeOK},
		// walls of the least thickness and of one less after the cut
		{evenModel([]int64{0}, 1000, 1000), "a 5000/4890/600", 0, []int64{100000, 100000, 100000, 100000, 100000}, codeOK}, {evenModel([]int64{0}, 1000, 1000), "a 5000/4891/600", 0, nil, codeState}, {evenModel([]int64{0}, 1000, 1000), "a 5000/4900/600", 0, nil, codeState},
		{evenModel([]int64{0, 1}, 1000, 1000), "a 5000/4900/600 5000/4500/600", 0, nil, codeState}, {evenModel([]int64{0, 1}, 1000, 1000), "a 5000/4900/600 5000/4500/600", 1, []int64{100000, 100000, 100000, 100000, 100000}, codeOK}, {evenModel([]int64{0}, 1000, 1000), "a 5000/4900/600 5000/4500/600", 0, nil, codeState},
		{evenModel([]int64{0, 1}, 1000, 100), "a 5000/4500/600 5000/4500/600 5000/4500/600 5000/4895/600", 1, nil, codeState}, {evenModel([]int64{0, 3}, 1000, 100), "a 5000/4500/600 5000/4500/600 5000/4500/600 5000/4895/600", 0, []int64{10000, 10000, 10000, 10000, 10000}, codeOK},
		// the inside of a ring comes to the outside of the one above or below it, which has no metal then to stand on
		{evenModel([]int64{0, 1}, 1, 4), "a 1000/800/20 810/0/20", 0, nil, codeState}, {evenModel([]int64{0, 1}, 1, 4), "a 1000/800/20 811/0/20", 0, []int64{10, 10, 10, 10, 10}, codeOK}, {evenModel([]int64{0, 1}, 1, 4), "a 1000/800/20 810/0/20", 1, []int64{10, 10, 10, 10, 10}, codeOK},
		{evenModel([]int64{0, 1}, 1, 3), "a 810/0/20 1000/800/20", 1, nil, codeState}, {evenModel([]int64{0, 1}, 1, 3), "a 811/0/20 1000/800/20", 1, []int64{10, 10, 10, 10, 10}, codeOK}, {evenModel([]int64{0, 1}, 1, 3), "a 810/0/20 1000/800/20", 0, []int64{10, 10, 10, 10, 10}, codeOK}, {evenModel([]int64{0}, 1, 3), "a 810/0/20 1000/800/20", 0, nil, codeState},
		// a zone that does not exist comes before a cut that cannot be made
		{evenModel([]int64{0}, 1000, 1000), "a 5000/4900/600", 1, nil, codeRange}, {evenModel([]int64{0}, 1000, 1000), "a 5000/4900/600 5000/4900/600", 1, nil, codeRange}, {evenModel([]int64{0}, 1000, 1000), "a 5000/4900/600", -1, nil, codeRange}, {bellModel(), smallText, 2, nil, codeRange}, {bellModel(), smallText, -1, nil, codeRange},
		{bellModel(), smallText, 1 << 32, nil, codeRange}, {bellModel(), smallText, 1<<32 + 1, nil, codeRange}, {bellModel(), smallText, math.MinInt64, nil, codeRange}, {bellModel(), smallText, math.MaxInt64, nil, codeRange}, {evenModel(goodZones[4], 1, 1), "a" + strings.Repeat(" 500/0/10", 32), 8, nil, codeRange},
	} {
		got, code := impl.Sensitivity(c.m, read(c.text), c.zone)
		checkList(t, fmt.Sprintf("Sensitivity(%v, %q, %d)", c.m, c.text, c.zone), got, code, c.want, c.code)
	}
}

// TestP9CutsNeverRaise makes cuts of one step, one after the other, as long as there is metal.
func TestP9CutsNeverRaise(t *testing.T) {
	made, refused := 0, 0
	modelledProfiles(95, func(random *rand.Rand, m impl.Model, p impl.Profile) {
		for range 12 {
			zone := random.Intn(len(m.Zones))
			cut := cutModel(p, m.Zones, zone, 1)
			drops, code := impl.Sensitivity(m, p, int64(zone))
			if !isProfile(cut) {
				checkList(t, fmt.Sprintf("Sensitivity(%v, %v, %d)", m, p, zone), drops, code, nil, codeState)
				refused++
				continue
			}
			want, after := partialsModel(m, p), first(impl.RawPartials(m, cut))
			for k := range want {
				want[k] -= after[k]
			}
			checkList(t, fmt.Sprintf("Sensitivity(%v, %v, %d)", m, p, zone), drops, code, want, codeOK)
			if len(drops) == 5 && slices.Min(drops) < 0 {
				t.Errorf("Sensitivity(%v, %v, %d): got %v, which raises a partial", m, p, zone, drops)
			}
			p = cut
			made++
		}
	})
	if made < 1000 || refused < 1000 {
		t.Errorf("only %d cuts were made and %d refused", made, refused)
	}
}

func TestP9DominantZone(t *testing.T) {
	m := impl.Model{Zones: []int64{0, 1, 2, 3}, Weights: [][]int64{{1, 0, 0, 0}, {0, 0, 0, 1}, {5, 7, 7, 6}, {1000, 1000, 1000, 1000}, {3, 999, 2, 1000}}, Base: []int64{1, 1, 1, 1, 1}}
	for k, want := range []int64{0, 3, 1, 0, 3} {
		if got, code := impl.DominantZone(m, int64(k)+1); got != want || code != codeOK {
			t.Errorf("DominantZone(%d): got %d %d, want %d", k+1, got, code, want)
		}
	}
	for _, m := range goodModels() {
		for k, row := range m.Weights {
			want := slices.Index(row, slices.Max(row))
			if got, code := impl.DominantZone(m, int64(k)+1); got != int64(want) || code != codeOK {
				t.Errorf("DominantZone(%v, %d): got %d %d, want %d", m, k+1, got, code, want)
			}
		}
		for _, k := range noPartials {
			if got, code := impl.DominantZone(m, k); got != 0 || code != codeRange {
				t.Errorf("DominantZone(%v, %d): got %d %d", m, k, got, code)
			}
		}
	}
	for _, m := range badModels() {
		for _, k := range append(noPartials, 1, 2, 3, 4, 5) {
			if got, code := impl.DominantZone(m, k); got != 0 || code != codeInvalid {
				t.Errorf("DominantZone(%v, %d): got %d %d", m, k, got, code)
			}
		}
	}
}

func TestP9FitBase(t *testing.T) {
	for _, c := range []struct {
		weight int64
		text   string
		target impl.Sound
		want   []int64
		code   int64
	}{
		// the divisor is 100, and so is the weighed wall
		{1, "a 5000/4900/600", minorSound, listOf(minorSound), codeOK}, {1, "a 5000/4900/600", soundWith(10000, 10001, 10002, 10003, 20000000), []int64{10000, 10001, 10002, 10003, 20000000}, codeOK},
		// exactly between two numbers, a third and two thirds
		{2, "a 5000/4900/600", soundWith(10000, 10001, 10002, 10003, 10005), []int64{5000, 5001, 5001, 5002, 5003}, codeOK}, {3, "a 5000/4900/600", soundWith(10000, 10001, 10002, 10003, 10004), []int64{3333, 3334, 3334, 3334, 3335}, codeOK}, {1000, "a 5000/4500/600", minorSound, []int64{44, 88, 105, 132, 176}, codeOK},
		// the least base: 0.5 of the hum is 1, and less than that is 0
		{40, "a 500/0/10", soundWith(10000, 20000, 30000, 40000, 50000), []int64{1, 1, 2, 2, 3}, codeOK}, {41, "a 500/0/10", soundWith(10000, 20000, 30000, 40000, 50000), nil, codeState}, {41, "a 500/0/10", soundWith(10250, 20000, 30000, 40000, 50000), []int64{1, 1, 1, 2, 2}, codeOK}, {41, "a 500/0/10", soundWith(10249, 20000, 30000, 40000, 50000), nil, codeState},
		{1000, "a 500/0/10", soundWith(10000, 10001, 10002, 10003, 20000000), nil, codeState},
		// the greatest base, and one that is greater
		{1, "a 150000/148200/10", soundWith(10000, 20000, 30000, 40000, 20000000), []int64{500000, 1000000, 1500000, 2000000, 1000000000}, codeOK}, {1, "a 150000/148201/10", soundWith(10000, 20000, 30000, 40000, 20000000), nil, codeState}, {1, "a 150000/148201/10", soundWith(10000, 20000, 30000, 40000, 19988888), []int64{500278, 1000556, 1500834, 2001112, 999999956}, codeOK},
		{1, "a 150000/149900/10", soundWith(19999996, 19999997, 19999998, 19999999, 20000000), nil, codeState}, {1, "a 150000/149900/10", soundWith(10000, 1111110, 1111111, 1111112, 1111113), nil, codeState}, {1, "a 150000/149900/10", soundWith(10000, 1111108, 1111109, 1111110, 1111111), []int64{9000000, 999997200, 999998100, 999999000, 999999900}, codeOK},
	} {
		m := evenModel([]int64{0}, c.weight, 1)
		got, code := impl.FitBase(m, read(c.text), c.target)
		if c.code != codeOK {
			if !noModel(got) || code != c.code {
				t.Errorf("FitBase(%d, %q, %v): got %v %d, want the error %d", c.weight, c.text, c.target, got, code, c.code)
			}
			continue
		}
		if !sameModels(got, withBase(m, c.want...)) || code != codeOK {
			t.Errorf("FitBase(%d, %q, %v): got %v %d, want the base %v", c.weight, c.text, c.target, got, code, c.want)
		}
	}
}

// TestP9FittedModelsGiveTheirSound: a base that is off by a half at most puts a partial off by half of what one of it adds.
func TestP9FittedModelsGiveTheirSound(t *testing.T) {
	fitted, exact := 0, 0
	targets := goodSounds()
	modelledProfiles(96, func(random *rand.Rand, m impl.Model, p impl.Profile) {
		target := append(targets, randomSound(random), randomSound(random))[random.Intn(len(targets)+2)]
		want := cloneModel(m)
		for k, f := range listOf(target) {
			weighed, divisor := weighedModel(m, p, k)
			want.Base[k] = nearestModel(productOf(f, divisor), weighed)
		}
		got, code := impl.FitBase(m, p, target)
		if !isModel(want) {
			if !noModel(got) || code != codeState {
				t.Errorf("FitBase(%v, %v, %v): got %v %d, want an error", m, p, target, got, code)
			}
			return
		}
		if !sameModels(got, want) || code != codeOK {
			t.Errorf("FitBase(%v, %v, %v): got %v %d, want %v", m, p, target, got, code, want)
			return
		}
		fitted++
		for k, f := range first(impl.RawPartials(got, p)) {
			weighed, divisor := weighedModel(m, p, k)
			if off := f - listOf(target)[k]; 2*divisor*max(off, -off) > weighed+divisor {
				t.Errorf("FitBase(%v, %v, %v): the partial %d is %d", m, p, target, k, f)
			}
		}
		if sound, code := impl.SoundOf(got, p); sound == target && code == codeOK {
			exact++
		}
	})
	if fitted < 300 || exact < 10 {
		t.Errorf("only %d models are fitted, and %d exactly", fitted, exact)
	}
}

// TestP9ModelsThatDoNotFit: a valid model with a zone past the last ring is ErrRange, before the errors of a cut, a sound or a base.
func TestP9ModelsThatDoNotFit(t *testing.T) {
	thin := repeated(ringWith(500, 400, 10), 31)
	for _, c := range []struct {
		last  int64
		rings int
		fits  bool
	}{{1, 1, false}, {1, 2, true}, {2, 2, false}, {2, 3, true}, {31, 1, false}, {31, 30, false}, {31, 31, false}, {30, 31, true}, {30, 30, false}} {
		m, p := evenModel([]int64{0, c.last}, 1000, 1), profileWith(thin.Rings[:c.rings]...)
		// a profile that fits has falling partials, walls that cannot be cut, and a base of less than 1
		want := []int64{codeOK, codeState, codeState, codeState}
		if !c.fits {
			want = []int64{codeRange, codeRange, codeRange, codeRange}
		}
		if got := modelCodes(t, m, p, 1, soundWith(10000, 10001, 10002, 10003, 10004)); !slices.Equal(got, want) {
			t.Errorf("zones up to %d in %d rings: got the codes %v, want %v", c.last, c.rings, got, want)
		}
		if c.fits {
			continue
		}
		for _, zone := range []int64{0, 1, -1, 2} {
			if got := modelCodes(t, m, p, zone, minorSound); !slices.Equal(got, want) {
				t.Errorf("zones up to %d in %d rings, the zone %d: got the codes %v", c.last, c.rings, zone, got)
			}
		}
		if got, code := impl.FitBase(m, p, impl.Sound{}); !noModel(got) || code != codeInvalid {
			t.Errorf("FitBase of no sound: got %v %d", got, code)
		}
	}
	whole := repeated(ringWith(500, 0, 10), 32)
	for _, zones := range goodZones {
		if got := modelCodes(t, evenModel(zones, 1, 100000), whole, 0, minorSound); !slices.Equal(got, []int64{codeOK, codeState, codeOK, codeOK}) {
			t.Errorf("the zones %v in 32 rings: got the codes %v", zones, got)
		}
	}
}

// modelCodes returns the codes of RawPartials, SoundOf, Sensitivity and FitBase; with an error no other result may come.
func modelCodes(t *testing.T, m impl.Model, p impl.Profile, zone int64, target impl.Sound) []int64 {
	t.Helper()
	raw, rawCode := impl.RawPartials(m, p)
	sound, soundCode := impl.SoundOf(m, p)
	drops, dropsCode := impl.Sensitivity(m, p, zone)
	fit, fitCode := impl.FitBase(m, p, target)
	if rawCode != codeOK && len(raw) > 0 || soundCode != codeOK && sound != (impl.Sound{}) || dropsCode != codeOK && len(drops) > 0 || fitCode != codeOK && !noModel(fit) {
		t.Errorf("%v, %v, %d, %v: got a result and an error: %v %d, %v %d, %v %d, %v %d", m, p, zone, target, raw, rawCode, sound, soundCode, drops, dropsCode, fit, fitCode)
	}
	return []int64{rawCode, soundCode, dropsCode, fitCode}
}

// TestP9InvalidArguments: ErrInvalid comes before all other errors.
func TestP9InvalidArguments(t *testing.T) {
	invalid := []int64{codeInvalid, codeInvalid, codeInvalid, codeInvalid}
	zones := []int64{-1, 0, 1, 2, math.MinInt64, math.MaxInt64}
	for i, m := range badModels() {
		for _, p := range []impl.Profile{smallProfile(), profileWith(ringWith(500, 0, 10)), profileWith(ringWith(500, 400, 10)), repeated(ringWith(500, 0, 10), 32), {}} {
			if got := modelCodes(t, m, p, zones[i%len(zones)], minorSound); !slices.Equal(got, invalid) {
				t.Errorf("%v, %v: got the codes %v", m, p, got)
			}
		}
	}
	for i, p := range badProfiles() {
		for _, m := range []impl.Model{bellModel(), evenModel([]int64{0}, 1, 1), evenModel([]int64{0, 31}, 1, 1), evenModel([]int64{0}, 1000, maxBase), {}} {
			if got := modelCodes(t, m, p, zones[i%len(zones)], minorSound); !slices.Equal(got, invalid) {
				t.Errorf("%v, %v: got the codes %v", m, p, got)
			}
		}
	}
	for _, target := range badSounds() {
		for _, m := range []impl.Model{bellModel(), evenModel([]int64{0, 31}, 1, 1), evenModel([]int64{0}, 1000, maxBase), {}} {
			if got, code := impl.FitBase(m, smallProfile(), target); !noModel(got) || code != codeInvalid {
				t.Errorf("FitBase(%v, %v): got %v %d", m, target, got, code)
			}
		}
	}
}

func TestP9ModelTexts(t *testing.T) {
	for _, text := range modelTexts {
		m, ok := impl.ReadModel(text)
		if got := impl.ModelText(m); got != text || !ok {
			t.Errorf("ReadModel(%q): got %v %v", text, m, ok)
		}
	}
	random := rand.New(rand.NewSource(97))
	models := goodModels()
	for range 300 {
		models = append(models, randomModel(random, 1+random.Intn(maxRings)))
	}
	for _, m := range models {
		var parts []string
		for _, list := range listsOf(m) {
			parts = append(parts, strings.ReplaceAll(strings.Trim(fmt.Sprint(list), "[]"), " ", ","))
		}
		text := impl.ModelText(m)
		if want := strings.Join(parts, "/"); text != want {
			t.Errorf("ModelText(%v): got %q, want %q", m, text, want)
		}
		if got, ok := impl.ReadModel(text); !sameModels(got, m) || !ok {
			t.Errorf("ReadModel(%q): got %v %v, want %v", text, got, ok, m)
		}
	}
	for _, m := range badModels() {
		if got := impl.ModelText(m); got != "" {
			t.Errorf("ModelText(%v): got %q, want none", m, got)
		}
	}
}

var modelTexts = []string{
	bellModelText, "0/1/1/1/1/1/1,1,1,1,1", "0/1000/1000/1000/1000/1000/1000000000,1000000000,1000000000,1000000000,1000000000", "0,31/1,0/0,1/1,1/1000,0/0,1000/1,2,3,4,5",
	"0,1,2,3,4,5,6,7/1,0,0,0,0,0,0,0/0,0,0,0,0,0,0,1/8,7,6,5,4,3,2,1/0,0,0,1,0,0,0,0/1,1,1,1,1,1,1,1/5,4,3,2,1",
}

func TestP9ReadModel(t *testing.T) {
	bad := []string{
		// missing, superfluous and empty parts
		"0", "0/1", "0/1/1/1/1/1", "0/1/1/1/1/1/", "/1/1/1/1/1/1,1,1,1,1", "1/1/1/1/1/1,1,1,1,1", "0/1/1/1/1/1,1,1,1,1", "0/1/1/1/1/1/1/1,1,1,1,1", "0//1/1/1/1/1,1,1,1,1", "0/1/1/1/1//1,1,1,1,1", "0/1//1/1/1/1/1,1,1,1,1",
		"0/1/1/1/1/1/1,1,1,1,1/", "/0/1/1/1/1/1/1,1,1,1,1", "0/1/1/1/1/1/1,1,1,1,1/1", "0/1/1/1/1/1//1,1,1,1,1", "//////", "///////", "-/-/-/-/-/-/-", "-/1/1/1/1/1/1,1,1,1,1", "0/-/1/1/1/1/1,1,1,1,1", "0/1/1/1/1/1/-",
		"0/1/1/1/1/1/1,1,1,1", "0/1/1/1/1/1/1,1,1,1,1,1", "0/1/1/1/1/1/1,1,1,1,1,", "0/1/1/1/1/1/,1,1,1,1,1", "0/1/1/1/1/1/1,1,,1,1", "0,/1/1/1/1/1/1,1,1,1,1", "0,1/1/1/1/1/1/1,1,1,1,1", "0/1,1/1/1/1/1/1,1,1,1,1", "0,1/1,1/1,1/1,1/1,1/1,1,1/1,1,1,1,1",
		// blanks, other separators, signs and digits
		" 0/1/1/1/1/1/1,1,1,1,1", "0/1/1/1/1/1/1,1,1,1,1 ", "0 /1/1/1/1/1/1,1,1,1,1", "0/ 1/1/1/1/1/1,1,1,1,1", "0/1/1/1/1/1/1, 1,1,1,1", "0/1/1/1/1/1/1 1 1 1 1", "0 1 1 1 1 1 1,1,1,1,1", "0|1|1|1|1|1|1,1,1,1,1", "0/1/1/1/1/1/1;1;1;1;1", "0\\1\\1\\1\\1\\1\\1,1,1,1,1", "0/1/1/1/1/1/1,1,1,1,1\n",
		"+0/1/1/1/1/1/1,1,1,1,1", "-0/1/1/1/1/1/1,1,1,1,1", "00/1/1/1/1/1/1,1,1,1,1", "0/01/1/1/1/1/1,1,1,1,1", "0/+1/1/1/1/1/1,1,1,1,1", "0/1/1/1/1/1/01,1,1,1,1", "0/1/1/1/1/1/1,1,1,1,+1", "0/1.0/1/1/1/1/1,1,1,1,1", "0/x/1/1/1/1/1,1,1,1,1", "0/1/1/1/1/1/1,1,1,1,1x", "0/1e2/1/1/1/1/1,1,1,1,1",
		// models that are not valid
		"1/1/1/1/1/1/1,1,1,1,1", "-1/1/1/1/1/1/1,1,1,1,1", "0,0/1,1/1,1/1,1/1,1/1,1/1,1,1,1,1", "0,32/1,1/1,1/1,1/1,1/1,1/1,1,1,1,1", "0/0/1/1/1/1/1,1,1,1,1", "0/1/1/1/1/0/1,1,1,1,1", "0/-1/1/1/1/1/1,1,1,1,1", "0/1001/1/1/1/1/1,1,1,1,1", "0/1/1/1/1/1001/1,1,1,1,1",
		"0/1/1/1/1/1/0,1,1,1,1", "0/1/1/1/1/1/1,1,1,1,0", "0/1/1/1/1/1/1,1,1,1,-1", "0/1/1/1/1/1/1,1,1,1,1000000001", "0/1/1/1/1/1/1000000001,1,1,1,1", "0/1/1/1/1/1/1,1,1,1,9999999999999999999", "0/18446744073709551617/1/1/1/1/1,1,1,1,1", "0,1,2,3,4,5,6,7,8" + strings.Repeat("/1,1,1,1,1,1,1,1,1", 5) + "/1,1,1,1,1",
		strings.Repeat("/", 1000), strings.Repeat("0/", 1000), "0" + strings.Repeat("/1", 1000), bellModelText + bellModelText, bellModelText + "/" + bellModelText, strings.ToUpper("0/a/1/1/1/1/1,1,1,1,1"),
	}
	for _, s := range slices.Concat(bad, edgeTexts, pointedTexts, temperamentTexts, soundTexts, profileTexts) {
		if got, ok := impl.ReadModel(s); !noModel(got) || ok {
			t.Errorf("ReadModel(%q): got %v %v, want none", s, got, ok)
		}
	}
}

// TestP9DamagedTextsAreNotRead: a text that is damaged is that of the model that is read, or of none.
func TestP9DamagedTextsAreNotRead(t *testing.T) {
	for _, s := range damagedTexts(modelTexts, " 09/-+,a") {
		got, ok := impl.ReadModel(s)
		if ok && (impl.ModelText(got) != s || !isModel(got)) || !ok && !noModel(got) {
			t.Errorf("ReadModel(%q): got %v %v", s, got, ok)
		}
	}
}

// modelResults has the results of all functions of the chapter for valid and invalid arguments, as texts.
func modelResults() []string {
	var all []string
	add := func(results ...any) { all = append(all, fmt.Sprint(results...)) }
	profiles := slices.Concat(goodProfiles(), badProfiles(), greatestProfiles())
	sounds := slices.Concat(goodSounds(), badSounds())
	zones := slices.Concat(goodZones, badZones)
	for i, m := range slices.Concat(goodModels(), badModels()) {
		add(impl.ValidModel(m), impl.SameModel(m, bellModel()), impl.SameModel(m, m), impl.ModelText(m))
		for _, k := range slices.Concat(edgeNumbers, []int64{4, 5, 6}) {
			add(impl.DominantZone(m, k))
			add(impl.Sensitivity(m, smallProfile(), k))
		}
		for j, p := range profiles {
			add(impl.ZoneWalls(p, m.Zones))
			add(impl.RawPartials(m, p))
			add(impl.SoundOf(m, p))
			add(impl.Sensitivity(m, p, edgeNumbers[(i+j)%len(edgeNumbers)]))
			add(impl.Sensitivity(m, p, int64((i+j)%9)))
			add(impl.FitBase(m, p, sounds[(i+j)%len(sounds)]))
		}
	}
	for _, list := range zones {
		add(impl.StandardModel(list))
		add(impl.ZoneWalls(smallProfile(), list))
	}
	for _, s := range slices.Concat(modelTexts, edgeTexts, pointedTexts) {
		add(impl.ReadModel(s))
	}
	return all
}

// TestP1ModelsReturn: every function of chapter 8 returns for all arguments, and the same again.
func TestP1ModelsReturn(t *testing.T) {
	first := modelResults()
	if again := modelResults(); !slices.Equal(first, again) {
		t.Error("other results for equal arguments")
	}
}

// roomyModel returns a model whose lists, and their list, are parts of longer ones; those are returned too.
func roomyModel(m impl.Model) (impl.Model, [][]int64) {
	lists := cloneLists(listsOf(m))
	for i, list := range lists {
		lists[i] = append(list, 77, 78, 79)
	}
	rows := append(make([][]int64, 0, 20), lists[1:6]...)
	for z := range rows {
		rows[z] = rows[z][:len(m.Zones)]
	}
	spare := []int64{81, 82}
	rows = append(rows, spare)
	return impl.Model{Zones: lists[0][:len(m.Zones)], Weights: rows[:5], Base: lists[6][:5]}, append(lists, spare)
}

// TestP1ModelsKeepTheirArguments: neither the lists of a model, nor the rings, nor the capacity behind them are modified.
func TestP1ModelsKeepTheirArguments(t *testing.T) {
	for _, plain := range []impl.Model{bellModel(), evenModel([]int64{0}, 1000, 1000), evenModel([]int64{0, 1, 2}, 7, 300000), evenModel([]int64{0, 31}, 1, 1)} {
		m, lists := roomyModel(plain)
		before := cloneLists(lists)
		rings := []impl.Ring{ringWith(5000, 4500, 600), ringWith(4800, 4400, 900), ringWith(4700, 4300, 100), ringWith(1, 2, 3), ringWith(4, 5, 6)}
		ringsBefore := slices.Clone(rings)
		for size := range len(rings) {
			p := impl.Profile{Name: "a", Rings: rings[:size]}
			impl.ValidModel(m)
			impl.SameModel(m, m)
			impl.StandardModel(m.Zones)
			impl.ZoneWalls(p, m.Zones)
			impl.RawPartials(m, p)
			impl.SoundOf(m, p)
			for zone := range int64(4) {
				impl.Sensitivity(m, p, zone-1)
				impl.DominantZone(m, zone)
			}
			impl.FitBase(m, p, minorSound)
			impl.ModelText(m)
			spare := m.Weights[:6][5]
			if !slices.EqualFunc(lists, before, slices.Equal[[]int64]) || !sameModels(m, plain) || !slices.Equal(rings, ringsBefore) || !slices.Equal(spare, []int64{81, 82}) {
				t.Fatalf("a profile of %d rings: the lists are now %v, and the rings %v", size, lists, rings)
			}
		}
	}
}

// TestP1ModelListsAreNew: a list that is overwritten changes neither an argument nor another result.
func TestP1ModelListsAreNew(t *testing.T) {
	for name, list := range map[string]func(m impl.Model, p impl.Profile) ([]int64, int64){
		"ZoneWalls":   func(m impl.Model, p impl.Profile) ([]int64, int64) { return impl.ZoneWalls(p, m.Zones) },
		"RawPartials": impl.RawPartials,
		"Sensitivity": func(m impl.Model, p impl.Profile) ([]int64, int64) { return impl.Sensitivity(m, p, 1) },
	} {
		m, p := bellModel(), smallProfile()
		want := slices.Clone(first(list(m, p)))
		got, other := first(list(m, p)), first(list(m, p))
		overwrite(other, -7)
		if !sameModels(m, bellModel()) || !sameProfiles(p, smallProfile()) || !slices.Equal(got, want) || len(want) == 0 {
			t.Errorf("%s: the arguments are now %v and %v, and %v has become %v", name, m, p, want, got)
		}
		for _, l := range listsOf(m) {
			overwrite(l, -7)
		}
		overwrite(p.Rings, ringWith(1, 2, 3))
		if !slices.Equal(got, want) {
			t.Errorf("%s: got %v, which has become %v", name, want, got)
		}
	}
}

// TestP1NewModelsShareNothing: a list of a model that is overwritten, with the capacity behind it, changes no other list, no argument and no other model, and the other way round.
func TestP1NewModelsShareNothing(t *testing.T) {
	plain := withBase(bellModel(), 10, 20, 30, 40, 50)
	for name, build := range map[string]func(m impl.Model) impl.Model{
		"StandardModel": func(m impl.Model) impl.Model { return first(impl.StandardModel(m.Zones)) },
		"FitBase":       func(m impl.Model) impl.Model { return first(impl.FitBase(m, smallProfile(), minorSound)) },
		"ReadModel":     func(m impl.Model) impl.Model { return readModel(bellModelText) },
	} {
		for place := range 7 {
			m, lists := roomyModel(plain)
			before := cloneLists(lists)
			want, got, other := cloneModel(build(m)), build(m), build(m)
			overwrite(listsOf(got)[place], -7)
			left := listsOf(got)
			left[place] = listsOf(want)[place]
			if !isModel(want) || !sameModels(modelOf(left), want) || !sameModels(other, want) || !slices.EqualFunc(lists, before, slices.Equal[[]int64]) {
				t.Errorf("%s: the list %d is overwritten, and the model is %v, the arguments are %v, and another result is %v", name, place, got, lists, other)
			}
			for _, list := range lists {
				overwrite(list, -7)
			}
			if !sameModels(other, want) {
				t.Errorf("%s: got %v, which has become %v", name, want, other)
			}
		}
		checkRowsAreNew(t, name, plain, build)
	}
}

// checkRowsAreNew overwrites the list of the rows, with the capacity behind it.
func checkRowsAreNew(t *testing.T, name string, plain impl.Model, build func(m impl.Model) impl.Model) {
	t.Helper()
	m, _ := roomyModel(plain)
	want, got, other := cloneModel(build(m)), build(m), build(m)
	// no list that belongs to another part of the model lies behind the rows
	for _, row := range got.Weights[:cap(got.Weights)][5:] {
		overwrite(row, -7)
	}
	if !sameModels(got, want) {
		t.Errorf("%s: behind the rows lies a list of the model, which is %v now", name, got)
	}
	overwrite(got.Weights, nil)
	if !sameModels(m, plain) || !sameModels(other, want) || !slices.Equal(m.Weights[:6][5], []int64{81, 82}) {
		t.Errorf("%s: the rows are overwritten, and the argument is %v, and another result %v", name, m, other)
	}
	overwrite(m.Weights, nil)
	if !sameModels(other, want) {
		t.Errorf("%s: got %v, which has become %v", name, want, other)
	}
}

// readModel returns the valid model with a text.
func readModel(text string) impl.Model {
	m, ok := impl.ReadModel(text)
	if !ok {
		panic("no model: " + text)
	}
	return m
}
