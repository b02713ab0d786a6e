package tests

import (
	"fmt"
	"math"
	"math/big"
	"math/rand"
	"slices"
	"strings"
	"testing"

	"loop.example/g00952/impl"
)

// The limits of chapter 16, written out from the document.
const (
	castTemp    = 1150
	airTemp     = 20
	stripTemp   = 150
	maxThick    = 30000
	maxBays     = 8
	maxCastings = 12
	maxCooling  = 1000000
	bayLength   = 300000
)

// The time for which castings of two thicknesses stay in their bays.
const (
	thinStay  = 95  // of the thickness 1, with a half time of 30
	thickStay = 158 // of the thickness 2000, with a half time of 50
)

var (
	noThicks      = []int64{math.MinInt64, math.MinInt64 + 1, -maxThick, -2000, -1, 0, maxThick + 1, maxThick + 2, 1 << 32, 1<<32 + 1, math.MaxInt64 - 1, math.MaxInt64}
	noTimes       = []int64{math.MinInt64, math.MinInt64 + 1, -maxCooling, -50, -2, -1, maxCooling + 1, maxCooling + 2, 1 << 32, 1<<32 + 1, math.MaxInt64 - 1, math.MaxInt64}
	noTemps       = []int64{math.MinInt64, math.MinInt64 + 1, -20, -1, 0, 1, 18, 19, 1151, 1152, 2000, 1 << 32, 1<<32 + 20, math.MaxInt64 - 1, math.MaxInt64}
	noBayLengths  = []int64{math.MinInt64, math.MinInt64 + 1, -bayLength, -1, 0, bayLength + 1, bayLength + 2, 1 << 32, 1<<32 + 1, math.MaxInt64 - 1, math.MaxInt64}
	severalThicks = []int64{1, 2, 447, 448, 632, 633, 1000, 1999, 2000, 2001, 5000, 10000, 14999, 29999, 30000}
)

func bayWith(id string, radius, depth int64) impl.Bay {
	return impl.Bay{Id: id, Radius: radius, Depth: depth}
}

func castWith(bell string, radius, depth, thick, from int64) impl.Casting {
	return impl.Casting{Bell: bell, Radius: radius, Depth: depth, Thick: thick, From: from}
}

// equalBays returns some equal bays, with Ids of three digits.
func equalBays(count int, length int64) []impl.Bay {
	var list []impl.Bay
	for i := range count {
		list = append(list, bayWith(fmt.Sprintf("p%03d", i), length, length))
	}
	return list
}

// risingBays returns bays of the lengths 10, 20, 30 and so on.
func risingBays(count int) []impl.Bay {
	list := equalBays(count, 10)
	for i := range list {
		list[i].Radius, list[i].Depth = 10*int64(i+1), 10*int64(i+1)
	}
	return list
}

// castingsFrom returns castings of the thickness 1 with a length and the times at which they are cast.
func castingsFrom(length int64, times ...int64) []impl.Casting {
	var list []impl.Casting
	for i, from := range times {
		list = append(list, castWith(fmt.Sprintf("c%03d", i), length, length, 1, from))
	}
	return list
}

// castingsOfLengths returns castings that are cast one after the other, with lengths.
func castingsOfLengths(apart int64, lengths ...int64) []impl.Casting {
	var list []impl.Casting
	for i, length := range lengths {
		list = append(list, castWith(fmt.Sprintf("c%03d", i), length, length, 1, int64(i)*apart))
	}
	return list
}

// goodBays has valid lists of bays.
func goodBays() [][]impl.Bay {
	return [][]impl.Bay{
		nil, {}, {bayWith("p", 100, 200)}, {bayWith("p", 100, 200), bayWith("q", 500, 500)}, {bayWith("a", 1, 1)}, {bayWith("a", bayLength, 1)}, {bayWith("a", 1, bayLength)}, {bayWith("a", bayLength-1, bayLength-1)}, {bayWith("abcdefghij", bayLength, bayLength)}, {bayWith("z999999999", 2, 2)},
		equalBays(1, 5), equalBays(2, 5), equalBays(7, 5), equalBays(8, 5), equalBays(8, bayLength), risingBays(8), {bayWith("a", 5, 5), bayWith("a0", 5, 5), bayWith("aa", 5, 5), bayWith("b", 5, 5), bayWith("zzzzzzzzzz", 5, 5)}, {bayWith("p10", 5, 5), bayWith("p2", 5, 5)},
	}
}

// badBay has bays that are not valid, each for one reason or for several.
func badBay() []impl.Bay {
	bad := []impl.Bay{{}, {Id: "p"}, {Radius: 5, Depth: 5}}
	for _, id := range noNames {
		bad = append(bad, bayWith(id, 5, 5), bayWith(id, 0, 0))
	}
	for _, n := range noBayLengths {
		bad = append(bad, bayWith("p", n, 5), bayWith("p", 5, n), bayWith("p", n, n))
	}
	return bad
}

// badBays has lists of bays that are not valid.
func badBays() [][]impl.Bay {
	lists := [][]impl.Bay{
		equalBays(9, 5), equalBays(10, 5), equalBays(1000, 5), make([]impl.Bay, 8), make([]impl.Bay, 9), append(equalBays(7, 5), impl.Bay{}),
		// Ids that are equal or falling, beside one another and at the ends
		{bayWith("a", 5, 5), bayWith("a", 5, 5)}, {bayWith("a", 5, 5), bayWith("a", 6, 6)}, {bayWith("b", 5, 5), bayWith("a", 5, 5)}, {bayWith("aa", 5, 5), bayWith("a", 5, 5)}, {bayWith("p2", 5, 5), bayWith("p10", 5, 5)},
		{bayWith("a", 5, 5), bayWith("b", 5, 5), bayWith("b", 5, 5)}, {bayWith("a", 5, 5), bayWith("c", 5, 5), bayWith("b", 5, 5)}, {bayWith("a", 5, 5), bayWith("b", 5, 5), bayWith("a", 5, 5)}, append(equalBays(7, 5), bayWith("p006", 5, 5)), append(equalBays(7, 5), bayWith("p", 5, 5)), append([]impl.Bay{bayWith("q", 5, 5)}, equalBays(7, 5)...),
	}
	for _, p := range badBay() {
		before, after := bayWith("a", 5, 5), bayWith("zz", 5, 5)
		lists = append(lists, []impl.Bay{p}, []impl.Bay{p, after}, []impl.Bay{before, p}, []impl.Bay{before, p, after})
	}
	return lists
}

// goodCastings has valid lists of castings.
func goodCastings() [][]impl.Casting {
	return [][]impl.Casting{
		nil, {}, {castWith("c4", 100, 200, 2000, 60)}, {castWith("c4", 100, 200, 2000, 60), castWith("d4", 100, 200, 2000, 100)}, {castWith("a", 1, 1, 1, 0)}, {castWith("a", bayLength, 1, 1, 0)}, {castWith("a", 1, bayLength, 1, 0)}, {castWith("a", 1, 1, maxThick, 0)}, {castWith("a", 1, 1, 1, maxCooling)}, {castWith("abcdefghij", bayLength, bayLength, maxThick, maxCooling)}, {castWith("z999999999", bayLength-1, bayLength-1, maxThick-1, maxCooling-1)},
		castingsFrom(5, 0), castingsFrom(5, make([]int64, 11)...), castingsFrom(5, make([]int64, 12)...), castingsFrom(5, 0, 95, 190, 285, 380, 475, 570, 665, 760, 855, 950, 1045), castingsFrom(5, 300, 200, 100, 0),
		{castWith("a", 5, 5, 1, 9), castWith("a0", 5, 5, 1, 8), castWith("aa", 5, 5, 1, 7), castWith("b", 5, 5, 1, 6), castWith("zzzzzzzzzz", 5, 5, 1, 5)}, {castWith("c10", 5, 5, 1, 0), castWith("c2", 5, 5, 1, 0)},
	}
}

// badCasting has castings that are not valid, each for one reason or for several.
func badCasting() []impl.Casting {
	bad := []impl.Casting{{}, {Bell: "c"}, {Radius: 5, Depth: 5, Thick: 5, From: 5}}
	for _, bell := range noNames {
		bad = append(bad, castWith(bell, 5, 5, 1, 0), castWith(bell, 0, 0, 0, -1))
	}
	for _, n := range noBayLengths {
		bad = append(bad, castWith("c", n, 5, 1, 0), castWith("c", 5, n, 1, 0), castWith("c", n, n, n, n))
	}
	for _, n := range noThicks {
		bad = append(bad, castWith("c", 5, 5, n, 0))
	}
	for _, n := range noTimes {
		bad = append(bad, castWith("c", 5, 5, 1, n))
	}
	return bad
}

// badCastings has lists of castings that are not valid.
func badCastings() [][]impl.Casting {
	at := func(bell string) impl.Casting { return castWith(bell, 5, 5, 1, 0) }
	lists := [][]impl.Casting{
		castingsFrom(5, make([]int64, 13)...), castingsFrom(5, make([]int64, 14)...), castingsFrom(5, make([]int64, 1000)...), make([]impl.Casting, 12), make([]impl.Casting, 13), append(castingsFrom(5, make([]int64, 11)...), impl.Casting{}),
		// Bells that are equal or falling, beside one another and at the ends
		{at("a"), at("a")}, {at("a"), castWith("a", 6, 6, 6, 600)}, {at("b"), at("a")}, {at("aa"), at("a")}, {at("c2"), at("c10")}, {at("a"), at("b"), at("b")}, {at("a"), at("c"), at("b")}, {at("a"), at("b"), at("a")},
		append(castingsFrom(5, make([]int64, 11)...), at("c010")), append(castingsFrom(5, make([]int64, 11)...), at("c")), append([]impl.Casting{at("d")}, castingsFrom(5, make([]int64, 11)...)...),
	}
	for _, c := range badCasting() {
		before, after := at("a"), at("zz")
		lists = append(lists, []impl.Casting{c}, []impl.Casting{c, after}, []impl.Casting{before, c}, []impl.Casting{before, c, after})
	}
	return lists
}

func isLength(n int64) bool { return n >= 1 && n <= bayLength }

func isBay(p impl.Bay) bool { return impl.IsName(p.Id) && isLength(p.Radius) && isLength(p.Depth) }

func areBays(list []impl.Bay) bool {
	var ids []string
	for _, p := range list {
		if !isBay(p) {
			return false
		}
		ids = append(ids, p.Id)
	}
	return len(list) <= maxBays && areIncreasing(ids)
}

func isThickness(n int64) bool { return n >= 1 && n <= maxThick }

func isTime(n int64) bool { return n >= 0 && n <= maxCooling }

func isCasting(c impl.Casting) bool {
	return impl.IsName(c.Bell) && isLength(c.Radius) && isLength(c.Depth) && isThickness(c.Thick) && isTime(c.From)
}

func areCastings(list []impl.Casting) bool {
	var bells []string
	for _, c := range list {
		if !isCasting(c) {
			return false
		}
		bells = append(bells, c.Bell)
	}
	return len(list) <= maxCastings && areIncreasing(bells)
}

// halfModel returns the half time of a thickness.
func halfModel(thick int64) int64 {
	square := productOf(thick, thick)
	return 30 + square.Quo(square, big.NewInt(200000)).Int64()
}

// temperaturesModel returns the temperatures of a thickness minute by minute, up to some time at which it has that of the air.
func temperaturesModel(thick int64) []int64 {
	var all []int64
	half := halfModel(thick)
	for k := range int64(12) {
		before, after := airTemp+1130/int64(math.Pow(2, float64(k))), airTemp+1130/int64(math.Pow(2, float64(k+1)))
		for passed := range half {
			all = append(all, before+nearestModel(productOf(after-before, passed), half))
		}
	}
	return all
}

// timeModel returns the first time at which one of the temperatures of a thickness is reached.
func timeModel(temperatures []int64, temperature int64) int64 {
	return int64(slices.IndexFunc(temperatures, func(n int64) bool { return n <= temperature }))
}

// stayModel returns for how long a casting stays in its bay.
func stayModel(c impl.Casting) int64 {
	switch c.Thick {
	case 1:
		return thinStay
	case 2000:
		return thickStay
	}
	return timeModel(temperaturesModel(c.Thick), stripTemp)
}

// meetModel reports whether two castings have a time in common.
func meetModel(a, b impl.Casting) bool {
	return max(a.From, b.From) < min(a.From+stayModel(a), b.From+stayModel(b))
}

// possibleModel reports whether places are possible for the first ones of some castings.
func possibleModel(bays []impl.Bay, list []impl.Casting, places []int64) bool {
	for i, place := range places {
		if place < 0 || place >= int64(len(bays)) || list[i].Radius > bays[place].Radius || list[i].Depth > bays[place].Depth {
			return false
		}
		for k := range i {
			if places[k] == place && meetModel(list[i], list[k]) {
				return false
			}
		}
	}
	return true
}

// differentBays returns how many different bays places have.
func differentBays(places []int64) int {
	return len(slices.Compact(slices.Sorted(slices.Values(places))))
}

// bayNodesModel returns the nodes of a search in at most some bays, in its order: all possible places of the first castings, found for one casting more and more.
func bayNodesModel(bays []impl.Bay, list []impl.Casting, most int) [][]int64 {
	var nodes [][]int64
	level := [][]int64{{}}
	for range list {
		var next [][]int64
		for _, places := range level {
			for bay := range bays {
				more := append(slices.Clone(places), int64(bay))
				if differentBays(more) <= most && possibleModel(bays, list, more) {
					next = append(next, more)
				}
			}
		}
		nodes, level = append(nodes, next...), next
	}
	slices.SortFunc(nodes, slices.Compare)
	return nodes
}

// bayOutcome is what a search must return, and how many nodes it visits.
type bayOutcome struct {
	places []int64
	used   int64
	code   int64
	nodes  int
}

// endOfSearch returns how many nodes a search visits, and the places that it finds.
func endOfSearch(nodes [][]int64, castings int) (int, []int64, bool) {
	if castings == 0 {
		return 0, nil, true
	}
	end := slices.IndexFunc(nodes, func(places []int64) bool { return len(places) == castings })
	if end < 0 {
		return len(nodes), nil, false
	}
	return end + 1, nodes[end], true
}

// The searches, by their places in lists of two.
const (
	firstBays = iota
	fewestBays
)

var baySearchNames = []string{"FirstBays", "FewestBays"}

// searchBays makes one of the searches.
func searchBays(which int, bays []impl.Bay, list []impl.Casting, budget int64) ([]int64, int64, int64) {
	if which == firstBays {
		places, code := impl.FirstBays(bays, list, budget)
		return places, 0, code
	}
	return impl.FewestBays(bays, list, budget)
}

// bayOutcomes returns what both searches must return.
func bayOutcomes(bays []impl.Bay, list []impl.Casting) []bayOutcome {
	found := []bayOutcome{{code: codeMissing}, {code: codeMissing}}
	nodes, places, ok := endOfSearch(bayNodesModel(bays, list, len(bays)), len(list))
	found[firstBays].nodes = nodes
	if ok {
		found[firstBays] = bayOutcome{places, 0, codeOK, nodes}
	}
	sum := 0
	for most := range len(bays) + 1 {
		nodes, places, ok := endOfSearch(bayNodesModel(bays, list, most), len(list))
		sum += nodes
		found[fewestBays].nodes = sum
		if ok {
			found[fewestBays] = bayOutcome{places, int64(most), codeOK, sum}
			break
		}
	}
	return found
}

// checkBaySearch holds a search against what it must return, with budgets around the number of its nodes, and with numbers that are no budgets.
func checkBaySearch(t *testing.T, which int, bays []impl.Bay, list []impl.Casting, want bayOutcome) {
	t.Helper()
	for _, budget := range append(slices.Clone(noBudgets), 1, int64(want.nodes)-1, int64(want.nodes), int64(want.nodes)+1, maxBudget-1, maxBudget) {
		wanted := want
		if budget < 1 || budget > maxBudget {
			wanted = bayOutcome{code: codeRange}
		} else if budget < int64(want.nodes) {
			wanted = bayOutcome{code: codeFull}
		}
		places, used, code := searchBays(which, bays, list, budget)
		if !slices.Equal(places, wanted.places) || used != wanted.used || code != wanted.code {
			t.Errorf("%s(%v, %v, %d): got %v %d %d, want %v %d %d", baySearchNames[which], bays, list, budget, places, used, code, wanted.places, wanted.used, wanted.code)
		}
	}
}

// checkBaySearches holds both searches against what they must return.
func checkBaySearches(t *testing.T, bays []impl.Bay, list []impl.Casting, want []bayOutcome) {
	t.Helper()
	for which, outcome := range want {
		checkBaySearch(t, which, bays, list, outcome)
	}
}

// freeModel goes on minute by minute, until no casting is in a bay.
func freeModel(list []impl.Casting, places []int64, bay, t int64) int64 {
	isIn := func(t int64) bool {
		for i, c := range list {
			if places[i] == bay && t >= c.From && t < c.From+stayModel(c) {
				return true
			}
		}
		return false
	}
	for isIn(t) {
		t++
	}
	return t
}

// randomCooling returns bays and castings of which many just fit, and many begin just when another one is taken out.
func randomCooling(random *rand.Rand) ([]impl.Bay, []impl.Casting) {
	bays := equalBays(random.Intn(5), 0)
	for i := range bays {
		bays[i].Radius, bays[i].Depth = 10+random.Int63n(3), 10+random.Int63n(3)
	}
	times := []int64{0, thinStay - 1, thinStay, thinStay + 1, 2 * thinStay, thickStay - 1, thickStay, thickStay - thinStay, thickStay + thinStay, thickStay + thinStay - 1, 1000}
	list := castingsFrom(0, make([]int64, random.Intn(6))...)
	for i := range list {
		list[i].Radius, list[i].Depth = 8+random.Int63n(5), 8+random.Int63n(5)
		list[i].Thick, list[i].From = []int64{1, 2000}[random.Intn(2)], times[random.Intn(len(times))]
	}
	return bays, list
}

func TestP17Constants(t *testing.T) {
	got := []int64{impl.CastTemp, impl.AirTemp, impl.StripTemp, impl.MaxThick, impl.MaxBays, impl.MaxCastings, impl.MaxCooling}
	if want := []int64{1150, 20, 150, 30000, 8, 12, 1000000}; !slices.Equal(got, want) {
		t.Errorf("constants: got %v, want %v", got, want)
	}
}

// TestP17Example is the example of the chapter: after one half time it is 585.
func TestP17Example(t *testing.T) {
	for _, thick := range severalThicks {
		half, code := impl.HalfTime(thick)
		checkNumber(t, fmt.Sprintf("HalfTime(%d)", thick), half, code, halfModel(thick), codeOK)
		temperature, code := impl.TemperatureAt(thick, half)
		checkNumber(t, fmt.Sprintf("TemperatureAt(%d, %d)", thick, half), temperature, code, 585, codeOK)
	}
}

func TestP17HalfTime(t *testing.T) {
	for _, c := range []struct{ thick, want int64 }{
		{1, 30}, {2, 30}, {447, 30}, {448, 31}, {632, 31}, {633, 32}, {1000, 35}, {1999, 49}, {2000, 50}, {2001, 50}, {10000, 530}, {29999, 4529}, {30000, 4530},
	} {
		half, code := impl.HalfTime(c.thick)
		checkNumber(t, fmt.Sprintf("HalfTime(%d)", c.thick), half, code, c.want, codeOK)
	}
	for thick := range int64(maxThick) {
		half, code := impl.HalfTime(thick + 1)
		checkNumber(t, fmt.Sprintf("HalfTime(%d)", thick+1), half, code, halfModel(thick+1), codeOK)
	}
	for _, thick := range noThicks {
		half, code := impl.HalfTime(thick)
		checkNumber(t, fmt.Sprintf("HalfTime(%d)", thick), half, code, 0, codeRange)
	}
}

func TestP17TemperatureAt(t *testing.T) {
	for _, c := range []struct{ thick, t, want int64 }{
		{2000, 0, 1150}, {2000, 1, 1139}, {2000, 49, 596}, {2000, 50, 585}, {2000, 51, 579}, {2000, 99, 308}, {2000, 100, 302}, {2000, 101, 299}, {2000, 149, 164}, {2000, 150, 161}, {2000, 151, 160}, {2000, 157, 151}, {2000, 158, 150}, {2000, 200, 90}, {2000, 250, 55}, {2000, 300, 37}, {2000, 350, 28}, {2000, 400, 24}, {2000, 449, 22}, {2000, 450, 22}, {2000, 474, 22}, {2000, 475, 21}, {2000, 500, 21}, {2000, 524, 21}, {2000, 525, 20}, {2000, 550, 20}, {2000, 1000000, 20},
		// 56.5 and 282.5 degrees less than 1150 are rounded down
		{1, 0, 1150}, {1, 1, 1131}, {1, 3, 1093}, {1, 15, 867}, {1, 29, 604}, {1, 30, 585}, {1, 94, 152}, {1, 95, 149}, {1, 330, 20}, {1, 1000000, 20},
		{30000, 0, 1150}, {30000, 4, 1150}, {30000, 5, 1149}, {30000, 4530, 585}, {30000, 4529, 585}, {30000, 9060, 302}, {30000, 49830, 20}, {30000, 999999, 20}, {30000, 1000000, 20},
	} {
		temperature, code := impl.TemperatureAt(c.thick, c.t)
		checkNumber(t, fmt.Sprintf("TemperatureAt(%d, %d)", c.thick, c.t), temperature, code, c.want, codeOK)
	}
	for _, thick := range severalThicks {
		half := halfModel(thick)
		for k, want := range []int64{1150, 585, 302, 161, 90, 55, 37, 28, 24, 22, 21, 20, 20, 20} {
			temperature, code := impl.TemperatureAt(thick, int64(k)*half)
			checkNumber(t, fmt.Sprintf("TemperatureAt(%d) after %d half times", thick, k), temperature, code, want, codeOK)
		}
	}
	for _, thick := range append(slices.Clone(noThicks), 1, 2000, maxThick) {
		for _, time := range append(slices.Clone(noTimes), 0, 50, maxCooling) {
			if isThickness(thick) && isTime(time) {
				continue
			}
			temperature, code := impl.TemperatureAt(thick, time)
			checkNumber(t, fmt.Sprintf("TemperatureAt(%d, %d)", thick, time), temperature, code, 0, codeRange)
		}
	}
}

// TestP17NeverWarmer holds the temperatures of all minutes against the model: none is greater than the one before it, and none is less than that of the air.
func TestP17NeverWarmer(t *testing.T) {
	for _, thick := range severalThicks {
		want := temperaturesModel(thick)
		before := int64(castTemp)
		for time, temperature := range want {
			got, code := impl.TemperatureAt(thick, int64(time))
			if got != temperature || code != codeOK || got > before || got < airTemp {
				t.Fatalf("TemperatureAt(%d, %d): got %d %d, want %d after %d", thick, time, got, code, temperature, before)
			}
			before = got
		}
		for time := int64(len(want)); time <= maxCooling; time += 997 {
			got, code := impl.TemperatureAt(thick, time)
			checkNumber(t, fmt.Sprintf("TemperatureAt(%d, %d)", thick, time), got, code, airTemp, codeOK)
		}
	}
	for thick := int64(1); thick <= maxThick; thick += 37 {
		before := int64(castTemp)
		for time := range int64(1000) {
			got, code := impl.TemperatureAt(thick, time*halfModel(thick)/97)
			if code != codeOK || got > before || got < airTemp {
				t.Fatalf("TemperatureAt(%d, %d): got %d %d after %d", thick, time*halfModel(thick)/97, got, code, before)
			}
			before = got
		}
	}
}

func TestP17TimeTo(t *testing.T) {
	for _, c := range []struct{ thick, temperature, want int64 }{
		{2000, 1150, 0}, {2000, 1149, 1}, {2000, 1139, 1}, {2000, 1138, 2}, {2000, 586, 50}, {2000, 585, 50}, {2000, 584, 51}, {2000, 302, 100}, {2000, 301, 101}, {2000, 161, 150}, {2000, 151, 157}, {2000, 150, thickStay}, {2000, 22, 438}, {2000, 21, 475}, {2000, 20, 525},
		{1, 1150, 0}, {1, 1149, 1}, {1, 152, 94}, {1, 151, 95}, {1, 150, thinStay}, {1, 149, 95}, {1, 148, 96}, {1, 20, 315}, {30000, 1150, 0}, {30000, 1149, 5}, {30000, 585, 4526}, {30000, 20, 47565},
	} {
		time, code := impl.TimeTo(c.thick, c.temperature)
		checkNumber(t, fmt.Sprintf("TimeTo(%d, %d)", c.thick, c.temperature), time, code, c.want, codeOK)
	}
	for _, thick := range severalThicks {
		temperatures := temperaturesModel(thick)
		for temperature := int64(airTemp); temperature <= castTemp; temperature++ {
			time, code := impl.TimeTo(thick, temperature)
			checkNumber(t, fmt.Sprintf("TimeTo(%d, %d)", thick, temperature), time, code, timeModel(temperatures, temperature), codeOK)
		}
	}
	for _, thick := range append(slices.Clone(noThicks), 1, 2000, maxThick) {
		for _, temperature := range append(slices.Clone(noTemps), airTemp, 585, castTemp) {
			if isThickness(thick) && temperature >= airTemp && temperature <= castTemp {
				continue
			}
			time, code := impl.TimeTo(thick, temperature)
			checkNumber(t, fmt.Sprintf("TimeTo(%d, %d)", thick, temperature), time, code, 0, codeRange)
		}
	}
}

// TestP17TimeToIsTheLeast: at the time of TimeTo a bell is as cold as told, and one minute before it is warmer.
func TestP17TimeToIsTheLeast(t *testing.T) {
	for thick := int64(1); thick <= maxThick; thick += 251 {
		for temperature := int64(airTemp); temperature <= castTemp; temperature += 13 {
			time, code := impl.TimeTo(thick, temperature)
			at, _ := impl.TemperatureAt(thick, time)
			before, _ := impl.TemperatureAt(thick, max(0, time-1))
			if code != codeOK || at > temperature || time > 0 && before <= temperature {
				t.Errorf("TimeTo(%d, %d): got %d %d, where it is %d, and %d before", thick, temperature, time, code, at, before)
			}
		}
	}
}

func TestP17ValidBays(t *testing.T) {
	for _, list := range goodBays() {
		if !impl.ValidBays(list) || !areBays(list) {
			t.Errorf("ValidBays(%v): got false", list)
		}
	}
	for _, list := range badBays() {
		if impl.ValidBays(list) || areBays(list) {
			t.Errorf("ValidBays(%v): got true", list)
		}
	}
	for count := range 30 {
		if got := impl.ValidBays(equalBays(count, 5)); got != (count <= 8) {
			t.Errorf("ValidBays of %d bays: got %v", count, got)
		}
	}
	for _, n := range append(slices.Clone(edgeNumbers), bayLength-1, bayLength, bayLength+1) {
		want := n >= 1 && n <= 300000
		if got, other := impl.ValidBays([]impl.Bay{bayWith("p", n, 5)}), impl.ValidBays([]impl.Bay{bayWith("p", 5, n)}); got != want || other != want {
			t.Errorf("ValidBays with the Radius or the Depth %d: got %v %v", n, got, other)
		}
	}
	checkNamePairs(t, "ValidBays", func(before, after string) bool {
		return impl.ValidBays([]impl.Bay{bayWith(before, 5, 5), bayWith(after, 5, 5)})
	})
}

func TestP17ValidCastings(t *testing.T) {
	for _, list := range goodCastings() {
		if !impl.ValidCastings(list) || !areCastings(list) {
			t.Errorf("ValidCastings(%v): got false", list)
		}
	}
	for _, list := range badCastings() {
		if impl.ValidCastings(list) || areCastings(list) {
			t.Errorf("ValidCastings(%v): got true", list)
		}
	}
	for count := range 30 {
		if got := impl.ValidCastings(castingsFrom(5, make([]int64, count)...)); got != (count <= 12) {
			t.Errorf("ValidCastings of %d castings: got %v", count, got)
		}
	}
	for _, n := range append(slices.Clone(edgeNumbers), maxThick-1, maxThick, maxThick+1, bayLength-1, bayLength, bayLength+1, maxCooling-1, maxCooling, maxCooling+1) {
		for _, c := range []impl.Casting{castWith("c", n, 5, 5, 5), castWith("c", 5, n, 5, 5), castWith("c", 5, 5, n, 5), castWith("c", 5, 5, 5, n)} {
			if got := impl.ValidCastings([]impl.Casting{c}); got != isCasting(c) {
				t.Errorf("ValidCastings of %v: got %v", c, got)
			}
		}
	}
	checkNamePairs(t, "ValidCastings", func(before, after string) bool {
		return impl.ValidCastings([]impl.Casting{castWith(before, 5, 5, 1, 0), castWith(after, 5, 5, 1, 0)})
	})
}

func TestP17StripTime(t *testing.T) {
	for _, c := range []struct{ thick, from, want int64 }{
		{2000, 0, 158}, {2000, 60, 218}, {2000, 1000000, 1000158}, {1, 0, 95}, {1, 5, 100}, {1, 1000000, 1000095},
	} {
		got, code := impl.StripTime(castWith("c", 1, 1, c.thick, c.from))
		checkNumber(t, fmt.Sprintf("StripTime of the thickness %d, cast at %d", c.thick, c.from), got, code, c.want, codeOK)
	}
	for _, list := range goodCastings() {
		for _, c := range list {
			got, code := impl.StripTime(c)
			checkNumber(t, fmt.Sprintf("StripTime(%v)", c), got, code, c.From+timeModel(temperaturesModel(c.Thick), stripTemp), codeOK)
		}
	}
	for _, thick := range severalThicks {
		for _, from := range []int64{0, 1, 77, maxCooling} {
			got, code := impl.StripTime(castWith("c", 7, 8, thick, from))
			checkNumber(t, fmt.Sprintf("StripTime of the thickness %d, cast at %d", thick, from), got, code, from+timeModel(temperaturesModel(thick), stripTemp), codeOK)
		}
	}
	for _, c := range badCasting() {
		got, code := impl.StripTime(c)
		checkNumber(t, fmt.Sprintf("StripTime(%v)", c), got, code, 0, codeInvalid)
	}
}

func TestP17FitsBay(t *testing.T) {
	for _, c := range []struct {
		radius, depth, otherRadius, otherDepth int64
		want                                   bool
	}{
		{100, 200, 100, 200, true}, {100, 200, 99, 199, true}, {100, 200, 1, 1, true}, {100, 200, 101, 200, false}, {100, 200, 100, 201, false}, {100, 200, 101, 201, false}, {100, 200, 200, 100, false}, {100, 200, 1, 201, false}, {100, 200, 101, 1, false}, {1, 1, 1, 1, true}, {1, 1, 2, 1, false}, {1, 1, 1, 2, false}, {bayLength, bayLength, bayLength, bayLength, true}, {bayLength, bayLength - 1, bayLength, bayLength, false}, {bayLength - 1, bayLength, bayLength, bayLength, false},
		{bayLength + 1, 200, 100, 200, false}, {100, bayLength + 1, 100, 200, false}, {0, 200, 0, 200, false}, {100, 200, 0, 200, false}, {100, 200, 100, 0, false}, {100, 200, -5, 200, false}, {math.MaxInt64, math.MaxInt64, 100, 200, false},
	} {
		p, casting := bayWith("p", c.radius, c.depth), castWith("c", c.otherRadius, c.otherDepth, 2000, 60)
		if got := impl.FitsBay(p, casting); got != c.want {
			t.Errorf("FitsBay(%v, %v): got %v", p, casting, got)
		}
	}
	for _, p := range badBay() {
		if impl.FitsBay(p, castWith("c", 1, 1, 1, 0)) {
			t.Errorf("FitsBay(%v): got true", p)
		}
	}
	for _, c := range badCasting() {
		if impl.FitsBay(bayWith("p", bayLength, bayLength), c) {
			t.Errorf("FitsBay of %v: got true", c)
		}
	}
}

// TestP17CheckBays has castings in a bay that meet or just do not, in both orders of the list.
func TestP17CheckBays(t *testing.T) {
	one, two := equalBays(1, 5), equalBays(2, 5)
	for _, c := range []struct {
		thick, from, otherThick, other int64
		want                           bool
	}{
		{1, 0, 1, 95, true}, {1, 0, 1, 94, false}, {1, 0, 1, 96, true}, {1, 0, 1, 0, false}, {1, 0, 1, 1, false}, {1, 100, 1, 5, true}, {1, 100, 1, 6, false}, {1, 100, 1, 4, true}, {1, 100, 1, 194, false}, {1, 100, 1, 195, true},
		{2000, 60, 1, 218, true}, {2000, 60, 1, 217, false}, {2000, 60, 1, 100, false}, {2000, 60, 1, 60, false}, {2000, 95, 1, 0, true}, {2000, 94, 1, 0, false}, {2000, 0, 2000, 158, true}, {2000, 0, 2000, 157, false}, {1, 1000000, 1, 999905, true}, {1, 1000000, 1, 999906, false}, {30000, 0, 1, 1000, false},
	} {
		list := []impl.Casting{castWith("a", 5, 5, c.thick, c.from), castWith("b", 5, 5, c.otherThick, c.other)}
		turned := []impl.Casting{castWith("a", 5, 5, c.otherThick, c.other), castWith("b", 5, 5, c.thick, c.from)}
		if got, other := impl.CheckBays(one, list, []int64{0, 0}), impl.CheckBays(one, turned, []int64{0, 0}); got != c.want || other != c.want {
			t.Errorf("CheckBays(%v): got %v %v", list, got, other)
		}
		if !impl.CheckBays(two, list, []int64{0, 1}) || !impl.CheckBays(two, list, []int64{1, 0}) || impl.CheckBays(two, list, []int64{1, 1}) != c.want {
			t.Errorf("CheckBays(%v) in two bays", list)
		}
		_, code := impl.FirstBays(one, list, 10)
		_, other := impl.FirstBays(one, turned, 10)
		if (code == codeOK) != c.want || code != other {
			t.Errorf("FirstBays(%v): got %d %d", list, code, other)
		}
	}
	list := castingsFrom(5, 0, 95, 190)
	for _, places := range [][]int64{{0, 0, 0}, {0, 1, 0}, {1, 1, 1}, {1, 0, 1}} {
		if !impl.CheckBays(two, list, places) {
			t.Errorf("CheckBays of %v: got false", places)
		}
	}
	for _, places := range [][]int64{nil, {}, {0}, {0, 0}, {0, 0, 0, 0}, {1, 1, 1, 0}, {-1, 0, 0}, {0, -1, 0}, {0, 0, -1}, {2, 0, 0}, {0, 2, 0}, {0, 0, 2}, {0, 0, math.MinInt64}, {0, 0, math.MaxInt64}, {1 << 32, 0, 0}, {0, 256, 0}, slices.Repeat([]int64{0}, 1000)} {
		if impl.CheckBays(two, list, places) {
			t.Errorf("CheckBays of %v: got true", places)
		}
	}
	far := castingsFrom(5, 0, 500, 50)
	if impl.CheckBays(one, far, []int64{0, 0, 0}) || !impl.CheckBays(two, far, []int64{0, 0, 1}) || impl.CheckBays(two, far, []int64{0, 1, 0}) {
		t.Error("CheckBays of a third casting that meets the first one")
	}
	if impl.CheckBays(one, castingsFrom(6, 0), []int64{0}) || !impl.CheckBays(one, castingsFrom(5, 0), []int64{0}) {
		t.Error("CheckBays of a casting that is too large, or just fits")
	}
	if !impl.CheckBays(nil, nil, nil) || !impl.CheckBays(two, nil, []int64{}) || impl.CheckBays(nil, nil, []int64{0}) || impl.CheckBays(two, nil, []int64{0}) || impl.CheckBays(nil, list, []int64{0, 0, 0}) || impl.CheckBays(nil, list, nil) {
		t.Error("CheckBays of no bays or castings")
	}
}

// TestP17BaysByHand has places and numbers of nodes that are found by hand.
func TestP17BaysByHand(t *testing.T) {
	full := bayOutcome{code: codeMissing}
	small, large := bayWith("s", 5, 5), bayWith("t", 9, 9)
	for _, c := range []struct {
		name string
		bays []impl.Bay
		list []impl.Casting
		want []bayOutcome
	}{
		{"nothing", nil, nil, []bayOutcome{{}, {}}},
		{"no castings", equalBays(3, 5), nil, []bayOutcome{{}, {}}},
		{"no bays", nil, castingsFrom(5, 0), []bayOutcome{full, full}},
		{"castings that fit nowhere", equalBays(3, 5), castingsFrom(6, 0, 0), []bayOutcome{full, full}},
		{"one casting", equalBays(3, 5), castingsFrom(5, 0), []bayOutcome{{[]int64{0}, 0, codeOK, 1}, {[]int64{0}, 1, codeOK, 1}}},
		{"the last bay", []impl.Bay{small, large}, castingsFrom(6, 0), []bayOutcome{{[]int64{1}, 0, codeOK, 1}, {[]int64{1}, 1, codeOK, 1}}},
		{"the second bay, as the first is used", equalBays(2, 5), castingsFrom(5, 0, 94), []bayOutcome{{[]int64{0, 1}, 0, codeOK, 2}, {[]int64{0, 1}, 2, codeOK, 4}}},
		{"a bay that is just free", equalBays(2, 5), castingsFrom(5, 0, 95), []bayOutcome{{[]int64{0, 0}, 0, codeOK, 2}, {[]int64{0, 0}, 1, codeOK, 2}}},
		{"a bay that is just free for the first", equalBays(2, 5), castingsFrom(5, 95, 0), []bayOutcome{{[]int64{0, 0}, 0, codeOK, 2}, {[]int64{0, 0}, 1, codeOK, 2}}},
		{"a bay that is free between two castings", equalBays(2, 5), castingsFrom(5, 0, 190, 95), []bayOutcome{{[]int64{0, 0, 0}, 0, codeOK, 3}, {[]int64{0, 0, 0}, 1, codeOK, 3}}},
		{"no time between two castings", equalBays(2, 5), castingsFrom(5, 0, 189, 95), []bayOutcome{{[]int64{0, 0, 1}, 0, codeOK, 3}, {[]int64{0, 0, 1}, 2, codeOK, 7}}},
		{"one bay too few", equalBays(2, 5), castingsFrom(5, 0, 1, 2), []bayOutcome{{nil, 0, codeMissing, 4}, {nil, 0, codeMissing, 6}}},
		{"going back", []impl.Bay{bayWith("l", 9, 9), bayWith("s", 5, 5)}, []impl.Casting{castWith("a", 5, 5, 1, 0), castWith("b", 9, 9, 1, 0)}, []bayOutcome{{[]int64{1, 0}, 0, codeOK, 3}, {[]int64{1, 0}, 2, codeOK, 5}}},
		{"going back over two castings", []impl.Bay{bayWith("l", 9, 9), bayWith("s", 5, 5)}, []impl.Casting{castWith("a", 5, 5, 1, 0), castWith("b", 5, 5, 1, 95), castWith("c", 9, 9, 1, 50)}, []bayOutcome{{[]int64{1, 1, 0}, 0, codeOK, 7}, {[]int64{1, 1, 0}, 2, codeOK, 11}}},
		{"fewer bays than the first places", []impl.Bay{small, large}, []impl.Casting{castWith("a", 9, 9, 1, 0), castWith("b", 5, 5, 1, 95)}, []bayOutcome{{[]int64{1, 0}, 0, codeOK, 2}, {[]int64{1, 1}, 1, codeOK, 2}}},
		{"fewer bays that are not the first", []impl.Bay{bayWith("a", 5, 9), bayWith("b", 9, 5), bayWith("c", 9, 9)}, []impl.Casting{castWith("a", 5, 9, 1, 0), castWith("b", 9, 5, 1, 95)}, []bayOutcome{{[]int64{0, 1}, 0, codeOK, 2}, {[]int64{2, 2}, 1, codeOK, 3}}},
	} {
		t.Run(c.name, func(t *testing.T) {
			checkBaySearches(t, c.bays, c.list, c.want)
			for which, outcome := range bayOutcomes(c.bays, c.list) {
				if fmt.Sprint(outcome) != fmt.Sprint(c.want[which]) {
					t.Errorf("%s: the model has %v", baySearchNames[which], outcome)
				}
			}
		})
	}
}

// TestP17ManyBays holds the searches against the model, and their places against CheckBays.
func TestP17ManyBays(t *testing.T) {
	random := rand.New(rand.NewSource(161))
	codes, fewer, back := map[int64]int{}, 0, 0
	for range 3000 {
		bays, list := randomCooling(random)
		want := bayOutcomes(bays, list)
		checkBaySearches(t, bays, list, want)
		codes[want[firstBays].code]++
		if want[firstBays].code != codeOK {
			continue
		}
		for which := range baySearchNames {
			places, _, _ := searchBays(which, bays, list, maxBudget)
			if !impl.CheckBays(bays, list, places) {
				t.Errorf("%s(%v, %v): got %v, which are not possible", baySearchNames[which], bays, list, places)
			}
		}
		if differentBays(want[firstBays].places) > int(want[fewestBays].used) {
			fewer++
		}
		if want[firstBays].nodes > len(list) {
			back++
		}
	}
	if codes[codeOK] < 300 || codes[codeMissing] < 300 || fewer < 30 || back < 50 {
		t.Errorf("only %v searches have each code, %d use fewer bays, and %d go back", codes, fewer, back)
	}
}

// TestP17AllPlaces holds CheckBays against the model for all places, also some that are too short or too long.
func TestP17AllPlaces(t *testing.T) {
	random := rand.New(rand.NewSource(162))
	possible := 0
	for range 300 {
		bays, list := randomCooling(random)
		list = list[:min(len(list), 3)]
		all := [][]int64{{}}
		for range len(list) + 1 {
			for _, places := range all {
				want := len(places) == len(list) && possibleModel(bays, list, places)
				if got := impl.CheckBays(bays, list, places); got != want {
					t.Errorf("CheckBays(%v, %v, %v): got %v", bays, list, places, got)
				}
				if want {
					possible++
				}
			}
			var next [][]int64
			for _, places := range all {
				for bay := range int64(len(bays) + 2) {
					next = append(next, append(slices.Clone(places), bay-1))
				}
			}
			all = next
		}
	}
	if possible < 300 {
		t.Errorf("only %d places are possible", possible)
	}
}

// fittingCastings returns castings that fit into the last ones of some rising bays, and one at last that fits nowhere.
func fittingCastings(bays int64, fits ...int64) []impl.Casting {
	var lengths []int64
	for _, n := range fits {
		lengths = append(lengths, 10*(bays-n+1))
	}
	return castingsOfLengths(1000, append(lengths, bayLength)...)
}

// TestP17GreatestBudget has searches with exactly as many nodes as the greatest budget, and with one more.
func TestP17GreatestBudget(t *testing.T) {
	for _, c := range []struct {
		which, nodes int
		bays         int64
		fits         []int64
	}{
		{firstBays, 20000, 8, []int64{5, 3, 4, 4, 2, 5, 7}}, {firstBays, 20001, 8, []int64{3, 6, 6, 8, 2, 2, 4}},
		{fewestBays, 20000, 4, []int64{3, 2, 4, 1, 1, 3, 4, 3, 3, 3}}, {fewestBays, 20001, 5, []int64{3, 5, 1, 5, 5, 2, 5, 1}},
	} {
		bays, list := risingBays(int(c.bays)), fittingCastings(c.bays, c.fits...)
		checkBaySearch(t, c.which, bays, list, bayOutcome{code: codeMissing, nodes: c.nodes})
	}
	for which := range baySearchNames {
		places, used, code := searchBays(which, risingBays(8), fittingCastings(8, 8, 8, 8, 8, 8, 8, 8, 8, 8, 8, 8), maxBudget)
		if len(places) > 0 || used != 0 || code != codeFull {
			t.Errorf("%s of more places than the budget: got %v %d %d", baySearchNames[which], places, used, code)
		}
		places, used, code = searchBays(which, equalBays(8, 5), castingsFrom(5, make([]int64, 8)...), maxBudget)
		if which == firstBays && (!slices.Equal(places, upTo(8)) || code != codeOK) {
			t.Errorf("FirstBays of 8 castings at the same time: got %v %d %d", places, used, code)
		}
		places, used, code = searchBays(which, equalBays(8, 5), castingsFrom(5, make([]int64, 12)...), maxBudget)
		if len(places) > 0 || used != 0 || code != codeFull {
			t.Errorf("%s of 12 castings at the same time: got %v %d %d", baySearchNames[which], places, used, code)
		}
	}
	twelve := castingsOfLengths(thinStay, slices.Repeat([]int64{5}, 12)...)
	checkBaySearches(t, equalBays(8, 5), twelve, []bayOutcome{{make([]int64, 12), 0, codeOK, 12}, {make([]int64, 12), 1, codeOK, 12}})
}

// TestP17BaysErrors: ErrInvalid comes before ErrRange, and this before ErrNotFound and ErrFull.
func TestP17BaysErrors(t *testing.T) {
	check := func(bays []impl.Bay, list []impl.Casting, budget, want int64) {
		t.Helper()
		for which, name := range baySearchNames {
			places, used, code := searchBays(which, bays, list, budget)
			if len(places) > 0 || used != 0 || code != want {
				t.Errorf("%s(%v, %v, %d): got %v %d %d, want %d", name, bays, list, budget, places, used, code, want)
			}
		}
	}
	budgets := append(slices.Clone(noBudgets), 1, 2, maxBudget)
	for i, bays := range badBays() {
		for k, list := range append(goodCastings(), badCastings()[i%len(badCastings())]) {
			check(bays, list, budgets[(i+k)%len(budgets)], codeInvalid)
			if impl.CheckBays(bays, list, make([]int64, len(list))) {
				t.Errorf("CheckBays(%v, %v): got true", bays, list)
			}
		}
	}
	for i, list := range badCastings() {
		for k, bays := range append(goodBays(), badBays()[i%len(badBays())]) {
			check(bays, list, budgets[(i+k)%len(budgets)], codeInvalid)
			if impl.CheckBays(bays, list, make([]int64, len(list))) {
				t.Errorf("CheckBays(%v, %v): got true", bays, list)
			}
		}
	}
	for _, budget := range noBudgets {
		for _, bays := range goodBays() {
			for _, list := range goodCastings() {
				check(bays, list, budget, codeRange)
			}
		}
	}
	// The budget is spent before it is seen that there are no places.
	check(equalBays(2, 5), castingsFrom(5, 0, 1, 2), 1, codeFull)
	check(equalBays(2, 5), castingsFrom(5, 0, 1, 2), 3, codeFull)
	check(equalBays(2, 5), castingsFrom(5, 0, 1, 2), 6, codeMissing)
}

// TestP17FreeFrom has times that are found by hand.
func TestP17FreeFrom(t *testing.T) {
	bays := equalBays(3, 5)
	list, places := castingsFrom(5, 100, 195, 1000, 0, 300, 1000000), []int64{0, 0, 0, 1, 0, 0}
	for _, c := range []struct{ bay, t, want int64 }{
		// before a casting, at its start, in it, just before its end and at its end
		{0, 0, 0}, {0, 99, 99}, {0, 100, 290}, {0, 150, 290}, {0, 194, 290},
		// the second one begins when the first one is taken out
		{0, 195, 290}, {0, 196, 290}, {0, 289, 290}, {0, 290, 290}, {0, 299, 299}, {0, 300, 395}, {0, 394, 395}, {0, 395, 395}, {0, 999, 999}, {0, 1000, 1095}, {0, 1094, 1095}, {0, 1095, 1095}, {0, 999999, 999999}, {0, 1000000, 1000095},
		{1, 0, 95}, {1, 1, 95}, {1, 94, 95}, {1, 95, 95}, {1, 96, 96}, {1, 100, 100}, {1, 1000000, 1000000}, {2, 0, 0}, {2, 100, 100}, {2, 1000000, 1000000},
	} {
		got, code := impl.FreeFrom(bays, list, places, c.bay, c.t)
		checkNumber(t, fmt.Sprintf("FreeFrom the bay %d at %d", c.bay, c.t), got, code, c.want, codeOK)
	}
	// Castings that follow one another at once, in all orders of the list.
	times := []int64{0, 95, 190, 285}
	for _, order := range [][]int{{0, 1, 2, 3}, {3, 2, 1, 0}, {1, 3, 0, 2}, {2, 0, 3, 1}, {0, 2, 1, 3}, {3, 0, 1, 2}, {1, 0, 3, 2}} {
		var turned []int64
		for _, i := range order {
			turned = append(turned, times[i])
		}
		for _, from := range []int64{0, 1, 94, 95, 189, 190, 284, 285, 379, 380, 381} {
			got, code := impl.FreeFrom(bays, castingsFrom(5, turned...), make([]int64, 4), 0, from)
			checkNumber(t, fmt.Sprintf("FreeFrom %d of castings from %v", from, turned), got, code, max(from, 380), codeOK)
			got, code = impl.FreeFrom(bays, castingsFrom(5, turned...), make([]int64, 4), 1, from)
			checkNumber(t, fmt.Sprintf("FreeFrom %d of castings from %v in another bay", from, turned), got, code, from, codeOK)
		}
	}
	// A chain of twelve castings from the last time at which one can be cast on.
	got, code := impl.FreeFrom(bays, []impl.Casting{castWith("c", 5, 5, maxThick, maxCooling)}, []int64{2}, 2, maxCooling)
	checkNumber(t, "FreeFrom after MaxCooling", got, code, maxCooling+timeModel(temperaturesModel(maxThick), stripTemp), codeOK)
	got, code = impl.FreeFrom(bays, castingsOfLengths(thinStay, slices.Repeat([]int64{5}, 12)...), make([]int64, 12), 0, 0)
	checkNumber(t, "FreeFrom of twelve castings", got, code, 12*thinStay, codeOK)
	got, code = impl.FreeFrom(bays, nil, nil, 0, 7)
	checkNumber(t, "FreeFrom of no castings", got, code, 7, codeOK)
}

// TestP17ManyFree holds FreeFrom against the model at all times around castings, and no casting may be in the bay then.
func TestP17ManyFree(t *testing.T) {
	random := rand.New(rand.NewSource(163))
	waited := 0
	for range 400 {
		bays, list := randomCooling(random)
		places, code := impl.FirstBays(bays, list, maxBudget)
		if code != codeOK {
			continue
		}
		times := []int64{0, 1, maxCooling}
		for _, c := range list {
			times = append(times, c.From, c.From+1, max(0, c.From-1), c.From+stayModel(c)-1, c.From+stayModel(c), c.From+stayModel(c)+1)
		}
		for bay := range int64(len(bays)) {
			for _, from := range times {
				got, code := impl.FreeFrom(bays, list, places, bay, from)
				want := freeModel(list, places, bay, from)
				checkNumber(t, fmt.Sprintf("FreeFrom(%v, %v, %v, %d, %d)", bays, list, places, bay, from), got, code, want, codeOK)
				if want > from {
					waited++
				}
			}
		}
	}
	if waited < 500 {
		t.Errorf("only %d times a bay is not free", waited)
	}
}

// TestP17FreeErrors: ErrInvalid comes before ErrState, and this before ErrRange.
func TestP17FreeErrors(t *testing.T) {
	check := func(bays []impl.Bay, list []impl.Casting, places []int64, bay, time, want int64) {
		t.Helper()
		got, code := impl.FreeFrom(bays, list, places, bay, time)
		checkNumber(t, fmt.Sprintf("FreeFrom(%v, %v, %v, %d, %d)", bays, list, places, bay, time), got, code, 0, want)
	}
	bays, list, noBays := equalBays(2, 5), castingsFrom(5, 0, 94), []int64{math.MinInt64, -2, -1, 2, 3, 8, 256, 1 << 32, math.MaxInt64}
	good := []int64{0, 1}
	wrong := [][]int64{nil, {}, {0}, {0, 0}, {1, 1}, {0, 1, 0}, {-1, 1}, {0, 2}, {2, 0}, {0, math.MaxInt64}, {math.MinInt64, 0}}
	for i, some := range badBays() {
		for _, time := range []int64{0, -1, maxCooling + 1} {
			for _, bay := range []int64{0, -1, noBays[i%len(noBays)]} {
				check(some, list, good, bay, time, codeInvalid)
				check(some, list, wrong[i%len(wrong)], bay, time, codeInvalid)
				check(some, nil, nil, bay, time, codeInvalid)
			}
		}
	}
	for i, some := range badCastings() {
		for _, time := range []int64{0, -1, maxCooling + 1} {
			for _, bay := range []int64{0, -1, noBays[i%len(noBays)]} {
				check(bays, some, good, bay, time, codeInvalid)
				check(bays, some, make([]int64, len(some)), bay, time, codeInvalid)
				check(nil, some, nil, bay, time, codeInvalid)
			}
		}
	}
	for _, places := range wrong {
		for _, bay := range append([]int64{0, 1}, noBays...) {
			for _, time := range append([]int64{0, 94, maxCooling}, noTimes...) {
				check(bays, list, places, bay, time, codeState)
			}
		}
	}
	check(nil, list, good, 0, 0, codeState)
	check(bays, castingsFrom(6, 0, 1000), good, 0, 0, codeState)
	for _, bay := range noBays {
		for _, time := range append([]int64{0, 94, maxCooling}, noTimes...) {
			check(bays, list, good, bay, time, codeRange)
			check(bays, nil, nil, bay, time, codeRange)
		}
	}
	for _, time := range noTimes {
		check(bays, list, good, 0, time, codeRange)
		check(bays, list, good, 1, time, codeRange)
		check(bays, nil, nil, 0, time, codeRange)
	}
	check(nil, nil, nil, 0, 0, codeRange)
}

var castingTexts = []string{"c4 100,200,2000,60", "a 1,1,1,0", "abcdefghij 300000,300000,30000,1000000", "z9 300000,1,1,1000000", "d4 1,300000,30000,0", "i0 12345,54321,999,100"}

func TestP17CastingTexts(t *testing.T) {
	for _, text := range castingTexts {
		c, ok := impl.ReadCasting(text)
		if got := impl.CastingText(c); got != text || !ok {
			t.Errorf("ReadCasting(%q): got %v %v, with the text %q", text, c, ok, got)
		}
	}
	castings := slices.Concat(slices.Concat(goodCastings()...), badCasting())
	random := rand.New(rand.NewSource(164))
	for range 300 {
		castings = append(castings, castWith(fmt.Sprintf("c%d", random.Intn(1000)), random.Int63n(bayLength+2), random.Int63n(bayLength+2), random.Int63n(maxThick+2), random.Int63n(maxCooling+2)))
	}
	for _, c := range castings {
		text, want := impl.CastingText(c), ""
		if isCasting(c) {
			want = fmt.Sprintf("%s %d,%d,%d,%d", c.Bell, c.Radius, c.Depth, c.Thick, c.From)
		}
		if text != want {
			t.Errorf("CastingText(%v): got %q, want %q", c, text, want)
		}
		if got, ok := impl.ReadCasting(text); ok != isCasting(c) || ok && got != c || !ok && got != (impl.Casting{}) {
			t.Errorf("ReadCasting(%q): got %v %v, want %v", text, got, ok, c)
		}
	}
}

func TestP17ReadCasting(t *testing.T) {
	bad := []string{
		// missing, superfluous and empty parts
		"c4", "c4 ", "c4 -", "c4 100", "c4 100,200", "c4 100,200,2000", "c4 100,200,2000,", "c4 ,200,2000,60", "c4 100,,2000,60", "c4 100,200,,60", "c4 ,,,", "c4 100,200,2000,60,", "c4 ,100,200,2000,60", "c4 100,200,2000,60,0", "c4 100,200,2000,60,60", "100,200,2000,60", " 100,200,2000,60", "c4,100,200,2000,60", "c4 100 200 2000 60", "c4 100,200 2000,60", "c4 c4 100,200,2000,60", "c4 d4 100,200,2000,60", "c4 100,200,2000,60 c4", "c4 100,200,2000,60 100,200,2000,60",
		// blanks and other separators
		" c4 100,200,2000,60", "c4  100,200,2000,60", "c4 100,200,2000,60 ", "c4 100, 200,2000,60", "c4 100 ,200,2000,60", "c4\t100,200,2000,60", "c4 100,200,2000,60\n", "\nc4 100,200,2000,60", "c4\u00a0100,200,2000,60", "c4 100;200;2000;60", "c4 100/200/2000/60", "c4 100x200,2000,60", "c4 100,,200,2000,60", "c4 100.200.2000.60", "c4 100,200,2000,60\x00", "c4 100，200，2000，60", "c4:100,200,2000,60",
		// leading zeros and signs
		"c4 0100,200,2000,60", "c4 100,0200,2000,60", "c4 100,200,02000,60", "c4 100,200,2000,060", "c4 100,200,2000,00", "c4 100,200,2000,-0", "c4 +100,200,2000,60", "c4 100,+200,2000,60", "c4 100,200,2000,+60", "c4 -100,200,2000,60", "c4 100,200,2000,-60", "c4 100,200,2000,--60", "c4 0x64,200,2000,60", "c4 1e2,200,2000,60", "c4 1_00,200,2000,60", "c4 100.0,200,2000,60", "c4 100,200,2000,6O", "c4 ١00,200,2000,60", "c4 a,b,c,d",
		// names that are none
		"C4 100,200,2000,60", "4 100,200,2000,60", "4c 100,200,2000,60", "abcdefghijk 100,200,2000,60", "c-4 100,200,2000,60", "c.4 100,200,2000,60", "é 100,200,2000,60", "\xff 100,200,2000,60", "- 100,200,2000,60", "c#4 100,200,2000,60",
		// castings that are not valid
		"c4 0,200,2000,60", "c4 100,0,2000,60", "c4 100,200,0,60", "c4 100,200,2000,-1", "c4 300001,200,2000,60", "c4 100,300001,2000,60", "c4 100,200,30001,60", "c4 100,200,2000,1000001", "c4 0,0,0,0", "c4 -1,200,2000,60", "c4 100,-1,2000,60", "c4 100,200,-1,60", "c4 1000000000000,200,2000,60", "c4 1000000000001,200,2000,60", "c4 4294967297,200,2000,60", "c4 100,200,2000,4294967296", "c4 18446744073709551716,200,2000,60", "c4 9223372036854775807,200,2000,60", "c4 100,200,2000,-9223372036854775808",
		strings.Repeat(" ", 1000), strings.Repeat("c4 ", 1000), "c4 " + strings.Repeat("100,", 64) + "60", "c4 " + strings.Repeat(",", 1000), "c4 " + strings.Repeat("9", 1000) + ",200,2000,60", strings.Repeat("c", 1000) + " 100,200,2000,60",
	}
	for _, s := range slices.Concat(bad, edgeTexts, pointedTexts, temperamentTexts, soundTexts, profileTexts, modelTexts, cutsTexts, goalTexts, measureTexts, spotsTexts, meltTexts, holeTexts) {
		if got, ok := impl.ReadCasting(s); got != (impl.Casting{}) || ok {
			t.Errorf("ReadCasting(%q): got %v %v, want none", s, got, ok)
		}
	}
}

// TestP17DamagedCastingsAreNotRead: a text that is damaged is that of the casting that is read, or of none.
func TestP17DamagedCastingsAreNotRead(t *testing.T) {
	for _, s := range damagedTexts(castingTexts, " 012369,-+aA") {
		got, ok := impl.ReadCasting(s)
		if ok && (impl.CastingText(got) != s || !isCasting(got)) || !ok && got != (impl.Casting{}) {
			t.Errorf("ReadCasting(%q): got %v %v", s, got, ok)
		}
	}
}

// coolingResults has the results of all functions of the chapter for valid and invalid arguments, as texts.
func coolingResults() []string {
	var all []string
	add := func(results ...any) { all = append(all, fmt.Sprint(results...)) }
	numbers := slices.Concat(edgeNumbers, []int64{19, 20, 21, 50, 150, 585, 1149, 1150, 1151, 2000, maxThick, maxThick + 1, maxCooling})
	for i, thick := range numbers {
		add(impl.HalfTime(thick))
		for k := range 7 {
			add(impl.TemperatureAt(thick, numbers[(i*3+k)%len(numbers)]))
			add(impl.TemperatureAt(2000, numbers[(i*3+k)%len(numbers)]))
			add(impl.TimeTo(thick, numbers[(i*5+k)%len(numbers)]))
			add(impl.TimeTo(2000, numbers[(i*5+k)%len(numbers)]))
		}
	}
	budgets := append(slices.Clone(noBudgets), 1, 2, 3, 20, 300)
	use := func(i int, bays []impl.Bay, list []impl.Casting) {
		add(impl.ValidBays(bays), impl.ValidCastings(list))
		for k := range 3 {
			budget, places := budgets[(i*5+k)%len(budgets)], make([]int64, (i+k)%4)
			for which := range baySearchNames {
				add(searchBays(which, bays, list, budget))
			}
			found, _ := impl.FirstBays(bays, list, 300)
			for _, some := range [][]int64{places, found} {
				add(impl.CheckBays(bays, list, some))
				add(impl.FreeFrom(bays, list, some, int64(k), numbers[(i+k)%len(numbers)]))
				add(impl.FreeFrom(bays, list, some, numbers[(i+k)%len(numbers)], 95))
				add(impl.FreeFrom(bays, list, some, int64(k), int64(i)))
			}
		}
		for _, c := range list {
			add(impl.StripTime(c))
			add(impl.CastingText(c))
			for _, p := range bays {
				add(impl.FitsBay(p, c))
			}
		}
	}
	bays, lists := slices.Concat(goodBays(), badBays()), slices.Concat(goodCastings(), badCastings())
	for i, some := range bays {
		use(i, some, lists[i*7%len(lists)])
		use(i, some, goodCastings()[i%len(goodCastings())])
	}
	for i, list := range lists {
		use(i, goodBays()[i%len(goodBays())], list)
	}
	random := rand.New(rand.NewSource(165))
	for i := range 100 {
		bays, list := randomCooling(random)
		use(i, bays, list)
	}
	for which := range baySearchNames {
		add(searchBays(which, risingBays(8), fittingCastings(8, 8, 8, 8, 8, 8, 8), 2000))
	}
	for _, s := range slices.Concat(castingTexts, edgeTexts, pointedTexts) {
		add(impl.ReadCasting(s))
	}
	return all
}

// TestP1CoolingReturns: every function of chapter 16 returns for all arguments, and the same again, also at the same time.
func TestP1CoolingReturns(t *testing.T) { checkReturns(t, coolingResults) }

// TestP1CoolingManyTimes makes one search many times, with places that are found, that are not there, and with a budget that is spent.
func TestP1CoolingManyTimes(t *testing.T) {
	bays, list := []impl.Bay{bayWith("l", 9, 9), bayWith("s", 5, 5)}, []impl.Casting{castWith("a", 5, 5, 1, 0), castWith("b", 5, 5, 1, 95), castWith("c", 9, 9, 1, 50)}
	atTheSameTime(func() {
		for range 200 {
			for _, budget := range []int64{6, 7, 10, 11} {
				places, code := impl.FirstBays(bays, list, budget)
				if (code == codeOK) != (budget >= 7) || code == codeOK && !slices.Equal(places, []int64{1, 1, 0}) {
					t.Errorf("FirstBays with the budget %d: got %v %d", budget, places, code)
				}
				places, used, code := impl.FewestBays(bays, list, budget)
				if (code == codeOK) != (budget >= 11) || code == codeOK && (!slices.Equal(places, []int64{1, 1, 0}) || used != 2) {
					t.Errorf("FewestBays with the budget %d: got %v %d %d", budget, places, used, code)
				}
			}
			if _, code := impl.FirstBays(bays, castingsFrom(5, 0, 0, 0), 4); code != codeMissing {
				t.Errorf("FirstBays of too many castings: got %d", code)
			}
		}
	})
}

// roomyCooling returns bays, castings and places that are parts of longer lists.
func roomyCooling() ([]impl.Bay, []impl.Casting, []int64) {
	bays := append(slices.Grow([]impl.Bay(nil), 9), bayWith("p", 100, 200), bayWith("q", 500, 500), bayWith("r", 500, 500), bayWith("R", 1, 1), bayWith("a", 7, 7))
	list := append(slices.Grow([]impl.Casting(nil), 9), castWith("c4", 100, 200, 2000, 218), castWith("d4", 100, 200, 2000, 60), castWith("e4", 100, 200, 1, 0), castWith("E", 1, 1, 1, 1), castWith("a", 7, 7, 7, 7))
	places := append(slices.Grow([]int64(nil), 9), 0, 0, 1, 99, -1)
	return bays[:3], list[:3], places[:3]
}

// TestP1CoolingKeepsItsArguments: neither bays, castings nor places, nor the capacity behind them, are modified.
func TestP1CoolingKeepsItsArguments(t *testing.T) {
	bays, list, places := roomyCooling()
	wantBays, wantList, wantPlaces := slices.Clone(bays[:9]), slices.Clone(list[:9]), slices.Clone(places[:9])
	for size := range 6 {
		for count := range 6 {
			some, castings := bays[:size], list[:count]
			impl.ValidBays(some)
			impl.ValidCastings(castings)
			for _, budget := range []int64{0, 1, 2, 5, maxBudget} {
				for which := range baySearchNames {
					searchBays(which, some, castings, budget)
				}
			}
			for end := range 6 {
				impl.CheckBays(some, castings, places[:end])
				for _, time := range []int64{-1, 0, 60, 218, 1000} {
					impl.FreeFrom(some, castings, places[:end], int64(end%3), time)
				}
			}
			if !slices.Equal(bays[:9], wantBays) || !slices.Equal(list[:9], wantList) || !slices.Equal(places[:9], wantPlaces) {
				t.Fatalf("%d bays and %d castings: they are now %v, %v and %v", size, count, bays[:9], list[:9], places[:9])
			}
		}
	}
	if free, code := impl.FreeFrom(bays, list, places, 0, 60); free != 376 || code != codeOK {
		t.Errorf("FreeFrom: got %d %d", free, code)
	}
}

// TestP1PlacesAreNew: places that are overwritten, with the capacity behind them, change neither an argument nor another result, and the other way round.
func TestP1PlacesAreNew(t *testing.T) {
	for which, name := range baySearchNames {
		bays, list, _ := roomyCooling()
		wantBays, wantList := slices.Clone(bays[:9]), slices.Clone(list[:9])
		search := func() []int64 {
			places, _, _ := searchBays(which, bays, list, maxBudget)
			return places
		}
		got, want := search(), slices.Clone(search())
		overwrite(search(), 99)
		if again := search(); !slices.Equal(again, want) || !slices.Equal(got, want) || len(want) != 3 || !slices.Equal(bays[:9], wantBays) || !slices.Equal(list[:9], wantList) {
			t.Errorf("%s: got %v, then %v, and the arguments are now %v and %v", name, want, again, bays[:9], list[:9])
		}
		overwrite(bays, bayWith("mark", 7, 7))
		overwrite(list, castWith("mark", 7, 7, 7, 7))
		if !slices.Equal(got, want) {
			t.Errorf("%s: got %v, which has become %v", name, want, got)
		}
	}
}
