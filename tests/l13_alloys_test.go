package tests

import (
	"fmt"
	"math"
	"math/big"
	"math/rand"
	"slices"
	"strings"
	"testing"

	"loop.example/g00952/impl"
)

// The limits of chapter 13, written out from the document.
const (
	wholeAlloy = 1000000
	maxIngots  = 16
	maxMass    = 20000000
	mostCharge = 320000000 // MaxIngots * MaxMass
)

func alloyWith(copper, tin, other int64) impl.Alloy {
	return impl.Alloy{Copper: copper, Tin: tin, Other: other}
}

// bronze returns the alloy with some tin and something else; the rest is copper.
func bronze(tin, other int64) impl.Alloy { return alloyWith(wholeAlloy-tin-other, tin, other) }

func ingotWith(id string, mass, tin, other int64) impl.Ingot {
	return impl.Ingot{Id: id, Mass: mass, Alloy: bronze(tin, other)}
}

// ingotNamed returns the Id of an ingot of a long list, greater than those before.
func ingotNamed(i int) string { return fmt.Sprintf("i%03d", i) }

// ingotsOf returns ingots of some masses, all of the same bronze.
func ingotsOf(masses ...int64) []impl.Ingot {
	var list []impl.Ingot
	for i, mass := range masses {
		list = append(list, ingotWith(ingotNamed(i), mass, 200000, 10000))
	}
	return list
}

// equalIngots returns some ingots of the same mass.
func equalIngots(count int, mass int64) []impl.Ingot {
	return ingotsOf(slices.Repeat([]int64{mass}, count)...)
}

// doubledIngots returns ingots of which each is twice as heavy as the one before: the choices have all masses up to 65535, each once.
func doubledIngots() []impl.Ingot {
	var masses []int64
	for i := range maxIngots {
		masses = append(masses, 1<<i)
	}
	return ingotsOf(masses...)
}

// bellIngots has ingots of copper, of tin, and of bronze with 20 and 22 parts of a hundred of tin.
func bellIngots() []impl.Ingot {
	return []impl.Ingot{ingotWith("a", 1000, 200000, 0), ingotWith("b", 3000, 220000, 0), ingotWith("c", 2000, 1000000, 0), ingotWith("d", 500, 0, 0)}
}

func demandWith(least, most, minTin, maxTin, other int64) impl.Demand {
	return impl.Demand{Least: least, Most: most, MinTin: minTin, MaxTin: maxTin, Other: other}
}

// demandOf returns the demand for a mass of any alloy.
func demandOf(least, most int64) impl.Demand {
	return demandWith(least, most, 0, wholeAlloy, wholeAlloy)
}

// bellDemand is what some of bellIngots fit.
var bellDemand = demandWith(3000, 4500, 190000, 220000, 0)

// goodAlloys has valid alloys, with each part at its limits.
func goodAlloys() []impl.Alloy {
	return []impl.Alloy{
		alloyWith(wholeAlloy, 0, 0), alloyWith(0, wholeAlloy, 0), alloyWith(0, 0, wholeAlloy), alloyWith(wholeAlloy-1, 1, 0), alloyWith(wholeAlloy-1, 0, 1), alloyWith(1, wholeAlloy-1, 0), alloyWith(0, wholeAlloy-1, 1), alloyWith(1, 0, wholeAlloy-1), alloyWith(0, 1, wholeAlloy-1),
		alloyWith(1, 1, 999998), alloyWith(333333, 333333, 333334), bronze(200000, 0), bronze(220000, 10000), bronze(10000, 0), bronze(500000, 500000),
	}
}

// badAlloys has alloys that are not valid, each for one reason or for several.
func badAlloys() []impl.Alloy {
	bad := []impl.Alloy{
		// sums one below and one above the whole
		{}, alloyWith(wholeAlloy-1, 0, 0), alloyWith(0, wholeAlloy-1, 0), alloyWith(0, 0, wholeAlloy-1), alloyWith(wholeAlloy, 1, 0), alloyWith(wholeAlloy, 0, 1), alloyWith(1, wholeAlloy, 0), alloyWith(0, wholeAlloy, 1), alloyWith(1, 0, wholeAlloy), alloyWith(0, 1, wholeAlloy), alloyWith(780000, 220000, 1), alloyWith(780000, 219999, 0), alloyWith(500000, 250000, 250001), alloyWith(500000, 250000, 249999), alloyWith(wholeAlloy, wholeAlloy, wholeAlloy), alloyWith(1, 1, 1),
		// sums that are the whole, or would be without a limit of int64, of parts that are none
		alloyWith(math.MaxInt64, math.MaxInt64, wholeAlloy+2), alloyWith(math.MinInt64, math.MinInt64, wholeAlloy), alloyWith(math.MinInt64, math.MaxInt64, wholeAlloy+1), alloyWith(wholeAlloy+2, math.MaxInt64, math.MaxInt64), alloyWith(math.MaxInt64, wholeAlloy+2, math.MaxInt64), alloyWith(-1, -1, wholeAlloy+2), alloyWith(2*wholeAlloy, 0, -wholeAlloy),
	}
	for _, part := range []int64{math.MinInt64, math.MinInt64 + 1, -wholeAlloy, -1, wholeAlloy + 1, wholeAlloy + 2, 1 << 32, math.MaxInt64 - 1, math.MaxInt64} {
		for _, rest := range []int64{0, 1, wholeAlloy, wholeAlloy - part} {
			bad = append(bad, alloyWith(part, rest, 0), alloyWith(rest, part, 0), alloyWith(0, rest, part), alloyWith(part, 0, rest), alloyWith(0, part, rest), alloyWith(rest, 0, part))
		}
	}
	return bad
}

func isAlloy(a impl.Alloy) bool {
	sum := new(big.Int)
	for _, part := range []int64{a.Copper, a.Tin, a.Other} {
		if part < 0 {
			return false
		}
		sum.Add(sum, big.NewInt(part))
	}
	return sum.Cmp(big.NewInt(wholeAlloy)) == 0
}

// goodIngots has valid lists of ingots: none, with each number at its limits, and as many as possible.
func goodIngots() [][]impl.Ingot {
	lists := [][]impl.Ingot{
		nil, {}, bellIngots(), bellIngots()[:1], bellIngots()[1:3], ingotsOf(1), ingotsOf(maxMass), ingotsOf(1, maxMass, 1), equalIngots(15, 3), equalIngots(16, 1), equalIngots(16, maxMass), doubledIngots(),
		{ingotWith("a", 1, 0, 0), ingotWith("a0", 2, 0, 0), ingotWith("aa", 3, 0, 0), ingotWith("abcdefghij", 4, 0, 0), ingotWith("b", 5, 0, 0), ingotWith("z999999999", 6, 0, 0), ingotWith("zzzzzzzzzz", 7, 0, 0)},
	}
	for i, a := range goodAlloys() {
		lists = append(lists, []impl.Ingot{{Id: "a", Mass: 1 + int64(i), Alloy: a}, {Id: "b", Mass: maxMass - int64(i), Alloy: goodAlloys()[i*7%len(goodAlloys())]}})
	}
	return lists
}

// badIngots has lists that are not valid, each for one reason or for several.
func badIngots() [][]impl.Ingot {
	lists := [][]impl.Ingot{
		{{}}, equalIngots(17, 1), equalIngots(18, maxMass), equalIngots(1000, 1), make([]impl.Ingot, 16), append(equalIngots(15, 1), impl.Ingot{}),
		// Ids that are equal or falling, beside one another and at the ends
		{ingotWith("a", 1, 0, 0), ingotWith("a", 1, 0, 0)}, {ingotWith("a", 1, 0, 0), ingotWith("a", 2, 1, 0)}, {ingotWith("b", 1, 0, 0), ingotWith("a", 1, 0, 0)}, {ingotWith("a", 1, 0, 0), ingotWith("b", 1, 0, 0), ingotWith("b", 1, 0, 0)}, {ingotWith("a", 1, 0, 0), ingotWith("c", 1, 0, 0), ingotWith("b", 1, 0, 0)}, {ingotWith("a", 1, 0, 0), ingotWith("b", 1, 0, 0), ingotWith("a", 1, 0, 0)},
		{ingotWith("aa", 1, 0, 0), ingotWith("a", 1, 0, 0)}, {ingotWith("aa", 1, 0, 0), ingotWith("a9", 1, 0, 0)}, {ingotWith("i2", 1, 0, 0), ingotWith("i10", 1, 0, 0)}, append(equalIngots(15, 1), ingotWith("i", 1, 0, 0)), append(equalIngots(15, 1), ingotWith("i014", 1, 0, 0)),
	}
	among := func(x impl.Ingot) {
		lists = append(lists, []impl.Ingot{x}, []impl.Ingot{x, ingotWith("zz", 1, 0, 0)}, append(bellIngots(), x), append(equalIngots(15, 1), x))
	}
	for _, id := range noNames {
		among(ingotWith(id, 1, 0, 0))
	}
	for _, mass := range []int64{math.MinInt64, math.MinInt64 + 1, -1, 0, maxMass + 1, maxMass + 2, 1 << 32, 1<<32 + 1, math.MaxInt64 - 1, math.MaxInt64} {
		among(ingotWith("z", mass, 200000, 0))
	}
	for _, a := range badAlloys() {
		among(impl.Ingot{Id: "z", Mass: 1, Alloy: a})
	}
	return lists
}

func isIngot(x impl.Ingot) bool {
	return impl.IsName(x.Id) && x.Mass >= 1 && x.Mass <= maxMass && isAlloy(x.Alloy)
}

func areIngots(list []impl.Ingot) bool {
	var ids []string
	for _, x := range list {
		if !isIngot(x) {
			return false
		}
		ids = append(ids, x.Id)
	}
	return len(list) <= maxIngots && slices.IsSorted(ids) && len(slices.Compact(ids)) == len(list)
}

// goodDemands has valid demands, with each number at its limits.
func goodDemands() []impl.Demand {
	return []impl.Demand{
		bellDemand, demandOf(1, 1), demandOf(1, mostCharge), demandOf(mostCharge, mostCharge), demandOf(mostCharge-1, mostCharge), demandOf(3000, 3000), demandOf(2999, 3000), demandOf(20000, 20000), demandOf(65535, 65535),
		demandWith(1, 5000, 0, 0, 0), demandWith(1, 5000, wholeAlloy, wholeAlloy, 0), demandWith(1, 5000, 0, wholeAlloy, 0), demandWith(1, 5000, 200000, 200000, 10000), demandWith(1, 5000, 199999, 200000, 9999), demandWith(1, 5000, 0, 1, wholeAlloy-1), demandWith(1, 5000, wholeAlloy-1, wholeAlloy, wholeAlloy),
	}
}

// badDemands has demands that are not valid, each for one reason or for several.
func badDemands() []impl.Demand {
	bad := []impl.Demand{
		{}, demandOf(3001, 3000), demandOf(2, 1), demandOf(0, 0), demandOf(0, 3000), demandOf(-1, 3000), demandOf(mostCharge+1, mostCharge), demandOf(mostCharge+1, mostCharge+1), demandOf(1, mostCharge+1), demandOf(-2, -1), demandOf(1, 0), demandOf(1, -1),
		demandWith(1, 3000, 200001, 200000, 0), demandWith(1, 3000, 1, 0, 0), demandWith(1, 3000, wholeAlloy+1, wholeAlloy, 0), demandWith(1, 3000, wholeAlloy+1, wholeAlloy+1, 0), demandWith(1, 3000, 0, wholeAlloy+1, 0), demandWith(1, 3000, -1, 200000, 0), demandWith(1, 3000, -2, -1, 0), demandWith(1, 3000, 0, -1, 0), demandWith(1, 3000, 0, 200000, -1), demandWith(1, 3000, 0, 200000, wholeAlloy+1),
	}
	for _, n := range []int64{math.MinInt64, math.MinInt64 + 1, -mostCharge, mostCharge + 1, 1 << 32, 1<<32 + 1, math.MaxInt64 - 1, math.MaxInt64} {
		bad = append(bad, demandOf(n, 3000), demandOf(1, n), demandOf(n, n), demandWith(1, 3000, n, 200000, 0), demandWith(1, 3000, 0, n, 0), demandWith(1, 3000, n, n, 0), demandWith(1, 3000, 0, 200000, n))
	}
	return bad
}

func isDemand(d impl.Demand) bool {
	return d.Least >= 1 && d.Least <= d.Most && d.Most <= mostCharge && d.MinTin >= 0 && d.MinTin <= d.MaxTin && d.MaxTin <= wholeAlloy && d.Other >= 0 && d.Other <= wholeAlloy
}

// noChoices has lists of numbers that are no choices of any ingots.
var noChoices = [][]int64{
	// equal and falling indices
	{0, 0}, {1, 1}, {0, 1, 1}, {0, 0, 1}, {1, 0}, {0, 2, 1}, {2, 1, 0}, {0, 1, 0}, {15, 15}, {15, 14}, slices.Repeat([]int64{0}, 17),
	// negative ones, and ones past the end, or at it for the lowest bits only
	{-1}, {-2}, {-16}, {-64}, {-1, 0}, {0, -1}, {0, 1, -1}, {math.MinInt64}, {math.MinInt64, 0}, {math.MinInt64 + 1}, {16}, {17}, {0, 16}, {63}, {64}, {65}, {0, 64}, {256}, {257}, {65536}, {1 << 32}, {0, 1<<32 + 1}, {math.MaxInt64}, {math.MaxInt64 - 1}, {0, math.MaxInt64}, {math.MinInt64, math.MaxInt64},
	{0, 1, 2, 3, 4, 5, 6, 7, 8, 9, 10, 11, 12, 13, 14, 15, 16}, make([]int64, 1000),
}

// upTo returns the numbers from 0 to count - 1.
func upTo(count int) []int64 {
	list := make([]int64, count)
	for i := range list {
		list[i] = int64(i)
	}
	return list
}

// isChoice reports whether numbers are among the indices of a list, each once and in their order.
func isChoice(list []impl.Ingot, chosen []int64) bool {
	sorted := slices.Compact(slices.Sorted(slices.Values(chosen)))
	for _, index := range chosen {
		if !slices.Contains(upTo(len(list)), index) {
			return false
		}
	}
	return slices.Equal(sorted, chosen)
}

// allChoices returns all choices of some ingots.
func allChoices(count int) [][]int64 {
	var choices [][]int64
	for set := range 1 << count {
		var chosen []int64
		for i := range count {
			if set>>i%2 == 1 {
				chosen = append(chosen, int64(i))
			}
		}
		choices = append(choices, chosen)
	}
	return choices
}

// chargeMass returns the mass of a choice.
func chargeMass(list []impl.Ingot, chosen []int64) int64 {
	mass := int64(0)
	for _, index := range chosen {
		mass += list[index].Mass
	}
	return mass
}

// partModel returns the sum of the mass of each ingot of a choice times a part of its alloy.
func partModel(list []impl.Ingot, chosen []int64, part func(impl.Alloy) int64) *big.Int {
	sum := new(big.Int)
	for _, index := range chosen {
		sum.Add(sum, productOf(list[index].Mass, part(list[index].Alloy)))
	}
	return sum
}

func tinPart(a impl.Alloy) int64 { return a.Tin }

func otherPart(a impl.Alloy) int64 { return a.Other }

// mixModel returns the alloy of a choice that is not empty: all but copper is rounded down.
func mixModel(list []impl.Ingot, chosen []int64) impl.Alloy {
	mass := big.NewInt(chargeMass(list, chosen))
	tin, other := partModel(list, chosen, tinPart), partModel(list, chosen, otherPart)
	return bronze(tin.Div(tin, mass).Int64(), other.Div(other, mass).Int64())
}

// fitsModel reports whether a choice is what is asked for.
func fitsModel(list []impl.Ingot, chosen []int64, d impl.Demand) bool {
	mass := chargeMass(list, chosen)
	tin, other := partModel(list, chosen, tinPart), partModel(list, chosen, otherPart)
	return mass >= d.Least && mass <= d.Most && tin.Cmp(productOf(d.MinTin, mass)) >= 0 && tin.Cmp(productOf(d.MaxTin, mass)) <= 0 && other.Cmp(productOf(d.Other, mass)) <= 0
}

// The searches, by their places in lists of three.
const (
	firstCharge = iota
	leastCharge
	countCharges
)

var chargeNames = []string{"FirstCharge", "LeastCharge", "CountCharges"}

// searchIngots makes one of the searches.
func searchIngots(which int, list []impl.Ingot, d impl.Demand, budget int64) ([]int64, int64, int64) {
	switch which {
	case firstCharge:
		chosen, code := impl.FirstCharge(list, d, budget)
		return chosen, 0, code
	case leastCharge:
		chosen, code := impl.LeastCharge(list, d, budget)
		return chosen, 0, code
	}
	count, code := impl.CountCharges(list, d, budget)
	return nil, count, code
}

// charge is what a search must return, and how many nodes it visits.
type charge struct {
	chosen []int64
	count  int64
	code   int64
	nodes  int
}

// chargeModel returns what the three searches must return: the nodes are the choices that are not too heavy, each behind its beginnings.
func chargeModel(list []impl.Ingot, d impl.Demand) []charge {
	nodes := slices.DeleteFunc(allChoices(len(list)), func(chosen []int64) bool { return chargeMass(list, chosen) > d.Most })
	slices.SortFunc(nodes, slices.Compare)
	found := []charge{{code: codeMissing, nodes: len(nodes)}, {code: codeMissing, nodes: len(nodes)}, {nodes: len(nodes)}}
	for i, chosen := range nodes {
		if !fitsModel(list, chosen, d) {
			continue
		}
		if found[countCharges].count == 0 {
			found[firstCharge] = charge{chosen, 0, codeOK, i + 1}
			found[leastCharge] = charge{chosen, 0, codeOK, len(nodes)}
		}
		if chargeMass(list, chosen) < chargeMass(list, found[leastCharge].chosen) {
			found[leastCharge].chosen = chosen
		}
		found[countCharges].count++
	}
	return found
}

// checkCharge holds a search against what it must return, with budgets around the number of its nodes, and with numbers that are no budgets.
func checkCharge(t *testing.T, which int, list []impl.Ingot, d impl.Demand, want charge) {
	t.Helper()
	for _, budget := range append(slices.Clone(noBudgets), 1, int64(want.nodes)-1, int64(want.nodes), int64(want.nodes)+1, maxBudget-1, maxBudget) {
		wanted := want
		if budget < 1 || budget > maxBudget {
			wanted = charge{code: codeRange}
		} else if budget < int64(want.nodes) {
			wanted = charge{code: codeFull}
		}
		chosen, count, code := searchIngots(which, list, d, budget)
		if !slices.Equal(chosen, wanted.chosen) || count != wanted.count || code != wanted.code {
			t.Errorf("%s(%v, %v, %d): got %v %d %d, want %v %d %d", chargeNames[which], list, d, budget, chosen, count, code, wanted.chosen, wanted.count, wanted.code)
		}
	}
}

// checkCharges holds all searches against what they must return.
func checkCharges(t *testing.T, list []impl.Ingot, d impl.Demand, want []charge) {
	t.Helper()
	for which, c := range want {
		checkCharge(t, which, list, d, c)
	}
}

// randomIngots returns ingots of which several often have the same mass.
func randomIngots(random *rand.Rand) []impl.Ingot {
	var list []impl.Ingot
	most := []int64{3, 20, 1000, maxMass}[random.Intn(4)]
	for i := range random.Intn(9) {
		tin := random.Int63n(wholeAlloy + 1)
		if random.Intn(2) == 0 {
			tin = 200000 + random.Int63n(3)*10000
		}
		list = append(list, ingotWith(ingotNamed(i), 1+random.Int63n(most), tin, random.Int63n(min(wholeAlloy-tin, 20000)+1)))
	}
	return list
}

// randomDemand returns a demand with bounds near to what a choice of some ingots is.
func randomDemand(random *rand.Rand, list []impl.Ingot) impl.Demand {
	chosen := allChoices(len(list))[random.Intn(1<<len(list))]
	mass, mix := max(1, chargeMass(list, chosen)), bronze(0, 0)
	if len(chosen) > 0 {
		mix = mixModel(list, chosen)
	}
	d := demandOf(mass-random.Int63n(mass), mass)
	if random.Intn(3) == 0 {
		d.Least = mass
	}
	if random.Intn(2) == 0 {
		d.Most = min(mostCharge, mass+random.Int63n(mass))
	}
	d.MinTin, d.MaxTin = max(0, mix.Tin-random.Int63n(20000)), min(wholeAlloy, mix.Tin+random.Int63n(20000))
	if random.Intn(3) == 0 {
		d.MinTin, d.MaxTin = mix.Tin, mix.Tin
	}
	d.Other = min(wholeAlloy, mix.Other+random.Int63n(2))
	if random.Intn(2) == 0 {
		d.Other = wholeAlloy
	}
	return d
}

// manyMixtures calls use with ingots and demands of all kinds.
func manyMixtures(seed int64, count int, use func(list []impl.Ingot, d impl.Demand)) {
	random := rand.New(rand.NewSource(seed))
	for range count {
		list := randomIngots(random)
		use(list, randomDemand(random, list))
	}
	for _, list := range goodIngots() {
		if len(list) > 8 {
			list = list[:8]
		}
		for _, d := range goodDemands() {
			use(list, d)
		}
		use(list, randomDemand(random, list))
	}
}

func TestP14Constants(t *testing.T) {
	got := []int64{impl.WholeAlloy, impl.MaxIngots, impl.MaxMass}
	if want := []int64{1000000, 16, 20000000}; !slices.Equal(got, want) {
		t.Errorf("constants: got %v, want %v", got, want)
	}
}

// TestP14Example is the example of the chapter: an ingot of 1000 grams with a tin of 200000 has 200 grams of tin.
func TestP14Example(t *testing.T) {
	for _, other := range []int64{0, 1, 10000, 800000} {
		got, code := impl.TinOf(ingotWith("a", 1000, 200000, other))
		checkNumber(t, fmt.Sprintf("TinOf with %d of something else", other), got, code, 200, codeOK)
	}
}

func TestP14ValidAlloy(t *testing.T) {
	for _, a := range goodAlloys() {
		if !impl.ValidAlloy(a) || !isAlloy(a) {
			t.Errorf("ValidAlloy(%v): got false", a)
		}
	}
	for _, a := range badAlloys() {
		if impl.ValidAlloy(a) || isAlloy(a) {
			t.Errorf("ValidAlloy(%v): got true", a)
		}
	}
	numbers := append(slices.Clone(edgeNumbers), wholeAlloy-2, wholeAlloy-1, wholeAlloy, wholeAlloy+2, 500000, 250000, math.MaxInt64/2)
	for _, copper := range numbers {
		for _, tin := range numbers {
			for _, other := range numbers {
				a := alloyWith(copper, tin, other)
				if got := impl.ValidAlloy(a); got != isAlloy(a) {
					t.Errorf("ValidAlloy(%v): got %v", a, got)
				}
			}
		}
	}
}

// checkNamePairs holds a function that reports whether two texts are names in increasing order against what it must report.
func checkNamePairs(t *testing.T, what string, valid func(before, after string) bool) {
	t.Helper()
	names := append([]string{"a", "a0", "a9", "aa", "ab", "b", "b0", "abcdefghij", "z"}, noNames...)
	for _, before := range names {
		for _, after := range names {
			want := impl.IsName(before) && impl.IsName(after) && strings.Compare(before, after) < 0
			if got := valid(before, after); got != want {
				t.Errorf("%s of %q and %q: got %v", what, before, after, got)
			}
		}
	}
}

func TestP14ValidIngots(t *testing.T) {
	for _, list := range goodIngots() {
		if !impl.ValidIngots(list) || !areIngots(list) {
			t.Errorf("ValidIngots(%v): got false", list)
		}
	}
	for _, list := range badIngots() {
		if impl.ValidIngots(list) || areIngots(list) {
			t.Errorf("ValidIngots(%v): got true", list)
		}
	}
	for count := range 100 {
		if got := impl.ValidIngots(equalIngots(count, 5)); got != (count <= 16) {
			t.Errorf("ValidIngots of %d ingots: got %v", count, got)
		}
	}
	for _, mass := range append(slices.Clone(edgeNumbers), maxMass-1, maxMass, maxMass+1) {
		if got, want := impl.ValidIngots(ingotsOf(mass)), mass >= 1 && mass <= 20000000; got != want {
			t.Errorf("ValidIngots of a mass of %d: got %v", mass, got)
		}
	}
	checkNamePairs(t, "ValidIngots", func(before, after string) bool {
		return impl.ValidIngots([]impl.Ingot{ingotWith(before, 1, 0, 0), ingotWith(after, 1, 0, 0)})
	})
}

func TestP14ValidDemand(t *testing.T) {
	for _, d := range goodDemands() {
		if !impl.ValidDemand(d) || !isDemand(d) {
			t.Errorf("ValidDemand(%v): got false", d)
		}
	}
	for _, d := range badDemands() {
		if impl.ValidDemand(d) || isDemand(d) {
			t.Errorf("ValidDemand(%v): got true", d)
		}
	}
	numbers := append(slices.Clone(edgeNumbers), wholeAlloy-1, mostCharge-1, mostCharge, mostCharge+1)
	for _, low := range numbers {
		for _, high := range numbers {
			for _, d := range []impl.Demand{demandOf(low, high), demandWith(1, 1, low, high, 0), demandWith(1, low, 0, 1, high)} {
				if got := impl.ValidDemand(d); got != isDemand(d) {
					t.Errorf("ValidDemand(%v): got %v", d, got)
				}
			}
		}
	}
}

// TestP14TinOf: the mass of tin is rounded to the nearest gram, and a half up.
func TestP14TinOf(t *testing.T) {
	for _, c := range []struct{ mass, tin, want int64 }{
		{1000, 200000, 200}, {1000, 0, 0}, {1000, 1000000, 1000}, {1, 0, 0}, {1, 1, 0}, {1, 499999, 0}, {1, 500000, 1}, {1, 500001, 1}, {1, 1000000, 1}, {3, 500000, 2}, {3, 499999, 1}, {3, 166666, 0}, {3, 166667, 1}, {5, 300000, 2}, {5, 299999, 1}, {7, 500000, 4},
		{499999, 1, 0}, {500000, 1, 1}, {500001, 1, 1}, {1499999, 1, 1}, {1500000, 1, 2}, {maxMass, 0, 0}, {maxMass, 1, 20}, {maxMass, 220000, 4400000}, {maxMass, 999999, 19999980}, {maxMass, 1000000, maxMass}, {maxMass - 1, 1000000, maxMass - 1}, {maxMass - 1, 999999, 19999979}, {maxMass - 1, 500000, 10000000}, {maxMass - 3, 500000, 9999999}, {19500000, 999999, 19499981}, {19499999, 999999, 19499980},
	} {
		got, code := impl.TinOf(ingotWith("a", c.mass, c.tin, 0))
		checkNumber(t, fmt.Sprintf("TinOf(%d, %d)", c.mass, c.tin), got, code, c.want, codeOK)
	}
	random := rand.New(rand.NewSource(131))
	for range 2000 {
		tin := random.Int63n(wholeAlloy + 1)
		x := ingotWith("a", 1+random.Int63n(maxMass), tin, random.Int63n(wholeAlloy-tin+1))
		got, code := impl.TinOf(x)
		checkNumber(t, fmt.Sprintf("TinOf(%v)", x), got, code, nearestModel(productOf(x.Mass, x.Alloy.Tin), wholeAlloy), codeOK)
	}
	for _, list := range slices.Concat(goodIngots(), badIngots()) {
		for _, x := range list {
			want, wantCode := int64(0), int64(codeInvalid)
			if isIngot(x) {
				want, wantCode = nearestModel(productOf(x.Mass, x.Alloy.Tin), wholeAlloy), codeOK
			}
			got, code := impl.TinOf(x)
			checkNumber(t, fmt.Sprintf("TinOf(%v)", x), got, code, want, wantCode)
		}
	}
}

// TestP14DensityOf: the density is rounded to the nearest kilogram for a cubic metre, and a half up.
func TestP14DensityOf(t *testing.T) {
	for _, c := range []struct {
		a    impl.Alloy
		want int64
	}{
		{alloyWith(wholeAlloy, 0, 0), 8960}, {alloyWith(0, wholeAlloy, 0), 7310}, {alloyWith(0, 0, wholeAlloy), 8000}, {bronze(200000, 0), 8630}, {bronze(215000, 0), 8605}, {bronze(0, 100000), 8864}, {bronze(500000, 500000), 7655}, {alloyWith(333333, 333333, 333334), 8090},
		// 8943.5 exactly, and less and more than this
		{bronze(10000, 0), 8944}, {bronze(10001, 0), 8943}, {bronze(9999, 0), 8944}, {bronze(10000, 1), 8943}, {alloyWith(30000, 970000, 0), 7360}, {alloyWith(29999, 970001, 0), 7359}, {alloyWith(990000, 10000, 0), 8944}, {alloyWith(70000, 930000, 0), 7426}, {alloyWith(69999, 930001, 0), 7425},
		// 7310.5 of tin with something else would need half a millionth: the nearest ones
		{alloyWith(0, 999276, 724), 7310}, {alloyWith(0, 999275, 725), 7311}, {alloyWith(0, 50000, 950000), 7966}, {alloyWith(0, 50001, 949999), 7965},
	} {
		got, code := impl.DensityOf(c.a)
		checkNumber(t, fmt.Sprintf("DensityOf(%v)", c.a), got, code, c.want, codeOK)
	}
	random := rand.New(rand.NewSource(132))
	alloys := slices.Concat(goodAlloys(), badAlloys())
	for range 2000 {
		tin := random.Int63n(wholeAlloy + 1)
		alloys = append(alloys, bronze(tin, random.Int63n(wholeAlloy-tin+1)), bronze(2500*(tin%400), 0))
	}
	for _, a := range alloys {
		want, wantCode := int64(0), int64(codeInvalid)
		if isAlloy(a) {
			sum := productOf(8960, a.Copper)
			sum.Add(sum, productOf(7310, a.Tin)).Add(sum, productOf(8000, a.Other))
			want, wantCode = nearestModel(sum, wholeAlloy), codeOK
		}
		got, code := impl.DensityOf(a)
		checkNumber(t, fmt.Sprintf("DensityOf(%v)", a), got, code, want, wantCode)
	}
}

// checkMix holds the alloy and the mass of a choice against what they must be.
func checkMix(t *testing.T, list []impl.Ingot, chosen []int64, want impl.Alloy, wantMass, wantCode int64) {
	t.Helper()
	got, mass, code := impl.MixOf(list, chosen)
	if got != want || mass != wantMass || code != wantCode {
		t.Errorf("MixOf(%v, %v): got %v %d %d, want %v %d %d", list, chosen, got, mass, code, want, wantMass, wantCode)
	}
}

// TestP14MixOf: tin and other parts are rounded down, and copper is the rest.
func TestP14MixOf(t *testing.T) {
	few := []impl.Ingot{ingotWith("a", 1, 1, 1), ingotWith("b", 2, 0, 0), ingotWith("c", 2, 1, 1), ingotWith("d", 3, 500000, 500000), ingotWith("e", 1, 1000000, 0), ingotWith("f", 1, 0, 1000000)}
	great := []impl.Ingot{ingotWith("a", maxMass, 1000000, 0), ingotWith("b", maxMass, 0, 1000000), ingotWith("c", maxMass-1, 999999, 1), ingotWith("d", maxMass, 0, 0)}
	var tin, rest []impl.Ingot
	for i := range maxIngots {
		tin, rest = append(tin, ingotWith(ingotNamed(i), maxMass, 1000000, 0)), append(rest, ingotWith(ingotNamed(i), maxMass-int64(i), 0, 1000000))
	}
	for _, c := range []struct {
		list   []impl.Ingot
		chosen []int64
		want   impl.Alloy
		mass   int64
	}{
		{bellIngots(), []int64{0}, bronze(200000, 0), 1000}, {bellIngots(), []int64{3}, bronze(0, 0), 500}, {bellIngots(), []int64{0, 1}, bronze(215000, 0), 4000}, {bellIngots(), []int64{1, 3}, bronze(188571, 0), 3500}, {bellIngots(), []int64{0, 1, 2, 3}, bronze(440000, 0), 6500}, {bellIngots(), []int64{0, 1, 3}, bronze(191111, 0), 4500},
		// a third, two thirds, a whole, and just less than the whole
		{few, []int64{0, 1}, bronze(0, 0), 3}, {few, []int64{1, 2}, bronze(0, 0), 4}, {few, []int64{0, 2}, bronze(1, 1), 3}, {few, []int64{0, 1, 2}, bronze(0, 0), 5}, {few, []int64{0, 3}, bronze(375000, 375000), 4}, {few, []int64{1, 3}, bronze(300000, 300000), 5}, {few, []int64{2, 4}, bronze(333334, 0), 3}, {few, []int64{0, 4}, bronze(500000, 0), 2}, {few, []int64{4, 5}, bronze(500000, 500000), 2}, {few, []int64{3, 4, 5}, bronze(500000, 500000), 5}, {few, []int64{1, 4, 5}, bronze(250000, 250000), 4}, {few, []int64{0, 1, 2, 3, 4, 5}, bronze(250000, 250000), 10}, {few, []int64{0, 4, 5}, bronze(333333, 333333), 3},
		// sums at the greatest masses
		{great, []int64{0, 1}, bronze(500000, 500000), 40000000}, {great, []int64{0, 2}, bronze(999999, 0), 39999999}, {great, []int64{1, 2}, bronze(499999, 500000), 39999999}, {great, []int64{0, 1, 2, 3}, bronze(499999, 250000), 79999999}, {tin, upTo(16), bronze(1000000, 0), mostCharge}, {tin[:15], upTo(15), bronze(1000000, 0), 300000000}, {rest, upTo(16), bronze(0, 1000000), mostCharge - 120},
		{append(slices.Clone(tin[:15]), ingotWith("z", 1, 0, 0)), upTo(16), bronze(999999, 0), 300000001}, {append(slices.Clone(rest[:15]), ingotWith("z", 1, 0, 0)), upTo(16), bronze(0, 999999), 299999896},
	} {
		checkMix(t, c.list, c.chosen, c.want, c.mass, codeOK)
	}
}

// TestP14MixesOfMany holds all mixes of many lists against the model: each one is an alloy, and that of one ingot is its own.
func TestP14MixesOfMany(t *testing.T) {
	manyMixtures(133, 200, func(list []impl.Ingot, _ impl.Demand) {
		for _, chosen := range allChoices(len(list)) {
			if len(chosen) == 0 {
				checkMix(t, list, chosen, impl.Alloy{}, 0, codeState)
				continue
			}
			want := mixModel(list, chosen)
			checkMix(t, list, chosen, want, chargeMass(list, chosen), codeOK)
			if !isAlloy(want) || len(chosen) == 1 && want != list[chosen[0]].Alloy {
				t.Errorf("the mix of %v and %v is %v", list, chosen, want)
			}
		}
	})
}

// TestP14Choices: a list that is not valid comes before indices that are no choice, and these before an empty choice.
func TestP14Choices(t *testing.T) {
	for _, list := range badIngots() {
		for _, chosen := range slices.Concat([][]int64{nil, {}, {0}, {0, 1}, upTo(16), upTo(len(list))}, noChoices[:20]) {
			checkMix(t, list, chosen, impl.Alloy{}, 0, codeInvalid)
			if impl.FitsDemand(list, chosen, demandOf(1, mostCharge)) {
				t.Errorf("FitsDemand(%v, %v): got true", list, chosen)
			}
		}
	}
	for _, list := range goodIngots() {
		checkMix(t, list, nil, impl.Alloy{}, 0, codeState)
		checkMix(t, list, []int64{}, impl.Alloy{}, 0, codeState)
		choices := slices.Concat(noChoices, [][]int64{upTo(len(list) + 1), {int64(len(list))}, {int64(len(list)) + 1}, append(upTo(len(list)), -1), append(upTo(len(list)), int64(len(list))-1), append([]int64{-1}, upTo(len(list))...)})
		for i := range list {
			choices = append(choices, []int64{int64(i)}, upTo(i+1), upTo(len(list))[i:], []int64{int64(i), int64(i)}, []int64{int64(i), int64(i) - 1}, []int64{int64(i), int64(len(list))}, []int64{-1, int64(i)}, []int64{int64(i) + 1<<32}, []int64{int64(i) + 16}, []int64{int64(i) + 64}, []int64{int64(i) + math.MinInt64})
		}
		for _, chosen := range choices {
			if !isChoice(list, chosen) {
				checkMix(t, list, chosen, impl.Alloy{}, 0, codeRange)
			} else if len(chosen) > 0 {
				checkMix(t, list, chosen, mixModel(list, chosen), chargeMass(list, chosen), codeOK)
			}
			got, want := impl.FitsDemand(list, chosen, demandOf(1, mostCharge)), isChoice(list, chosen) && len(chosen) > 0
			if got != want {
				t.Errorf("FitsDemand(%v, %v): got %v", list, chosen, got)
			}
		}
	}
}

// TestP14Bounds: masses and sums that are exactly at a bound of a demand, and one past it on both sides.
func TestP14Bounds(t *testing.T) {
	even := ingotsOf(1000, 2000)
	thirds := []impl.Ingot{ingotWith("a", 1, 1, 1), ingotWith("b", 2, 0, 0)}
	// all ingots together have one millionth of a gram more or less than half tin and a tenth of something else
	over, under := make([]impl.Ingot, 16), make([]impl.Ingot, 16)
	for i := range over {
		over[i] = ingotWith(ingotNamed(i), maxMass, 500000, 100000)
		under[i] = over[i]
	}
	over[15] = ingotWith("z", 1, 500001, 100001)
	under[15] = ingotWith("z", 1, 499999, 99999)
	for _, c := range []struct {
		list   []impl.Ingot
		chosen []int64
		d      impl.Demand
		want   bool
	}{
		{even, []int64{0, 1}, demandWith(3000, 3000, 200000, 200000, 10000), true}, {even, []int64{0, 1}, demandWith(3001, 3001, 200000, 200000, 10000), false}, {even, []int64{0, 1}, demandWith(3001, 4000, 200000, 200000, 10000), false}, {even, []int64{0, 1}, demandWith(2999, 2999, 200000, 200000, 10000), false}, {even, []int64{0, 1}, demandWith(1, 2999, 200000, 200000, 10000), false}, {even, []int64{0, 1}, demandWith(1, mostCharge, 200000, 200000, 10000), true},
		{even, []int64{0, 1}, demandWith(3000, 3000, 200001, 200001, 10000), false}, {even, []int64{0, 1}, demandWith(3000, 3000, 200001, wholeAlloy, 10000), false}, {even, []int64{0, 1}, demandWith(3000, 3000, 0, 199999, 10000), false}, {even, []int64{0, 1}, demandWith(3000, 3000, 199999, 199999, 10000), false}, {even, []int64{0, 1}, demandWith(3000, 3000, 199999, 200001, 10000), true},
		{even, []int64{0, 1}, demandWith(3000, 3000, 200000, 200000, 9999), false}, {even, []int64{0, 1}, demandWith(3000, 3000, 200000, 200000, 0), false}, {even, []int64{0, 1}, demandWith(3000, 3000, 200000, 200000, 10001), true}, {even, []int64{0}, demandWith(3000, 3000, 200000, 200000, 10000), false}, {even, []int64{1}, demandWith(2000, 2000, 200000, 200000, 10000), true}, {even, []int64{1, 0}, demandWith(3000, 3000, 200000, 200000, 10000), false},
		// sums that are no multiple of the mass: the rounded alloy is not what counts
		{thirds, []int64{0, 1}, demandWith(3, 3, 0, 0, 1), false}, {thirds, []int64{0, 1}, demandWith(3, 3, 1, 1, 1), false}, {thirds, []int64{0, 1}, demandWith(3, 3, 0, 1, 1), true}, {thirds, []int64{0, 1}, demandWith(3, 3, 0, 1, 0), false}, {thirds, []int64{0}, demandWith(1, 3, 1, 1, 1), true}, {thirds, []int64{1}, demandWith(1, 3, 0, 0, 0), true}, {thirds, []int64{1}, demandWith(1, 3, 1, 1, 0), false}, {thirds, []int64{0}, demandWith(1, 3, 0, 0, 1), false},
		{over, upTo(15), demandWith(1, mostCharge, 500000, 500000, 100000), true}, {under, upTo(15), demandWith(1, mostCharge, 500000, 500000, 100000), true}, {over, upTo(15), demandWith(300000000, 300000000, 500000, 500000, 100000), true}, {over, upTo(15), demandWith(300000001, 300000001, 500000, 500000, 100000), false}, {over, upTo(16), demandWith(300000001, 300000001, 0, wholeAlloy, wholeAlloy), true},
		{over, upTo(16), demandWith(1, mostCharge, 0, 500000, wholeAlloy), false}, {over, upTo(16), demandWith(1, mostCharge, 500000, 500001, wholeAlloy), true}, {over, upTo(16), demandWith(1, mostCharge, 500001, 500001, wholeAlloy), false}, {under, upTo(16), demandWith(1, mostCharge, 500000, 500000, wholeAlloy), false}, {under, upTo(16), demandWith(1, mostCharge, 499999, 500000, wholeAlloy), true}, {under, upTo(16), demandWith(1, mostCharge, 0, 499999, wholeAlloy), false},
		{over, upTo(16), demandWith(1, mostCharge, 0, wholeAlloy, 100000), false}, {over, upTo(16), demandWith(1, mostCharge, 0, wholeAlloy, 100001), true}, {under, upTo(16), demandWith(1, mostCharge, 0, wholeAlloy, 100000), true}, {under, upTo(16), demandWith(1, mostCharge, 0, wholeAlloy, 99999), false},
		{equalIngots(16, maxMass), upTo(16), demandWith(mostCharge, mostCharge, 200000, 200000, 10000), true}, {equalIngots(16, maxMass), upTo(16), demandOf(mostCharge-1, mostCharge-1), false}, {equalIngots(16, maxMass), upTo(15), demandOf(mostCharge, mostCharge), false}, {equalIngots(16, maxMass), upTo(16), demandWith(mostCharge, mostCharge, 200001, wholeAlloy, wholeAlloy), false}, {equalIngots(16, maxMass), upTo(16), demandWith(mostCharge, mostCharge, 0, 199999, wholeAlloy), false}, {equalIngots(16, maxMass), upTo(16), demandWith(mostCharge, mostCharge, 0, wholeAlloy, 9999), false},
		{bellIngots(), nil, demandWith(1, 5000, 0, wholeAlloy, wholeAlloy), false}, {nil, nil, demandOf(1, 1), false}, {bellIngots(), []int64{0, 1}, bellDemand, true}, {bellIngots(), []int64{1}, bellDemand, true}, {bellIngots(), []int64{0, 1, 3}, bellDemand, true}, {bellIngots(), []int64{0, 2}, bellDemand, false}, {bellIngots(), []int64{1, 3}, bellDemand, false}, {bellIngots(), []int64{0}, bellDemand, false},
	} {
		if got := impl.FitsDemand(c.list, c.chosen, c.d); got != c.want || fitsModel(c.list, c.chosen, c.d) != c.want && isChoice(c.list, c.chosen) {
			t.Errorf("FitsDemand(%v, %v, %v): got %v", c.list, c.chosen, c.d, got)
		}
	}
	// all of 16 ingots are the 17th choice that a search reaches
	for _, c := range []struct {
		list []impl.Ingot
		d    impl.Demand
		code int64
	}{
		{over, demandWith(300000001, 300000001, 500000, 500001, 100001), codeOK}, {over, demandWith(300000001, 300000001, 500000, 500000, 100001), codeFull}, {over, demandWith(300000001, 300000001, 500001, 500001, 100001), codeFull}, {over, demandWith(300000001, 300000001, 500000, 500001, 100000), codeFull},
		{under, demandWith(300000001, 300000001, 499999, 500000, 100000), codeOK}, {under, demandWith(300000001, 300000001, 500000, 500000, 100000), codeFull}, {under, demandWith(300000001, 300000001, 499999, 499999, 100000), codeFull}, {under, demandWith(300000001, 300000001, 499999, 500000, 99999), codeFull},
	} {
		var want []int64
		if c.code == codeOK {
			want = upTo(16)
		}
		got, code := impl.FirstCharge(c.list, c.d, 17)
		checkList(t, fmt.Sprintf("FirstCharge(%v, %v, 17)", c.list, c.d), got, code, want, c.code)
	}
}

// TestP14InvalidDemands: nothing fits a demand that is not valid.
func TestP14InvalidDemands(t *testing.T) {
	for _, d := range badDemands() {
		for _, list := range goodIngots() {
			for _, chosen := range [][]int64{nil, {0}, {1}, {0, 1}, upTo(len(list))} {
				if impl.FitsDemand(list, chosen, d) {
					t.Errorf("FitsDemand(%v, %v, %v): got true", list, chosen, d)
				}
			}
		}
	}
}

// TestP14Nodes has searches whose nodes are counted by hand.
func TestP14Nodes(t *testing.T) {
	none := func(nodes int) []charge {
		return []charge{{nil, 0, codeMissing, nodes}, {nil, 0, codeMissing, nodes}, {nil, 0, codeOK, nodes}}
	}
	found := func(first []int64, nodes int, least []int64, count int64, all int) []charge {
		return []charge{{first, 0, codeOK, nodes}, {least, 0, codeOK, all}, {nil, count, codeOK, all}}
	}
	for name, c := range map[string]struct {
		list []impl.Ingot
		d    impl.Demand
		want []charge
	}{
		// the empty choice is a node, and the only one without ingots, or with ones that are too heavy
		"no ingots": {nil, demandOf(1, mostCharge), none(1)}, "too heavy": {ingotsOf(1001, 1001, 5000), demandOf(1, 1000), none(1)}, "too light": {ingotsOf(1), demandOf(2, 2), none(2)},
		"one": {ingotsOf(1000), demandOf(1000, 1000), found([]int64{0}, 2, []int64{0}, 1, 2)}, "one of the least mass": {ingotsOf(1), demandOf(1, 1), found([]int64{0}, 2, []int64{0}, 1, 2)}, "one of the greatest mass": {ingotsOf(maxMass), demandOf(maxMass, maxMass), found([]int64{0}, 2, []int64{0}, 1, 2)},
		"equal": {ingotsOf(100, 100, 100), demandOf(200, 200), found([]int64{0, 1}, 3, []int64{0, 1}, 3, 7)}, "all equal": {ingotsOf(100, 100, 100), demandOf(300, 300), found([]int64{0, 1, 2}, 4, []int64{0, 1, 2}, 1, 8)}, "same sums": {ingotsOf(300, 200, 100), demandOf(300, 300), found([]int64{0}, 2, []int64{0}, 2, 5)}, "sums found later": {ingotsOf(100, 200, 300), demandOf(300, 300), found([]int64{0, 1}, 3, []int64{0, 1}, 2, 5)},
		"least ones": {ingotsOf(300, 100, 100), demandOf(100, 500), found([]int64{0}, 2, []int64{1}, 7, 8)}, "the last is least": {ingotsOf(300, 200, 100), demandOf(100, 600), found([]int64{0}, 2, []int64{2}, 7, 8)}, "heavy between": {ingotsOf(100, 1000, 50), demandOf(50, 200), found([]int64{0}, 2, []int64{2}, 3, 4)}, "heavy at first": {ingotsOf(1000, 100, 50), demandOf(150, 150), found([]int64{1, 2}, 3, []int64{1, 2}, 1, 4)},
		"bronze": {bellIngots(), bellDemand, found([]int64{0, 1}, 3, []int64{1}, 3, 12)}, "no such mass": {bellIngots(), demandWith(4501, 4900, 190000, 220000, 0), none(12)}, "no such tin": {bellIngots(), demandWith(3000, 4500, 900000, 950000, 0), none(12)}, "little tin": {bellIngots(), demandWith(3000, 4500, 190000, 195000, 0), found([]int64{0, 1, 3}, 4, []int64{0, 1, 3}, 1, 12)}, "too much of others": {ingotsOf(100, 100), demandWith(1, 200, 0, wholeAlloy, 9999), none(4)},
		"pure tin": {bellIngots(), demandWith(1, mostCharge, wholeAlloy, wholeAlloy, 0), found([]int64{2}, 14, []int64{2}, 1, 16)}, "pure copper": {bellIngots(), demandWith(1, mostCharge, 0, 0, 0), found([]int64{3}, 16, []int64{3}, 1, 16)}, "only together": {bellIngots(), demandWith(2500, 2500, 800000, 800000, 0), found([]int64{2, 3}, 5, []int64{2, 3}, 1, 6)},
		// all ingots go on one after the other, before any is left out
		"all of 14": {doubledIngots()[:14], demandOf(16383, 16383), found(upTo(14), 15, upTo(14), 1, 16384)}, "the last of 14": {doubledIngots()[:14], demandOf(8192, 8192), found([]int64{13}, 8193, []int64{13}, 1, 8193)}, "the first of 14": {doubledIngots()[:14], demandOf(1, 16383), found([]int64{0}, 2, []int64{0}, 16383, 16384)},
	} {
		t.Run(name, func(t *testing.T) {
			checkCharges(t, c.list, c.d, c.want)
			for which, want := range chargeModel(c.list, c.d) {
				got := c.want[which]
				if !slices.Equal(got.chosen, want.chosen) || got.count != want.count || got.code != want.code || got.nodes != want.nodes {
					t.Errorf("%s: the model of the tests has %v, and %v is expected", chargeNames[which], want, got)
				}
			}
		})
	}
}

// TestP14GreatestBudget: a search may visit exactly MaxBudget nodes, and not one more; one that ends before needs no more than it visits.
func TestP14GreatestBudget(t *testing.T) {
	full := func(first []int64, nodes int) []charge {
		return []charge{{first, 0, codeOK, nodes}, {nil, 0, codeFull, maxBudget + 1}, {nil, 0, codeFull, maxBudget + 1}}
	}
	list := doubledIngots()
	for _, c := range []struct {
		d    impl.Demand
		want []charge
	}{
		{demandOf(1, 19998), []charge{{[]int64{0}, 0, codeOK, 2}, {[]int64{0}, 0, codeOK, 19999}, {nil, 19998, codeOK, 19999}}},
		{demandOf(1, 19999), []charge{{[]int64{0}, 0, codeOK, 2}, {[]int64{0}, 0, codeOK, 20000}, {nil, 19999, codeOK, 20000}}},
		{demandOf(1, 20000), full([]int64{0}, 2)}, {demandOf(1, 65535), full([]int64{0}, 2)}, {demandOf(65535, 65535), full(upTo(16), 17)}, {demandOf(2, 20000), full([]int64{0, 1}, 3)}, {demandOf(32767, 32767), full(upTo(15), 16)},
		// none fits, and all nodes are visited
		{demandWith(1, 19999, 0, 0, wholeAlloy), []charge{{nil, 0, codeMissing, 20000}, {nil, 0, codeMissing, 20000}, {nil, 0, codeOK, 20000}}},
		{demandWith(1, 19999, 0, wholeAlloy, 9999), []charge{{nil, 0, codeMissing, 20000}, {nil, 0, codeMissing, 20000}, {nil, 0, codeOK, 20000}}},
		{demandWith(1, 20000, 0, 0, wholeAlloy), []charge{{nil, 0, codeFull, 20001}, {nil, 0, codeFull, 20001}, {nil, 0, codeFull, 20001}}},
		{demandOf(65536, 65536), []charge{{nil, 0, codeFull, 20001}, {nil, 0, codeFull, 20001}, {nil, 0, codeFull, 20001}}},
	} {
		checkCharges(t, list, c.d, c.want)
	}
	for _, mass := range []int64{16384, 19999, 9999, 12345} {
		d := demandOf(mass, 19999)
		checkCharges(t, list, d, chargeModel(list, d))
	}
	checkCharges(t, equalIngots(16, maxMass), demandOf(mostCharge, mostCharge), full(upTo(16), 17))
	checkCharges(t, equalIngots(14, maxMass), demandOf(280000000, 280000000), []charge{{upTo(14), 0, codeOK, 15}, {upTo(14), 0, codeOK, 16384}, {nil, 1, codeOK, 16384}})
	checkCharges(t, equalIngots(16, maxMass), demandOf(1, maxMass), []charge{{[]int64{0}, 0, codeOK, 2}, {[]int64{0}, 0, codeOK, 17}, {nil, 16, codeOK, 17}})
}

// TestP14ChargesFit: charges that are found fit, the first one is the first, the least one is not heavier than others, and all are counted.
func TestP14ChargesFit(t *testing.T) {
	codes, several := map[int64]int{}, 0
	manyMixtures(134, 1500, func(list []impl.Ingot, d impl.Demand) {
		want := chargeModel(list, d)
		checkCharges(t, list, d, want)
		first, firstCode := impl.FirstCharge(list, d, maxBudget)
		least, leastCode := impl.LeastCharge(list, d, maxBudget)
		count, countCode := impl.CountCharges(list, d, maxBudget)
		codes[firstCode]++
		if firstCode != leastCode || countCode != codeOK || (firstCode == codeOK) != (count > 0) {
			t.Errorf("%v, %v: the codes are %d, %d and %d, with %d charges", list, d, firstCode, leastCode, countCode, count)
		}
		if firstCode == codeOK && (!impl.FitsDemand(list, first, d) || !impl.FitsDemand(list, least, d)) {
			t.Errorf("%v, %v: %v or %v does not fit", list, d, first, least)
		}
		fitting := int64(0)
		for _, chosen := range allChoices(len(list)) {
			if got := impl.FitsDemand(list, chosen, d); got != fitsModel(list, chosen, d) {
				t.Errorf("FitsDemand(%v, %v, %v): got %v", list, chosen, d, got)
			} else if !got {
				continue
			}
			fitting++
			if slices.Compare(chosen, first) < 0 || chargeMass(list, chosen) < chargeMass(list, least) || chargeMass(list, chosen) == chargeMass(list, least) && slices.Compare(chosen, least) < 0 {
				t.Errorf("%v, %v: %v comes before %v, or is lighter than %v", list, d, chosen, first, least)
			}
		}
		if fitting != count {
			t.Errorf("CountCharges(%v, %v): got %d, want %d", list, d, count, fitting)
		}
		if fitting > 1 && !slices.Equal(first, least) {
			several++
		}
	})
	if codes[codeOK] < 500 || codes[codeMissing] < 100 || several < 100 {
		t.Errorf("only %v searches have each code, and %d have several charges", codes, several)
	}
}

// TestP14OrderOfErrors: ErrInvalid comes before ErrRange, ErrRange before ErrFull, and ErrFull before ErrNotFound.
func TestP14OrderOfErrors(t *testing.T) {
	check := func(list []impl.Ingot, d impl.Demand, budget int64, codes ...int64) {
		t.Helper()
		for which, want := range codes {
			chosen, count, code := searchIngots(which, list, d, budget)
			if code != want || code != codeOK && (len(chosen) > 0 || count != 0) {
				t.Errorf("%s(%v, %v, %d): got %v %d %d, want the code %d", chargeNames[which], list, d, budget, chosen, count, code, want)
			}
		}
	}
	budgets := append(slices.Clone(noBudgets), 1, 2, 12, maxBudget)
	for i, list := range badIngots() {
		for _, budget := range budgets {
			check(list, goodDemands()[i%len(goodDemands())], budget, codeInvalid, codeInvalid, codeInvalid)
			check(list, badDemands()[i%len(badDemands())], budget, codeInvalid, codeInvalid, codeInvalid)
		}
	}
	for i, d := range badDemands() {
		for _, budget := range budgets {
			check(goodIngots()[i%len(goodIngots())], d, budget, codeInvalid, codeInvalid, codeInvalid)
			check(nil, d, budget, codeInvalid, codeInvalid, codeInvalid)
		}
	}
	for _, list := range goodIngots() {
		for _, d := range goodDemands() {
			for _, budget := range noBudgets {
				check(list, d, budget, codeRange, codeRange, codeRange)
			}
		}
	}
	rare := demandWith(3000, 4500, 900000, 950000, 0)
	check(bellIngots(), rare, 11, codeFull, codeFull, codeFull)
	check(bellIngots(), rare, 12, codeMissing, codeMissing, codeOK)
	check(bellIngots(), bellDemand, 2, codeFull, codeFull, codeFull)
	check(bellIngots(), bellDemand, 3, codeOK, codeFull, codeFull)
	check(bellIngots(), bellDemand, 11, codeOK, codeFull, codeFull)
	check(bellIngots(), bellDemand, 12, codeOK, codeOK, codeOK)
	check(nil, bellDemand, 1, codeMissing, codeMissing, codeOK)
	check(doubledIngots(), demandOf(65536, mostCharge), maxBudget, codeFull, codeFull, codeFull)
}

var ingotTexts = []string{"a 1000,800000,200000,0", "b 3000,780000,220000,0", "c 2000,0,1000000,0", "d 500,1000000,0,0", "abcdefghij 20000000,0,0,1000000", "z9 1,999999,0,1", "i0 1,333333,333333,333334"}

func TestP14IngotTexts(t *testing.T) {
	for _, text := range ingotTexts {
		x, ok := impl.ReadIngot(text)
		if got := impl.IngotText(x); got != text || !ok {
			t.Errorf("ReadIngot(%q): got %v %v, with the text %q", text, x, ok, got)
		}
	}
	random := rand.New(rand.NewSource(135))
	lists := slices.Concat(goodIngots(), badIngots())
	for range 300 {
		lists = append(lists, randomIngots(random))
	}
	for _, list := range lists {
		for _, x := range list {
			text, want := impl.IngotText(x), ""
			if isIngot(x) {
				want = fmt.Sprintf("%s %d,%d,%d,%d", x.Id, x.Mass, x.Alloy.Copper, x.Alloy.Tin, x.Alloy.Other)
			}
			if text != want {
				t.Errorf("IngotText(%v): got %q, want %q", x, text, want)
			}
			if got, ok := impl.ReadIngot(text); ok != isIngot(x) || ok && got != x {
				t.Errorf("ReadIngot(%q): got %v %v, want %v", text, got, ok, x)
			}
		}
	}
}

func TestP14ReadIngot(t *testing.T) {
	bad := []string{
		// missing, superfluous and empty parts
		"a", "a ", "a -", "a 1000", "a 1000,800000", "a 1000,800000,200000", "a 1000,800000,200000,", "a ,800000,200000,0", "a 1000,,200000,0", "a 1000,800000,,0", "a 1000,,,", "a ,,,", "a 1000,800000,200000,0,", "a ,1000,800000,200000,0", "a 1000,800000,200000,0,0", "a 1000,800000,200000,0,1", "a 1000,800000,0,200000,0", "1000,800000,200000,0", " 1000,800000,200000,0", "a1000,800000,200000,0", "a,1000,800000,200000,0", "a 1000 800000 200000 0", "a 1000,800000 200000,0", "a a 1000,800000,200000,0", "a b 1000,800000,200000,0", "a 1000,800000,200000,0 a", "a 1000,800000,200000,0 1000,800000,200000,0",
		// blanks and other separators
		" a 1000,800000,200000,0", "a  1000,800000,200000,0", "a 1000,800000,200000,0 ", "a 1000, 800000,200000,0", "a 1000 ,800000,200000,0", "a\t1000,800000,200000,0", "a 1000,800000,200000,0\n", "\na 1000,800000,200000,0", "a\u00a01000,800000,200000,0", "a 1000;800000;200000;0", "a 1000/800000/200000/0", "a 1000,,800000,200000,0", "a 1000.800000.200000.0", "a 1000,800000,200000,0\x00", "a 1000，800000，200000，0",
		// leading zeros and signs
		"a 01000,800000,200000,0", "a 1000,0800000,200000,0", "a 1000,800000,0200000,0", "a 1000,800000,200000,00", "a 1000,800000,200000,-0", "a +1000,800000,200000,0", "a 1000,+800000,200000,0", "a 1000,800000,200000,+0", "a -1000,800000,200000,0", "a 1000,-800000,200000,0", "a 1000,800000,200000,--0", "a 0x1000,800000,200000,0", "a 1e3,800000,200000,0", "a 1_000,800000,200000,0", "a 1000.0,800000,200000,0", "a 1000,800000,200000,O", "a 1000,٨00000,200000,0", "a x,x,x,x", "a a,800000,200000,0",
		// names that are none
		"A 1000,800000,200000,0", "9 1000,800000,200000,0", "1a 1000,800000,200000,0", "abcdefghijk 1000,800000,200000,0", "a- 1000,800000,200000,0", "a.b 1000,800000,200000,0", "é 1000,800000,200000,0", "\xff 1000,800000,200000,0", "- 1000,800000,200000,0",
		// ingots that are not valid
		"a 0,800000,200000,0", "a 20000001,800000,200000,0", "a 1,1000001,-1,0", "a 1,1000001,0,-1", "a 1,-1,1000001,0", "a 1,0,-1,1000001", "a 1,-1,0,1000001", "a 1,999999,0,0", "a 1,0,999999,0", "a 1,0,0,999999", "a 1,1000000,1,0", "a 1,1000000,0,1", "a 1,0,0,0", "a 0,0,0,0", "a 1,1000001,0,0", "a 1,800000,200000,1", "a 1,800000,199999,0", "a 1000000000000,800000,200000,0", "a 1000000000001,800000,200000,0", "a 1,1000000000000,-999999000000,0", "a 4294967297,800000,200000,0", "a 18446744073709552616,800000,200000,0", "a 9223372036854775807,800000,200000,0", "a -9223372036854775808,800000,200000,0", "a 1,9223372036854775807,9223372036854775807,1000002",
		strings.Repeat(" ", 1000), strings.Repeat("a ", 1000), "a " + strings.Repeat("1000,", 64) + "0", "a " + strings.Repeat("9", 1000) + ",800000,200000,0", strings.Repeat("a", 1000) + " 1000,800000,200000,0",
	}
	for _, s := range slices.Concat(bad, edgeTexts, pointedTexts, temperamentTexts, soundTexts, profileTexts, modelTexts, cutsTexts, goalTexts, measureTexts, spotsTexts) {
		if got, ok := impl.ReadIngot(s); got != (impl.Ingot{}) || ok {
			t.Errorf("ReadIngot(%q): got %v %v, want none", s, got, ok)
		}
	}
}

// TestP14DamagedIngotsAreNotRead: a text that is damaged is that of the ingot that is read, or of none.
func TestP14DamagedIngotsAreNotRead(t *testing.T) {
	for _, s := range damagedTexts(ingotTexts, " 01289,-+aA") {
		got, ok := impl.ReadIngot(s)
		if ok && (impl.IngotText(got) != s || !isIngot(got)) || !ok && got != (impl.Ingot{}) {
			t.Errorf("ReadIngot(%q): got %v %v", s, got, ok)
		}
	}
}

// alloysResults has the results of all functions of the chapter for valid and invalid arguments, as texts.
func alloysResults() []string {
	var all []string
	add := func(results ...any) { all = append(all, fmt.Sprint(results...)) }
	demands, budgets := slices.Concat(goodDemands(), badDemands()), append(slices.Clone(noBudgets), 1, 2, 17, 300)
	use := func(i int, list []impl.Ingot) {
		add(impl.ValidIngots(list))
		for k := range 4 {
			d, budget, chosen := demands[(i+k*7)%len(demands)], budgets[(i*5+k)%len(budgets)], noChoices[(i*3+k)%len(noChoices)]
			add(impl.FitsDemand(list, chosen, d), impl.FitsDemand(list, upTo(k), d), impl.FitsDemand(list, upTo(len(list)), d))
			add(impl.MixOf(list, chosen))
			add(impl.MixOf(list, upTo(k)))
			add(impl.MixOf(list, upTo(len(list))))
			for which := range chargeNames {
				add(searchIngots(which, list, d, budget))
				add(searchIngots(which, list, goodDemands()[k], 300))
			}
		}
		for _, x := range list {
			add(impl.TinOf(x))
			add(impl.IngotText(x))
		}
	}
	for i, list := range slices.Concat(goodIngots(), badIngots()) {
		use(i, list)
	}
	i := 0
	manyMixtures(136, 100, func(list []impl.Ingot, _ impl.Demand) {
		use(i, list)
		i++
	})
	for which := range chargeNames {
		add(searchIngots(which, doubledIngots(), demandOf(12345, 19999), maxBudget))
		add(searchIngots(which, doubledIngots(), demandOf(12345, 20000), maxBudget))
	}
	for _, d := range demands {
		add(impl.ValidDemand(d))
	}
	for _, a := range slices.Concat(goodAlloys(), badAlloys()) {
		add(impl.ValidAlloy(a))
		add(impl.DensityOf(a))
	}
	for _, s := range slices.Concat(ingotTexts, edgeTexts, pointedTexts) {
		add(impl.ReadIngot(s))
	}
	return all
}

// TestP1AlloysReturn: every function of chapter 13 returns for all arguments, and the same again, also at the same time.
func TestP1AlloysReturn(t *testing.T) { checkReturns(t, alloysResults) }

// roomyIngots returns a list that is a part of a longer one, and this longer one.
func roomyIngots() ([]impl.Ingot, []impl.Ingot) {
	whole := append(slices.Grow(bellIngots(), 20), ingotWith("e", 700, 100000, 5), impl.Ingot{Id: "E", Mass: -1}, ingotWith("a", 1, 2, 3))
	return whole[:4], whole[:cap(whole)]
}

// TestP1AlloysKeepTheirArguments: neither ingots nor choices, nor the capacity behind them, are modified.
func TestP1AlloysKeepTheirArguments(t *testing.T) {
	_, whole := roomyIngots()
	numbers := append(slices.Grow([]int64(nil), 12), 0, 1, 3, 2, -1, 77, 78)
	numbers = numbers[:cap(numbers)]
	wantWhole, wantNumbers := slices.Clone(whole), slices.Clone(numbers)
	for size := range 8 {
		list := whole[:size]
		impl.ValidIngots(list)
		for chosen := range 8 {
			impl.MixOf(list, numbers[:chosen])
			impl.FitsDemand(list, numbers[:chosen], bellDemand)
		}
		for _, budget := range []int64{0, 1, 3, 12, maxBudget} {
			for which := range chargeNames {
				searchIngots(which, list, bellDemand, budget)
				searchIngots(which, list, demandOf(1, mostCharge), budget)
			}
		}
		if !slices.Equal(whole, wantWhole) || !slices.Equal(numbers, wantNumbers) {
			t.Fatalf("%d ingots: they are now %v, and the numbers %v", size, whole, numbers)
		}
	}
}

// TestP1ChargesAreNew: a result that is overwritten, with the capacity behind it, changes neither an argument nor another result, and the other way round.
func TestP1ChargesAreNew(t *testing.T) {
	for which, name := range chargeNames[:countCharges] {
		for _, d := range []impl.Demand{bellDemand, demandOf(1, mostCharge), demandOf(6500, 6500)} {
			list, whole := roomyIngots()
			wantWhole := slices.Clone(whole)
			search := func() []int64 {
				chosen, _, _ := searchIngots(which, list, d, maxBudget)
				return chosen
			}
			got, want := search(), slices.Clone(search())
			overwrite(search(), 99)
			if again := search(); !slices.Equal(again, want) || !slices.Equal(got, want) || !slices.Equal(whole, wantWhole) || len(want) == 0 {
				t.Errorf("%s: got %v, then %v, and %v has become %v", name, want, again, whole, wantWhole)
			}
			overwrite(list, ingotWith("mark", 7, 7, 7))
			if !slices.Equal(got, want) {
				t.Errorf("%s: got %v, which has become %v", name, want, got)
			}
		}
	}
}
