package tests

import (
	"fmt"
	"math"
	"math/rand"
	"slices"
	"strings"
	"testing"

	"loop.example/g00952/impl"
)

// The limits of chapter 14 and a code of chapter 1, written out from the document.
const (
	maxMelts   = 12
	codeExists = 4
)

func meltWith(id string, mass int64, ingots ...string) impl.Melt {
	return impl.Melt{Id: id, Ingots: ingots, Mass: mass}
}

// meltNamed returns the Id of a melt of a long list, greater than those before.
func meltNamed(i int) string { return fmt.Sprintf("m%03d", i) }

// ingotNames returns the Ids of some ingots of a long list.
func ingotNames(from, to int) []string {
	var names []string
	for i := from; i < to; i++ {
		names = append(names, ingotNamed(i))
	}
	return names
}

// equalMelts returns some melts with as many ingots each, of which each one is in one melt only.
func equalMelts(count, ingots int, mass int64) []impl.Melt {
	var list []impl.Melt
	for i := range count {
		list = append(list, meltWith(meltNamed(i), mass, ingotNames(i*ingots, (i+1)*ingots)...))
	}
	return list
}

// goodMelts has valid melts, with each part at its limits.
func goodMelts() []impl.Melt {
	return []impl.Melt{
		meltWith("m1", 98000, "a", "b"), meltWith("a", 1, "a"), meltWith("abcdefghij", mostCharge, "abcdefghij"), meltWith("z999999999", mostCharge-1, "z999999999"), meltWith("m", 2, "a", "a0", "a9", "aa", "ab", "b", "zzzzzzzzzz"), meltWith("m", maxMass, "i10", "i2"), meltWith("m", maxMass+1, "c", "d"),
		meltWith("m", 5, ingotNames(0, 2)...), meltWith("m", 5, ingotNames(0, 15)...), meltWith("m", 5, ingotNames(0, 16)...), meltWith("m", mostCharge, ingotNames(984, 1000)...),
	}
}

// badMelts has melts that are not valid, each for one reason or for several.
func badMelts() []impl.Melt {
	bad := []impl.Melt{
		{}, {Ingots: []string{"a"}, Mass: 1}, {Id: "m", Mass: 1}, {Id: "m", Ingots: []string{}, Mass: 1}, {Id: "m", Ingots: []string{"a"}},
		meltWith("m", 5, ingotNames(0, 17)...), meltWith("m", 5, ingotNames(0, 18)...), meltWith("m", 5, ingotNames(0, 1000)...), meltWith("m", 5, make([]string, 16)...), meltWith("m", 5, append(ingotNames(0, 15), "")...),
		// ingots that are equal or falling, beside one another and at the ends
		meltWith("m", 5, "a", "a"), meltWith("m", 5, "a", "a", "b"), meltWith("m", 5, "a", "b", "b"), meltWith("m", 5, "b", "a"), meltWith("m", 5, "a", "c", "b"), meltWith("m", 5, "b", "a", "c"), meltWith("m", 5, "a", "b", "a"), meltWith("m", 5, "aa", "a"), meltWith("m", 5, "i2", "i10"), meltWith("m", 5, append(ingotNames(0, 15), "i")...), meltWith("m", 5, append(ingotNames(0, 15), "i014")...), meltWith("m", 5, append([]string{"j"}, ingotNames(0, 15)...)...), meltWith("m", 5, slices.Repeat([]string{"a"}, 16)...),
	}
	for _, name := range noNames {
		among := []string{"b", name, "y"}
		slices.Sort(among)
		bad = append(bad, meltWith(name, 5, "a"), meltWith("m", 5, name), meltWith("m", 5, among...), meltWith(name, 0, name))
	}
	for _, mass := range []int64{math.MinInt64, math.MinInt64 + 1, -mostCharge, -1, 0, mostCharge + 1, mostCharge + 2, 1 << 32, 1<<32 + 1, math.MaxInt64 - 1, math.MaxInt64} {
		bad = append(bad, meltWith("m", mass, "a"), meltWith("m", mass, ingotNames(0, 16)...), meltWith("", mass, "a"))
	}
	return bad
}

// areIncreasing reports whether each text is greater than the one before it.
func areIncreasing(texts []string) bool {
	return slices.IsSorted(texts) && len(slices.Compact(slices.Clone(texts))) == len(texts)
}

func isMelt(x impl.Melt) bool {
	return impl.IsName(x.Id) && len(x.Ingots) >= 1 && len(x.Ingots) <= maxIngots && areIncreasing(x.Ingots) && !slices.ContainsFunc(x.Ingots, func(id string) bool { return !impl.IsName(id) }) && x.Mass >= 1 && x.Mass <= mostCharge
}

// goodMeltLists has valid lists of melts: none, one, as many as possible, and with as many ingots as possible.
func goodMeltLists() [][]impl.Melt {
	lists := [][]impl.Melt{
		nil, {}, equalMelts(2, 1, 1), equalMelts(11, 1, 1), equalMelts(12, 1, mostCharge), equalMelts(12, 16, 7), equalMelts(3, 5, 49), equalMelts(4, 4, 1),
		{meltWith("a", 1, "a"), meltWith("a0", 2, "aa"), meltWith("aa", 3, "a0"), meltWith("abcdefghij", 4, "z"), meltWith("b", 5, "b"), meltWith("z999999999", 6, "c", "d"), meltWith("zzzzzzzzzz", 7, "y")},
		// ingots that lie between those of another melt, or before them
		{meltWith("m1", 1, "a", "c", "e"), meltWith("m2", 1, "b", "d", "f")}, {meltWith("m1", 1, "x", "y"), meltWith("m2", 1, "a", "b")}, {meltWith("m1", 1, "a", "z"), meltWith("m2", 1, "b"), meltWith("m3", 1, "aa")},
	}
	for _, x := range goodMelts() {
		lists = append(lists, []impl.Melt{x})
	}
	return lists
}

// badMeltLists has lists of melts that are not valid, each for one reason or for several.
func badMeltLists() [][]impl.Melt {
	lists := [][]impl.Melt{
		equalMelts(13, 1, 1), equalMelts(14, 16, 1), equalMelts(1000, 1, 1), make([]impl.Melt, 12), append(equalMelts(11, 1, 1), impl.Melt{}),
		// Ids that are equal or falling, beside one another and at the ends
		{meltWith("a", 1, "a"), meltWith("a", 1, "a")}, {meltWith("a", 1, "a"), meltWith("a", 2, "b")}, {meltWith("b", 1, "a"), meltWith("a", 1, "b")}, {meltWith("a", 1, "a"), meltWith("b", 1, "b"), meltWith("b", 1, "c")}, {meltWith("a", 1, "a"), meltWith("c", 1, "b"), meltWith("b", 1, "c")}, {meltWith("a", 1, "a"), meltWith("b", 1, "b"), meltWith("a", 1, "c")},
		{meltWith("aa", 1, "a"), meltWith("a", 1, "b")}, {meltWith("m2", 1, "a"), meltWith("m10", 1, "b")}, append(equalMelts(11, 1, 1), meltWith("m", 1, "a")), append(equalMelts(11, 1, 1), meltWith("m010", 1, "a")),
		// an ingot in common: the only one, the first, a middle and the last one, and all
		{meltWith("a", 1, "a"), meltWith("b", 1, "a")}, {meltWith("a", 1, "a", "b"), meltWith("b", 1, "b", "c")}, {meltWith("a", 1, "b", "c"), meltWith("b", 1, "a", "b")}, {meltWith("a", 1, "b"), meltWith("b", 1, "a", "b", "c")}, {meltWith("a", 1, "a", "b", "c"), meltWith("b", 1, "b")}, {meltWith("a", 1, "a", "b", "c"), meltWith("b", 1, "a", "d", "e")}, {meltWith("a", 1, "a", "b"), meltWith("b", 1, "a", "b")},
		{meltWith("a", 1, "a"), meltWith("b", 1, "b"), meltWith("c", 1, "a")}, {meltWith("a", 1, "c"), meltWith("b", 1, "a"), meltWith("c", 1, "a")}, {meltWith("a", 1, "c", "d"), meltWith("b", 1, "a"), meltWith("c", 1, "b", "d")},
		append(equalMelts(11, 1, 1), meltWith("n", 1, "i000")), append(equalMelts(11, 16, 1), meltWith("n", 1, "i005")), append(equalMelts(11, 16, 1), meltWith("n", 1, "i175")), append([]impl.Melt{meltWith("l", 1, "i010")}, equalMelts(11, 1, 1)...), append([]impl.Melt{meltWith("l", 1, "a", "i006", "z")}, equalMelts(11, 1, 1)...),
	}
	for _, x := range badMelts() {
		before, after := meltWith("a", 5, "oa"), meltWith("zz", 5, "oz")
		lists = append(lists, []impl.Melt{x}, []impl.Melt{x, after}, []impl.Melt{before, x}, []impl.Melt{before, x, after})
	}
	return lists
}

func areMelts(list []impl.Melt) bool {
	var ids, ingots []string
	for _, x := range list {
		if !isMelt(x) {
			return false
		}
		ids, ingots = append(ids, x.Id), append(ingots, x.Ingots...)
	}
	slices.Sort(ingots)
	return len(list) <= maxMelts && areIncreasing(ids) && areIncreasing(ingots)
}

func sameMelt(a, b impl.Melt) bool {
	return a.Id == b.Id && a.Mass == b.Mass && slices.Equal(a.Ingots, b.Ingots)
}

func sameMelts(a, b []impl.Melt) bool { return slices.EqualFunc(a, b, sameMelt) }

func noMelt(x impl.Melt) bool { return sameMelt(x, impl.Melt{}) }

// cloneMelts returns melts that share nothing with those of a list.
func cloneMelts(list []impl.Melt) []impl.Melt {
	var clones []impl.Melt
	for _, x := range list {
		clones = append(clones, meltWith(x.Id, x.Mass, slices.Clone(x.Ingots)...))
	}
	return clones
}

// placesModel returns the places of the ingots of a melt among others; false if one is not there.
func placesModel(ingots []impl.Ingot, x impl.Melt) ([]int64, bool) {
	var places []int64
	for _, id := range x.Ingots {
		at := slices.IndexFunc(ingots, func(ingot impl.Ingot) bool { return ingot.Id == id })
		if at < 0 {
			return nil, false
		}
		places = append(places, int64(at))
	}
	return places, true
}

// allExist reports whether all ingots of some melts are there.
func allExist(ingots []impl.Ingot, list ...impl.Melt) bool {
	return !slices.ContainsFunc(list, func(x impl.Melt) bool {
		_, ok := placesModel(ingots, x)
		return !ok
	})
}

// metalOfModel returns the metal of a melt whose ingots are all there.
func metalOfModel(ingots []impl.Ingot, x impl.Melt) int64 {
	places, _ := placesModel(ingots, x)
	return chargeMass(ingots, places)
}

// mostModel returns how much of a metal can be poured.
func mostModel(metal int64) int64 { return metal - nearestModel(productOf(metal, 20000), 1000000) }

// isTooMuch reports whether the Mass of a melt is too great for its metal.
func isTooMuch(ingots []impl.Ingot, x impl.Melt) bool {
	return x.Mass > mostModel(metalOfModel(ingots, x))
}

// arePossible reports whether some melts can be made.
func arePossible(ingots []impl.Ingot, list []impl.Melt) bool {
	return areIngots(ingots) && areMelts(list) && allExist(ingots, list...) && !slices.ContainsFunc(list, func(x impl.Melt) bool { return isTooMuch(ingots, x) })
}

// usedIngots returns the ingots that some melts have.
func usedIngots(list []impl.Melt) []string {
	var used []string
	for _, x := range list {
		used = append(used, x.Ingots...)
	}
	return used
}

// questionModel returns the code of the questions about some melts: ErrInvalid, ErrNotFound or OK.
func questionModel(ingots []impl.Ingot, list ...impl.Melt) int64 {
	if !areIngots(ingots) || slices.ContainsFunc(list, func(x impl.Melt) bool { return !isMelt(x) }) {
		return codeInvalid
	}
	if !allExist(ingots, list...) {
		return codeMissing
	}
	return codeOK
}

// unusedModel returns what UnusedIngots must return.
func unusedModel(ingots []impl.Ingot, list []impl.Melt) ([]string, int64) {
	code := questionModel(ingots, list...)
	if !areMelts(list) {
		code = codeInvalid
	}
	if code != codeOK {
		return nil, code
	}
	var unused []string
	for _, ingot := range ingots {
		if !slices.Contains(usedIngots(list), ingot.Id) {
			unused = append(unused, ingot.Id)
		}
	}
	return unused, codeOK
}

// lossModel returns what LossOf must return.
func lossModel(ingots []impl.Ingot, list []impl.Melt) (int64, int64) {
	if _, code := unusedModel(ingots, list); code != codeOK {
		return 0, code
	}
	if !arePossible(ingots, list) {
		return 0, codeState
	}
	loss := int64(0)
	for _, x := range list {
		loss += metalOfModel(ingots, x) - x.Mass
	}
	return loss, codeOK
}

// addMeltModel returns what AddMelt must return.
func addMeltModel(ingots []impl.Ingot, list []impl.Melt, x impl.Melt) ([]impl.Melt, int64) {
	switch {
	case !areIngots(ingots) || !areMelts(list) || !isMelt(x):
		return nil, codeInvalid
	case !allExist(ingots, append(slices.Clone(list), x)...):
		return nil, codeMissing
	case isTooMuch(ingots, x):
		return nil, codeState
	case slices.ContainsFunc(list, func(other impl.Melt) bool { return other.Id == x.Id }):
		return nil, codeExists
	case slices.ContainsFunc(usedIngots(list), func(id string) bool { return slices.Contains(x.Ingots, id) }):
		return nil, codeOrder
	case len(list) >= maxMelts:
		return nil, codeFull
	}
	more := append(cloneMelts(list), x)
	slices.SortFunc(more, func(a, b impl.Melt) int { return strings.Compare(a.Id, b.Id) })
	return more, codeOK
}

// dropMeltModel returns what DropMelt must return.
func dropMeltModel(list []impl.Melt, id string) ([]impl.Melt, int64) {
	if !areMelts(list) {
		return nil, codeInvalid
	}
	less := slices.DeleteFunc(cloneMelts(list), func(x impl.Melt) bool { return x.Id == id })
	if len(less) == len(list) {
		return nil, codeMissing
	}
	return less, codeOK
}

// checkMelts holds melts and a code against those that they must be.
func checkMelts(t *testing.T, what string, got []impl.Melt, code int64, want []impl.Melt, wantCode int64) {
	t.Helper()
	if !sameMelts(got, want) || code != wantCode {
		t.Errorf("%s: got %v %d, want %v %d", what, got, code, want, wantCode)
	}
}

// checkShop holds all functions with ingots against the models.
func checkShop(t *testing.T, ingots []impl.Ingot, list []impl.Melt, x impl.Melt) {
	t.Helper()
	what := fmt.Sprintf("%v, %v, %v", ingots, list, x)
	for _, melt := range append(slices.Clone(list), x) {
		want, wantAlloy, wantCode := int64(0), impl.Alloy{}, questionModel(ingots, melt)
		if wantCode == codeOK {
			places, _ := placesModel(ingots, melt)
			want, wantAlloy = metalOfModel(ingots, melt), mixModel(ingots, places)
		}
		got, code := impl.MetalOf(ingots, melt)
		checkNumber(t, "MetalOf: "+what, got, code, want, wantCode)
		got, code = impl.MostFrom(ingots, melt)
		checkNumber(t, "MostFrom: "+what, got, code, mostModel(want), wantCode)
		if alloy, code := impl.AlloyOfMelt(ingots, melt); alloy != wantAlloy || code != wantCode {
			t.Errorf("AlloyOfMelt: %s: got %v %d, want %v %d", what, alloy, code, wantAlloy, wantCode)
		}
	}
	if got := impl.PossibleMelts(ingots, list); got != arePossible(ingots, list) {
		t.Errorf("PossibleMelts: %s: got %v", what, got)
	}
	wantUnused, wantCode := unusedModel(ingots, list)
	if got, code := impl.UnusedIngots(ingots, list); !slices.Equal(got, wantUnused) || code != wantCode {
		t.Errorf("UnusedIngots: %s: got %q %d, want %q %d", what, got, code, wantUnused, wantCode)
	}
	wantLoss, wantCode := lossModel(ingots, list)
	got, code := impl.LossOf(ingots, list)
	checkNumber(t, "LossOf: "+what, got, code, wantLoss, wantCode)
	wantMelts, wantCode := addMeltModel(ingots, list, x)
	melts, code := impl.AddMelt(ingots, list, x)
	checkMelts(t, "AddMelt: "+what, melts, code, wantMelts, wantCode)
}

// randomMass returns what is poured from a melt: mostly as much as there is, often exactly so, and sometimes too much.
func randomMass(random *rand.Rand, ingots []impl.Ingot, ids []string) int64 {
	most := mostModel(metalOfModel(ingots, meltWith("m", 1, ids...)))
	switch random.Intn(8) {
	case 0:
		return min(mostCharge, most+1)
	case 1:
		return 1
	case 2, 3, 4:
		return 1 + random.Int63n(max(1, most))
	}
	return max(1, most)
}

// randomShop returns ingots, melts of them, and a further melt, which can often be added.
func randomShop(random *rand.Rand) ([]impl.Ingot, []impl.Melt, impl.Melt) {
	var ingots []impl.Ingot
	most := []int64{3, 80, 1000, maxMass}[random.Intn(4)]
	for i := range 2 + random.Intn(15) {
		tin := random.Int63n(wholeAlloy + 1)
		ingots = append(ingots, ingotWith(ingotNamed(i), 1+random.Int63n(most), tin, random.Int63n(wholeAlloy-tin+1)))
	}
	ids := ingotNames(0, len(ingots))
	if random.Intn(8) == 0 {
		ids = append(ids, []string{"h", "i0005", "i999", "z"}[random.Intn(4)])
	}
	random.Shuffle(len(ids), func(a, b int) { ids[a], ids[b] = ids[b], ids[a] })
	cut := func() []string {
		size := min(1+random.Intn(1+random.Intn(4)), len(ids)-1)
		some := slices.Sorted(slices.Values(ids[:size]))
		ids = ids[size:]
		return some
	}
	var list []impl.Melt
	for len(ids) > 1 && len(list) < maxMelts && random.Intn(9) > 0 {
		some := cut()
		list = append(list, meltWith(meltNamed(2*len(list)), randomMass(random, ingots, some), some...))
	}
	some := slices.Sorted(slices.Values(ids[:1+random.Intn(min(len(ids), maxIngots))]))
	if len(list) > 0 && random.Intn(6) == 0 {
		used := list[random.Intn(len(list))].Ingots[0]
		some = slices.Sorted(slices.Values(append(some[1:], used)))
	}
	id := meltNamed(2*random.Intn(maxMelts) + 1)
	if random.Intn(8) == 0 {
		id = meltNamed(2 * random.Intn(len(list)+1))
	}
	return ingots, list, meltWith(id, randomMass(random, ingots, some), some...)
}

func TestP15Constants(t *testing.T) {
	got := []int64{impl.MaxMelts, impl.LossShare}
	if want := []int64{12, 20000}; !slices.Equal(got, want) {
		t.Errorf("constants: got %v, want %v", got, want)
	}
}

// TestP15Example is the example of the chapter: of 100000 grams of metal 98000 can be poured.
func TestP15Example(t *testing.T) {
	for _, masses := range [][]int64{{100000}, {60000, 40000}, {40000, 60000}, {1, 99999}, {1, 2, 3, 99994}, slices.Repeat([]int64{6250}, 16)} {
		ingots := ingotsOf(masses...)
		ids := ingotNames(0, len(masses))
		for _, mass := range []int64{1, 97999, 98000, 98001, mostCharge} {
			x := meltWith("m", mass, ids...)
			metal, code := impl.MetalOf(ingots, x)
			checkNumber(t, fmt.Sprintf("MetalOf %v", masses), metal, code, 100000, codeOK)
			most, code := impl.MostFrom(ingots, x)
			checkNumber(t, fmt.Sprintf("MostFrom %v", masses), most, code, 98000, codeOK)
			if got := impl.PossibleMelts(ingots, []impl.Melt{x}); got != (mass <= 98000) {
				t.Errorf("PossibleMelts of %d grams of %v: got %v", mass, masses, got)
			}
		}
	}
}

func TestP15ValidMelt(t *testing.T) {
	for _, x := range goodMelts() {
		if !impl.ValidMelt(x) || !isMelt(x) {
			t.Errorf("ValidMelt(%v): got false", x)
		}
	}
	for _, x := range badMelts() {
		if impl.ValidMelt(x) || isMelt(x) {
			t.Errorf("ValidMelt(%v): got true", x)
		}
	}
	for count := range 100 {
		if got := impl.ValidMelt(meltWith("m", 5, ingotNames(0, count)...)); got != (count >= 1 && count <= 16) {
			t.Errorf("ValidMelt of %d ingots: got %v", count, got)
		}
	}
	for _, mass := range append(slices.Clone(edgeNumbers), maxMass, maxMass+1, mostCharge-1, mostCharge, mostCharge+1) {
		if got, want := impl.ValidMelt(meltWith("m", mass, "a")), mass >= 1 && mass <= 320000000; got != want {
			t.Errorf("ValidMelt with the Mass %d: got %v", mass, got)
		}
	}
	for _, id := range append([]string{"a", "a0", "m", "abcdefghij", "z9"}, noNames...) {
		if got := impl.ValidMelt(meltWith(id, 5, "a")); got != impl.IsName(id) {
			t.Errorf("ValidMelt with the Id %q: got %v", id, got)
		}
	}
	checkNamePairs(t, "ValidMelt", func(before, after string) bool { return impl.ValidMelt(meltWith("m", 5, before, after)) })
}

func TestP15ValidMelts(t *testing.T) {
	for _, list := range goodMeltLists() {
		if !impl.ValidMelts(list) || !areMelts(list) {
			t.Errorf("ValidMelts(%v): got false", list)
		}
	}
	for _, list := range badMeltLists() {
		if impl.ValidMelts(list) || areMelts(list) {
			t.Errorf("ValidMelts(%v): got true", list)
		}
	}
	for count := range 30 {
		for _, ingots := range []int{1, 16} {
			if got := impl.ValidMelts(equalMelts(count, ingots, 5)); got != (count <= 12) {
				t.Errorf("ValidMelts of %d melts: got %v", count, got)
			}
		}
	}
	checkNamePairs(t, "ValidMelts", func(before, after string) bool {
		return impl.ValidMelts([]impl.Melt{meltWith(before, 5, "a"), meltWith(after, 5, "b")})
	})
}

// TestP15CommonIngots: no two melts may have an ingot in common, wherever it is in both and however far apart they are.
func TestP15CommonIngots(t *testing.T) {
	for a := range maxMelts {
		for b := range maxMelts {
			for _, places := range [][2]int{{0, 0}, {0, 2}, {2, 0}, {1, 1}, {2, 2}} {
				list := equalMelts(maxMelts, 3, 5)
				list[a].Ingots[places[0]] = list[b].Ingots[places[1]]
				slices.Sort(list[a].Ingots)
				if got, want := impl.ValidMelts(list), a == b && places[0] == places[1]; got != want || areMelts(list) != want {
					t.Errorf("ValidMelts(%v): got %v", list, got)
				}
			}
		}
	}
}

func TestP15SameMelts(t *testing.T) {
	three := func() []impl.Melt {
		return []impl.Melt{meltWith("m1", 10, "a", "b"), meltWith("m2", 20, "c"), meltWith("m3", 30, "d", "e", "f")}
	}
	var others [][]impl.Melt
	for i := range three() {
		for _, change := range []func(x *impl.Melt){
			func(x *impl.Melt) { x.Id += "a" }, func(x *impl.Melt) { x.Id = "" }, func(x *impl.Melt) { x.Mass++ }, func(x *impl.Melt) { x.Mass = -x.Mass }, func(x *impl.Melt) { x.Mass += 1 << 32 },
			func(x *impl.Melt) { x.Ingots[0] = "B" }, func(x *impl.Melt) { x.Ingots[len(x.Ingots)-1] += "a" }, func(x *impl.Melt) { x.Ingots = append(x.Ingots, "z") }, func(x *impl.Melt) { x.Ingots = x.Ingots[1:] }, func(x *impl.Melt) { x.Ingots = append(x.Ingots, x.Ingots[0]) }, func(x *impl.Melt) { x.Ingots = []string{strings.Join(append(x.Ingots, ""), ",")} }, func(x *impl.Melt) { slices.Reverse(x.Ingots); x.Ingots[0] = "y" },
		} {
			list := three()
			change(&list[i])
			others = append(others, list)
		}
	}
	whole := three()
	others = append(others, nil, whole[:1], whole[:2], whole[1:], append(three(), meltWith("m4", 1, "g")), append(three(), impl.Melt{}), append(three(), whole[2]), []impl.Melt{whole[1], whole[0], whole[2]}, []impl.Melt{whole[0], whole[2], whole[1]}, make([]impl.Melt, 3))
	for _, list := range others {
		if impl.SameMelts(three(), list) || impl.SameMelts(list, three()) {
			t.Errorf("SameMelts(%v, %v): got true", three(), list)
		}
	}
	lists := slices.Concat([][]impl.Melt{three()}, others, goodMeltLists(), badMeltLists())
	for i, a := range lists {
		if !impl.SameMelts(a, cloneMelts(a)) || !impl.SameMelts(cloneMelts(a), a) {
			t.Errorf("SameMelts(%v) of a copy: got false", a)
		}
		for _, b := range lists[i:] {
			if got, back, want := impl.SameMelts(a, b), impl.SameMelts(b, a), sameMelts(a, b); got != want || back != want {
				t.Errorf("SameMelts(%v, %v): got %v, and %v in the other order", a, b, got, back)
			}
		}
	}
	// nil and empty slices are equivalent, also inside of a melt
	if !impl.SameMelts(nil, []impl.Melt{}) || !impl.SameMelts([]impl.Melt{{Id: "a"}}, []impl.Melt{{Id: "a", Ingots: []string{}}}) {
		t.Error("SameMelts of nil and an empty slice: got false")
	}
	if impl.SameMelts([]impl.Melt{meltWith("a", 1, "ab", "c")}, []impl.Melt{meltWith("a", 1, "a", "bc")}) || impl.SameMelts([]impl.Melt{meltWith("a", 1, "a,b")}, []impl.Melt{meltWith("a", 1, "a", "b")}) || impl.SameMelts([]impl.Melt{meltWith("a", 1)}, []impl.Melt{meltWith("a", 1, "")}) {
		t.Error("SameMelts of other ingots: got true")
	}
}

// TestP15MostFrom: the loss is the nearest quotient of the whole metal, and an exact half is rounded up.
func TestP15MostFrom(t *testing.T) {
	for _, c := range []struct {
		masses []int64
		want   int64
	}{
		{[]int64{1}, 1}, {[]int64{2}, 2}, {[]int64{24}, 24}, {[]int64{25}, 24}, {[]int64{26}, 25}, {[]int64{49}, 48}, {[]int64{50}, 49}, {[]int64{51}, 50}, {[]int64{74}, 73}, {[]int64{75}, 73}, {[]int64{76}, 74}, {[]int64{99}, 97}, {[]int64{100}, 98}, {[]int64{124}, 122}, {[]int64{125}, 122}, {[]int64{126}, 123}, {[]int64{1000}, 980}, {[]int64{1001}, 981}, {[]int64{1024}, 1004}, {[]int64{1025}, 1004}, {[]int64{1026}, 1005},
		{[]int64{maxMass}, 19600000}, {[]int64{19999999}, 19599999}, {[]int64{19999976}, 19599976}, {[]int64{19999975}, 19599975}, {[]int64{19999974}, 19599975},
		// many ingots: what is rounded is the quotient of their sum
		{[]int64{12, 12}, 24}, {[]int64{10, 15}, 24}, {[]int64{24, 24}, 47}, {[]int64{25, 25}, 49}, {[]int64{25, 25, 25}, 73}, {[]int64{1, 24}, 24}, {[]int64{24, 1}, 24}, {slices.Repeat([]int64{1}, 16), 16}, {slices.Repeat([]int64{25}, 16), 392}, {slices.Repeat([]int64{24}, 16), 376}, {slices.Repeat([]int64{26}, 16), 408}, {slices.Repeat([]int64{maxMass}, 16), 313600000}, {slices.Repeat([]int64{maxMass}, 15), 294000000}, {append(slices.Repeat([]int64{maxMass}, 15), 19999975), 313599975}, {append(slices.Repeat([]int64{maxMass}, 15), 19999974), 313599975}, {append(slices.Repeat([]int64{maxMass}, 15), 1), 294000001},
	} {
		ingots, metal := ingotsOf(c.masses...), int64(0)
		for _, mass := range c.masses {
			metal += mass
		}
		x := meltWith("m", 1, ingotNames(0, len(c.masses))...)
		got, code := impl.MetalOf(ingots, x)
		checkNumber(t, fmt.Sprintf("MetalOf %v", c.masses), got, code, metal, codeOK)
		got, code = impl.MostFrom(ingots, x)
		checkNumber(t, fmt.Sprintf("MostFrom %v", c.masses), got, code, c.want, codeOK)
		if mostModel(metal) != c.want {
			t.Errorf("the model of the tests has %d for %v", mostModel(metal), c.masses)
		}
	}
	for metal := int64(1); metal <= 3000; metal++ {
		got, code := impl.MostFrom(ingotsOf(metal), meltWith("m", 1, "i000"))
		checkNumber(t, fmt.Sprintf("MostFrom %d", metal), got, code, mostModel(metal), codeOK)
	}
}

// TestP15MassOfAMelt: the Mass of a melt can be exactly as great as MostFrom tells, and not one more.
func TestP15MassOfAMelt(t *testing.T) {
	for _, masses := range [][]int64{{1}, {24}, {25}, {26}, {49}, {74}, {75}, {76}, {100}, {1000}, {12, 13}, {60000, 40000}, {maxMass}, {19999974}, {19999975}, slices.Repeat([]int64{25}, 16), slices.Repeat([]int64{maxMass}, 15), slices.Repeat([]int64{maxMass}, 16)} {
		ingots, ids := ingotsOf(masses...), ingotNames(0, len(masses))
		most, _ := impl.MostFrom(ingots, meltWith("m", 1, ids...))
		for _, mass := range []int64{1, most - 1, most, most + 1, most + 2, mostCharge} {
			if mass < 1 {
				continue
			}
			x := meltWith("m", mass, ids...)
			possible, wantCode := mass <= most, int64(codeOK)
			if !possible {
				wantCode = codeState
			}
			if got := impl.PossibleMelts(ingots, []impl.Melt{x}); got != possible {
				t.Errorf("PossibleMelts of %d grams of %v: got %v", mass, masses, got)
			}
			if got, code := impl.AddMelt(ingots, nil, x); code != wantCode || possible != sameMelts(got, []impl.Melt{x}) {
				t.Errorf("AddMelt of %d grams of %v: got %v %d", mass, masses, got, code)
			}
			if _, code := impl.LossOf(ingots, []impl.Melt{x}); code != wantCode {
				t.Errorf("LossOf %d grams of %v: got %d", mass, masses, code)
			}
			checkShop(t, ingots, []impl.Melt{x}, meltWith("n", 1, "i000"))
			checkShop(t, ingots, nil, x)
		}
	}
}

// TestP15AlloyOfMelt: the alloy is that of MixOf, whatever the Mass of the melt is.
func TestP15AlloyOfMelt(t *testing.T) {
	for _, c := range []struct {
		ids  []string
		want impl.Alloy
	}{
		{[]string{"a"}, bronze(200000, 0)}, {[]string{"b"}, bronze(220000, 0)}, {[]string{"c"}, bronze(1000000, 0)}, {[]string{"d"}, bronze(0, 0)}, {[]string{"a", "b"}, bronze(215000, 0)}, {[]string{"b", "d"}, bronze(188571, 0)}, {[]string{"a", "b", "d"}, bronze(191111, 0)}, {[]string{"a", "b", "c", "d"}, bronze(440000, 0)},
	} {
		for _, mass := range []int64{1, 500, 7000, mostCharge} {
			if got, code := impl.AlloyOfMelt(bellIngots(), meltWith("m", mass, c.ids...)); got != c.want || code != codeOK {
				t.Errorf("AlloyOfMelt of %q: got %v %d, want %v", c.ids, got, code, c.want)
			}
		}
	}
	random := rand.New(rand.NewSource(141))
	for range 500 {
		ingots, _, x := randomShop(random)
		places, ok := placesModel(ingots, x)
		if !ok {
			continue
		}
		want, mass, _ := impl.MixOf(ingots, places)
		if got, code := impl.AlloyOfMelt(ingots, x); got != want || code != codeOK {
			t.Errorf("AlloyOfMelt(%v, %v): got %v %d, want %v", ingots, x, got, code, want)
		}
		got, code := impl.MetalOf(ingots, x)
		checkNumber(t, fmt.Sprintf("MetalOf(%v, %v)", ingots, x), got, code, mass, codeOK)
	}
}

// TestP15MissingIngots: an ingot that does not exist is ErrNotFound, before, between and behind those that do, and beside each of them.
func TestP15MissingIngots(t *testing.T) {
	ingots := []impl.Ingot{ingotWith("b", 100, 0, 0), ingotWith("d", 100, 0, 0), ingotWith("f", 100, 0, 0)}
	for _, missing := range []string{"a", "ab", "b0", "bb", "c", "da", "e", "f0", "g", "z"} {
		for _, there := range [][]string{nil, {"b"}, {"d"}, {"f"}, {"b", "d"}, {"b", "f"}, {"d", "f"}, {"b", "d", "f"}} {
			ids := append(slices.Clone(there), missing)
			slices.Sort(ids)
			for _, mass := range []int64{1, mostCharge} {
				x := meltWith("m", mass, ids...)
				checkShop(t, ingots, nil, x)
				checkShop(t, ingots, []impl.Melt{x}, meltWith("n", 1, "b"))
				if metal, code := impl.MetalOf(ingots, x); metal != 0 || code != codeMissing {
					t.Errorf("MetalOf %q: got %d %d", ids, metal, code)
				}
				if list, code := impl.AddMelt(ingots, nil, x); len(list) > 0 || code != codeMissing {
					t.Errorf("AddMelt of %q: got %v %d", ids, list, code)
				}
				// one that is missing in the list, in x, and in both
				if list, code := impl.AddMelt(ingots, []impl.Melt{x}, meltWith("n", 1, "b")); len(list) > 0 || code != codeMissing {
					t.Errorf("AddMelt to %q: got %v %d", ids, list, code)
				}
				if list, code := impl.AddMelt(ingots, []impl.Melt{meltWith("l", 1, "zz")}, x); len(list) > 0 || code != codeMissing {
					t.Errorf("AddMelt of %q: got %v %d", ids, list, code)
				}
				if unused, code := impl.UnusedIngots(ingots, []impl.Melt{x}); len(unused) > 0 || code != codeMissing {
					t.Errorf("UnusedIngots beside %q: got %q %d", ids, unused, code)
				}
				if loss, code := impl.LossOf(ingots, []impl.Melt{meltWith("l", mostCharge, "zz"), x}); loss != 0 || code != codeMissing {
					t.Errorf("LossOf %q: got %d %d", ids, loss, code)
				}
			}
		}
	}
	for _, x := range goodMelts() {
		checkShop(t, nil, nil, x)
		checkShop(t, nil, []impl.Melt{x}, x)
	}
	// the first, a middle and the last melt of a full list
	for place := range maxMelts {
		list := equalMelts(maxMelts, 1, 1)
		list[place].Ingots = []string{"q"}
		checkShop(t, equalIngots(16, 50), list, meltWith("x", 1, "i015"))
		if unused, code := impl.UnusedIngots(equalIngots(16, 50), list); len(unused) > 0 || code != codeMissing {
			t.Errorf("UnusedIngots(%v): got %q %d", list, unused, code)
		}
	}
}

// TestP15AddMelt adds melts at all places of lists, and to lists that are full.
func TestP15AddMelt(t *testing.T) {
	ingots := equalIngots(16, 100)
	for count := range maxMelts + 1 {
		for place := range count + 1 {
			list := equalMelts(count, 1, 98)
			id := "a"
			if place > 0 {
				id = meltNamed(place-1) + "a"
			}
			x := meltWith(id, 196, "i014", "i015")
			got, code := impl.AddMelt(ingots, list, x)
			if count == maxMelts {
				checkMelts(t, fmt.Sprintf("AddMelt to %d melts", count), got, code, nil, codeFull)
				continue
			}
			checkMelts(t, fmt.Sprintf("AddMelt to %d melts at %d", count, place), got, code, slices.Insert(cloneMelts(list), place, x), codeOK)
			less, code := impl.DropMelt(got, id)
			checkMelts(t, fmt.Sprintf("DropMelt of %d", place), less, code, list, codeOK)
		}
	}
	got, code := impl.AddMelt(ingots, nil, meltWith("m", 1568, ingotNames(0, 16)...))
	checkMelts(t, "AddMelt of all ingots", got, code, []impl.Melt{meltWith("m", 1568, ingotNames(0, 16)...)}, codeOK)
	// melts of a list that are not possible keep no other one from being added
	list := []impl.Melt{meltWith("m000", 99, "i000"), meltWith("m001", mostCharge, "i001")}
	got, code = impl.AddMelt(ingots, list, meltWith("x", 98, "i002"))
	checkMelts(t, "AddMelt to melts that are not possible", got, code, append(cloneMelts(list), meltWith("x", 98, "i002")), codeOK)
	if impl.PossibleMelts(ingots, list) || impl.PossibleMelts(ingots, got) {
		t.Errorf("PossibleMelts(%v): got true", got)
	}
	if loss, code := impl.LossOf(ingots, got); loss != 0 || code != codeState {
		t.Errorf("LossOf(%v): got %d %d", got, loss, code)
	}
}

func TestP15DropMelt(t *testing.T) {
	for count := range maxMelts + 1 {
		list := equalMelts(count, 2, mostCharge)
		for place := range count {
			got, code := impl.DropMelt(list, meltNamed(place))
			checkMelts(t, fmt.Sprintf("DropMelt of %d of %d", place, count), got, code, slices.Delete(cloneMelts(list), place, place+1), codeOK)
		}
		for _, id := range append([]string{"a", "m", "m000a", "m0000", "m001a", "m012", "m999", "n", "i000", "M000"}, noNames...) {
			got, code := impl.DropMelt(list, id)
			checkMelts(t, fmt.Sprintf("DropMelt of %q of %d", id, count), got, code, nil, codeMissing)
		}
	}
	for _, list := range goodMeltLists() {
		for _, x := range list {
			got, code := impl.DropMelt(list, x.Id)
			want, wantCode := dropMeltModel(list, x.Id)
			checkMelts(t, fmt.Sprintf("DropMelt(%v, %q)", list, x.Id), got, code, want, wantCode)
		}
	}
	// a list that is not valid is ErrInvalid, whether there is a melt with the Id or not
	for _, list := range badMeltLists() {
		for _, id := range append([]string{"a", "m", "zz", "m000", "m012", "q", list[0].Id, list[len(list)-1].Id}, noNames[:3]...) {
			got, code := impl.DropMelt(list, id)
			checkMelts(t, fmt.Sprintf("DropMelt(%v, %q)", list, id), got, code, nil, codeInvalid)
		}
	}
}

func TestP15UnusedIngots(t *testing.T) {
	ingots := bellIngots()
	for _, c := range []struct {
		list []impl.Melt
		want []string
	}{
		{nil, []string{"a", "b", "c", "d"}}, {[]impl.Melt{}, []string{"a", "b", "c", "d"}}, {[]impl.Melt{meltWith("m", 1, "a")}, []string{"b", "c", "d"}}, {[]impl.Melt{meltWith("m", 1, "b", "c")}, []string{"a", "d"}}, {[]impl.Melt{meltWith("m", 1, "d")}, []string{"a", "b", "c"}}, {[]impl.Melt{meltWith("m", 1, "a", "b", "c", "d")}, nil},
		{[]impl.Melt{meltWith("m", 1, "d"), meltWith("n", 1, "a")}, []string{"b", "c"}}, {[]impl.Melt{meltWith("m", 1, "b", "d"), meltWith("n", 1, "a", "c")}, nil}, {[]impl.Melt{meltWith("m", 1, "d"), meltWith("n", 1, "c"), meltWith("o", 1, "b"), meltWith("p", 1, "a")}, nil},
		// what is poured is not asked
		{[]impl.Melt{meltWith("m", mostCharge, "a")}, []string{"b", "c", "d"}},
	} {
		if got, code := impl.UnusedIngots(ingots, c.list); !slices.Equal(got, c.want) || code != codeOK {
			t.Errorf("UnusedIngots(%v): got %q %d, want %q", c.list, got, code, c.want)
		}
	}
	if got, code := impl.UnusedIngots(nil, nil); len(got) > 0 || code != codeOK {
		t.Errorf("UnusedIngots of nothing: got %q %d", got, code)
	}
	for count := range maxMelts + 1 {
		if got, code := impl.UnusedIngots(equalIngots(16, 5), equalMelts(count, 1, 5)); !slices.Equal(got, ingotNames(count, 16)) || code != codeOK {
			t.Errorf("UnusedIngots beside %d melts: got %q %d", count, got, code)
		}
	}
}

func TestP15LossOf(t *testing.T) {
	ingots := equalIngots(16, 100)
	for _, c := range []struct {
		list []impl.Melt
		want int64
		code int64
	}{
		{nil, 0, codeOK}, {[]impl.Melt{meltWith("m", 98, "i000")}, 2, codeOK}, {[]impl.Melt{meltWith("m", 1, "i000")}, 99, codeOK}, {[]impl.Melt{meltWith("m", 99, "i000")}, 0, codeState}, {[]impl.Melt{meltWith("m", 99, "i000", "i001")}, 101, codeOK}, {[]impl.Melt{meltWith("m", 1568, ingotNames(0, 16)...)}, 32, codeOK}, {[]impl.Melt{meltWith("m", 1569, ingotNames(0, 16)...)}, 0, codeState},
		{equalMelts(2, 1, 98), 4, codeOK}, {equalMelts(12, 1, 98), 24, codeOK}, {equalMelts(12, 1, 1), 1188, codeOK}, {equalMelts(12, 1, 99), 0, codeState}, {equalMelts(4, 4, 392), 32, codeOK}, {equalMelts(4, 4, 393), 0, codeState},
		// a melt beside one that is too great loses nothing, and makes up for nothing
		{[]impl.Melt{meltWith("m", 99, "i000"), meltWith("n", 1, "i001")}, 0, codeState}, {[]impl.Melt{meltWith("m", 1, "i000"), meltWith("n", 99, "i001")}, 0, codeState}, {[]impl.Melt{meltWith("m", 1, "i000"), meltWith("n", 99, "i001"), meltWith("o", 1, "i002")}, 0, codeState},
	} {
		got, code := impl.LossOf(ingots, c.list)
		checkNumber(t, fmt.Sprintf("LossOf(%v)", c.list), got, code, c.want, c.code)
		checkShop(t, ingots, c.list, meltWith("x", 1, "i015"))
	}
	great := []impl.Melt{meltWith("m", 1, ingotNames(0, 16)...)}
	got, code := impl.LossOf(equalIngots(16, maxMass), great)
	checkNumber(t, "LossOf all metal", got, code, mostCharge-1, codeOK)
}

// defect is something that is wrong when a melt is added, and the code for it.
type defect struct {
	name string
	code int64
	make func(ingots *[]impl.Ingot, list *[]impl.Melt, x *impl.Melt)
}

// addDefects has what can be wrong when a melt is added, in the order of the codes. Each can be made beside all others.
func addDefects() []defect {
	return []defect{
		{"ingots that are not valid", codeInvalid, func(ingots *[]impl.Ingot, _ *[]impl.Melt, _ *impl.Melt) { (*ingots)[0].Mass = 0 }},
		{"a list that is not valid", codeInvalid, func(_ *[]impl.Ingot, list *[]impl.Melt, _ *impl.Melt) { (*list)[9].Mass = mostCharge + 1 }},
		{"two melts with an ingot in common", codeInvalid, func(_ *[]impl.Ingot, list *[]impl.Melt, _ *impl.Melt) { (*list)[8].Ingots = []string{"i001"} }},
		{"a melt that is not valid", codeInvalid, func(_ *[]impl.Ingot, _ *[]impl.Melt, x *impl.Melt) { x.Ingots = append(x.Ingots, "a") }},
		{"an ingot of the list that does not exist", codeMissing, func(_ *[]impl.Ingot, list *[]impl.Melt, _ *impl.Melt) {
			(*list)[10].Ingots = append((*list)[10].Ingots, "p")
		}},
		{"an ingot of x that does not exist", codeMissing, func(_ *[]impl.Ingot, _ *[]impl.Melt, x *impl.Melt) { x.Ingots = append(x.Ingots, "q") }},
		{"a Mass that is too great", codeState, func(_ *[]impl.Ingot, _ *[]impl.Melt, x *impl.Melt) { x.Mass = 400 }},
		{"an Id that exists", codeExists, func(_ *[]impl.Ingot, _ *[]impl.Melt, x *impl.Melt) { x.Id = "m005" }},
		{"an ingot that another melt has", codeOrder, func(_ *[]impl.Ingot, _ *[]impl.Melt, x *impl.Melt) {
			x.Ingots = append([]string{"i003"}, x.Ingots...)
		}},
		{"as many melts as possible", codeFull, func(_ *[]impl.Ingot, list *[]impl.Melt, _ *impl.Melt) {
			*list = append(*list, meltWith("m900", 1, "i013"))
		}},
		{"a melt of the list that is not possible", codeOK, func(_ *[]impl.Ingot, list *[]impl.Melt, _ *impl.Melt) { (*list)[0].Mass = mostCharge }},
	}
}

// TestP15OrderOfErrors adds melts with all sets of defects: the first one in the order of the document decides.
func TestP15OrderOfErrors(t *testing.T) {
	defects := addDefects()
	for set := range 1 << len(defects) {
		ingots, list, x := equalIngots(16, 100), equalMelts(11, 1, 98), meltWith("x", 98, "i015")
		wantCode, names := int64(codeOK), ""
		for i, d := range slices.Backward(defects) {
			if set>>i%2 == 0 {
				continue
			}
			d.make(&ingots, &list, &x)
			names = d.name + "; " + names
			// The defects are made from the last one on, so that the code of the first one is left.
			if d.code != codeOK {
				wantCode = d.code
			}
		}
		got, code := impl.AddMelt(ingots, list, x)
		if code != wantCode || (code == codeOK) != (len(got) == 12) {
			t.Errorf("AddMelt with %s: got %v %d, want %d", names, got, code, wantCode)
		}
		checkShop(t, ingots, list, x)
	}
}

// TestP15InvalidArguments: ErrInvalid comes before all other codes, whatever else is wrong.
func TestP15InvalidArguments(t *testing.T) {
	few, full := equalIngots(16, 100), equalMelts(12, 1, 99)
	good := meltWith("x", 98, "i015")
	check := func(ingots []impl.Ingot, list []impl.Melt, x impl.Melt) {
		t.Helper()
		if got, code := impl.AddMelt(ingots, list, x); len(got) > 0 || code != codeInvalid {
			t.Errorf("AddMelt(%v, %v, %v): got %v %d", ingots, list, x, got, code)
		}
		checkShop(t, ingots, list, x)
	}
	for i, ingots := range badIngots() {
		list := goodMeltLists()[i%len(goodMeltLists())]
		for _, x := range []impl.Melt{good, goodMelts()[i%len(goodMelts())], badMelts()[i%len(badMelts())], meltWith("m000", mostCharge, "q")} {
			check(ingots, list, x)
			check(ingots, nil, x)
		}
	}
	for i, list := range badMeltLists() {
		for _, x := range []impl.Melt{good, goodMelts()[i%len(goodMelts())], badMelts()[i%len(badMelts())], meltWith("m000", mostCharge, "q")} {
			check(few, list, x)
			check(nil, list, x)
			check(goodIngots()[i%len(goodIngots())], list, x)
		}
		for _, ingots := range [][]impl.Ingot{few, nil, bellIngots()} {
			if unused, code := impl.UnusedIngots(ingots, list); len(unused) > 0 || code != codeInvalid {
				t.Errorf("UnusedIngots(%v, %v): got %q %d", ingots, list, unused, code)
			}
			if loss, code := impl.LossOf(ingots, list); loss != 0 || code != codeInvalid {
				t.Errorf("LossOf(%v, %v): got %d %d", ingots, list, loss, code)
			}
		}
	}
	for i, x := range badMelts() {
		check(few, full, x)
		check(few, nil, x)
		check(nil, goodMeltLists()[i%len(goodMeltLists())], x)
		if metal, code := impl.MetalOf(few, x); metal != 0 || code != codeInvalid {
			t.Errorf("MetalOf(%v): got %d %d", x, metal, code)
		}
		if most, code := impl.MostFrom(nil, x); most != 0 || code != codeInvalid {
			t.Errorf("MostFrom(%v): got %d %d", x, most, code)
		}
		if alloy, code := impl.AlloyOfMelt(few, x); alloy != (impl.Alloy{}) || code != codeInvalid {
			t.Errorf("AlloyOfMelt(%v): got %v %d", x, alloy, code)
		}
	}
}

// TestP15ManyShops holds the functions against the models for many ingots and melts, of which many have one error or several.
func TestP15ManyShops(t *testing.T) {
	random := rand.New(rand.NewSource(142))
	codes, losses := map[int64]int{}, map[int64]int{}
	for range 4000 {
		ingots, list, x := randomShop(random)
		checkShop(t, ingots, list, x)
		_, code := impl.AddMelt(ingots, list, x)
		codes[code]++
		_, code = impl.LossOf(ingots, list)
		losses[code]++
		for _, melt := range append(slices.Clone(list), x) {
			got, code := impl.DropMelt(list, melt.Id)
			want, wantCode := dropMeltModel(list, melt.Id)
			checkMelts(t, fmt.Sprintf("DropMelt(%v, %q)", list, melt.Id), got, code, want, wantCode)
		}
	}
	for code, least := range map[int64]int{codeOK: 1000, codeMissing: 100, codeState: 100, codeExists: 50, codeOrder: 50} {
		if codes[code] < least {
			t.Errorf("only %d of the melts that are added have the code %d", codes[code], code)
		}
	}
	if losses[codeOK] < 500 || losses[codeState] < 500 || losses[codeMissing] < 100 {
		t.Errorf("only %v losses have each code", losses)
	}
}

// TestP15MetalIsKept: all metal of the ingots is poured, lost, or in ingots that are unused; a melt that is added and removed changes nothing.
func TestP15MetalIsKept(t *testing.T) {
	random := rand.New(rand.NewSource(143))
	kept, added := 0, 0
	for range 3000 {
		ingots, list, x := randomShop(random)
		if more, code := impl.AddMelt(ingots, list, x); code == codeOK {
			added++
			if less, code := impl.DropMelt(more, x.Id); !impl.SameMelts(less, list) || code != codeOK {
				t.Errorf("%v is removed again: got %v %d, want %v", x, less, code, list)
			}
			list = more
		}
		loss, code := impl.LossOf(ingots, list)
		if code != codeOK {
			continue
		}
		kept++
		unused, _ := impl.UnusedIngots(ingots, list)
		poured, melted, rest := int64(0), int64(0), int64(0)
		for _, melt := range list {
			metal, _ := impl.MetalOf(ingots, melt)
			poured, melted = poured+melt.Mass, melted+metal
		}
		for _, ingot := range ingots {
			if slices.Contains(unused, ingot.Id) {
				rest += ingot.Mass
			}
		}
		all := chargeMass(ingots, upTo(len(ingots)))
		if poured+loss+rest != all || melted+rest != all || loss < 0 {
			t.Errorf("%v, %v: %d grams are poured, %d lost and %d left, of %d", ingots, list, poured, loss, rest, all)
		}
	}
	if kept < 500 || added < 500 {
		t.Errorf("only %d lists are possible, and %d melts are added", kept, added)
	}
}

var meltTexts = []string{"m1 a,b 98000", "m a 1", "abcdefghij abcdefghij 320000000", "z9 i000,i001,i002,i003,i004,i005,i006,i007,i008,i009,i010,i011,i012,i013,i014,i015 7", "a a,a0,aa,b 20", "m i10,i2 100"}

func TestP15MeltTexts(t *testing.T) {
	for _, text := range meltTexts {
		x, ok := impl.ReadMelt(text)
		if got := impl.MeltText(x); got != text || !ok {
			t.Errorf("ReadMelt(%q): got %v %v, with the text %q", text, x, ok, got)
		}
	}
	melts := slices.Concat(goodMelts(), badMelts())
	random := rand.New(rand.NewSource(144))
	for range 300 {
		_, list, x := randomShop(random)
		melts = append(append(melts, list...), x)
	}
	for _, x := range melts {
		text, want := impl.MeltText(x), ""
		if isMelt(x) {
			want = fmt.Sprintf("%s %s %d", x.Id, strings.Join(x.Ingots, ","), x.Mass)
		}
		if text != want {
			t.Errorf("MeltText(%v): got %q, want %q", x, text, want)
		}
		got, ok := impl.ReadMelt(text)
		if ok != isMelt(x) || ok && !sameMelt(got, x) || !ok && !noMelt(got) {
			t.Errorf("ReadMelt(%q): got %v %v, want %v", text, got, ok, x)
		}
	}
}

func TestP15ReadMelt(t *testing.T) {
	bad := []string{
		// missing, superfluous and empty parts
		"m", "m ", "m a", "m a ", "m 5", "a,b 5", "a 5", "m a b 5", "m a,b 5 5", "m a 5 a", "m m a 5", "m a 5 ", " m a 5", "m  5", " a 5", "m  a 5", "m a  5", "m - 5", "m a -", "- a 5", "  ", "m  ", "m,a,5", "m,a 5", "m a,5", "ma5",
		"m ,a 5", "m a, 5", "m a,,b 5", "m , 5", "m ,, 5", "m a,b, 5", "m ,a,b 5", "m a, b 5", "m a ,b 5", "m a;b 5", "m a/b 5", "m a.b 5", "m a:b 5", "m a，b 5",
		// blanks and other separators
		"\tm a 5", "m\ta 5", "m a\t5", "m a 5\n", "\nm a 5", "m\na\n5", "m\u00a0a 5", "m a\u00a05", "m a 5\x00", "m a 5\r", "m a\r 5",
		// leading zeros, signs and numbers that are none
		"m a 05", "m a 00", "m a 005", "m a +5", "m a -5", "m a -0", "m a --5", "m a 5.0", "m a 5.", "m a .5", "m a 5e1", "m a 0x5", "m a 1_000", "m a 5,5", "m a ,5", "m a 5,", "m a ٥", "m a x", "m a a", "m a \"5\"",
		// names that are none
		"M a 5", "9 a 5", "1a a 5", "abcdefghijk a 5", "m- a 5", "é a 5", "\xff a 5", "m A 5", "m 9 5", "m 1a 5", "m abcdefghijk 5", "m a,B 5", "m A,b 5", "m a,9 5", "m a- 5", "m é 5", "m a,\xff 5",
		// melts that are not valid
		"m a 0", "m a 320000001", "m a 1000000000000", "m a 9223372036854775807", "m a -9223372036854775808", "m a 18446744073709551621", "m a 4294967301", "m a -1", "m a,a 5", "m b,a 5", "m a,c,b 5", "m a,b,b 5", "m a,b,a 5", "m i2,i10 5", "m aa,a 5",
		"m " + strings.Join(ingotNames(0, 17), ",") + " 5", "m " + strings.Join(ingotNames(0, 18), ",") + " 5", "m " + strings.Join(ingotNames(0, 16), ",") + ", 5", "m ," + strings.Join(ingotNames(0, 16), ",") + " 5", "m " + strings.Join(ingotNames(0, 16), ",") + " 0", "m " + strings.Join(ingotNames(0, 15), ",") + ",i014 5",
		strings.Repeat(" ", 1000), strings.Repeat("m ", 1000), "m " + strings.Repeat("a,", 1000) + "a 5", "m " + strings.Repeat(",", 1000) + " 5", "m a " + strings.Repeat("9", 1000), strings.Repeat("a", 1000) + " a 5", "m " + strings.Repeat("a", 1000) + " 5",
	}
	for _, s := range slices.Concat(bad, edgeTexts, pointedTexts, temperamentTexts, soundTexts, profileTexts, modelTexts, cutsTexts, goalTexts, measureTexts, spotsTexts, ingotTexts) {
		if got, ok := impl.ReadMelt(s); !noMelt(got) || ok {
			t.Errorf("ReadMelt(%q): got %v %v, want none", s, got, ok)
		}
	}
}

// TestP15DamagedMeltsAreNotRead: a text that is damaged is that of the melt that is read, or of none.
func TestP15DamagedMeltsAreNotRead(t *testing.T) {
	for _, s := range damagedTexts(meltTexts, " 0129,-+aAz") {
		got, ok := impl.ReadMelt(s)
		if ok && (impl.MeltText(got) != s || !isMelt(got)) || !ok && !noMelt(got) {
			t.Errorf("ReadMelt(%q): got %v %v", s, got, ok)
		}
	}
}

// meltsResults has the results of all functions of the chapter for valid and invalid arguments, as texts.
func meltsResults() []string {
	var all []string
	add := func(results ...any) { all = append(all, fmt.Sprint(results...)) }
	use := func(ingots []impl.Ingot, list []impl.Melt, x impl.Melt) {
		add(impl.ValidMelt(x), impl.ValidMelts(list), impl.SameMelts(list, []impl.Melt{x}), impl.SameMelts(list, list), impl.PossibleMelts(ingots, list), impl.MeltText(x))
		add(impl.MetalOf(ingots, x))
		add(impl.MostFrom(ingots, x))
		add(impl.AlloyOfMelt(ingots, x))
		add(impl.AddMelt(ingots, list, x))
		add(impl.DropMelt(list, x.Id))
		add(impl.DropMelt(list, "m000"))
		add(impl.UnusedIngots(ingots, list))
		add(impl.LossOf(ingots, list))
	}
	ingots, lists, melts := slices.Concat(goodIngots(), badIngots()), slices.Concat(goodMeltLists(), badMeltLists()), slices.Concat(goodMelts(), badMelts())
	for i, list := range lists {
		for k := range 4 {
			use(ingots[(i*3+k)%len(ingots)], list, melts[(i*7+k)%len(melts)])
			use(equalIngots(16, 100), list, melts[(i*5+k)%len(melts)])
		}
	}
	for i, some := range ingots {
		use(some, goodMeltLists()[i%len(goodMeltLists())], goodMelts()[i%len(goodMelts())])
	}
	random := rand.New(rand.NewSource(145))
	for range 300 {
		use(randomShop(random))
	}
	for _, s := range slices.Concat(meltTexts, edgeTexts, pointedTexts) {
		add(impl.ReadMelt(s))
	}
	return all
}

// TestP1MeltsReturn: every function of chapter 14 returns for all arguments, and the same again, also at the same time.
func TestP1MeltsReturn(t *testing.T) { checkReturns(t, meltsResults) }

// roomyMelts returns a list of four melts that is a part of a longer one, as are the ingots of each melt. Those of all melts lie behind one another in one long list, with spare ones between.
func roomyMelts() ([]impl.Melt, []string) {
	ids := []string{"a", "spare", "b", "c", "d", "Spare", "e", "f", "g", "", "h"}
	ids = append(slices.Grow(ids, 9), "i", "j")
	list := append(slices.Grow([]impl.Melt(nil), 9), meltWith("m1", 10), meltWith("m3", 20), meltWith("m5", 30), meltWith("m7", 40), meltWith("M9", -1, "spare"), impl.Melt{})
	list[0].Ingots, list[1].Ingots, list[2].Ingots, list[3].Ingots = ids[:1], ids[2:5], ids[6:9], ids[10:11]
	return list[:4], ids[:cap(ids)]
}

// shopIngots has the ingots of roomyMelts and of the melts that are added to them.
func shopIngots() []impl.Ingot {
	var ingots []impl.Ingot
	for i, id := range strings.Split("abcdefghijkl", "") {
		ingots = append(ingots, ingotWith(id, 100+int64(i), 200000, 0))
	}
	return ingots
}

// meltCalls has calls of the functions that return melts: those that add at all places, and those that remove.
func meltCalls() map[string]func(ingots []impl.Ingot, list []impl.Melt, x impl.Melt) []impl.Melt {
	calls := map[string]func(ingots []impl.Ingot, list []impl.Melt, x impl.Melt) []impl.Melt{}
	for _, id := range []string{"m0", "m2", "m4", "m6", "m8"} {
		calls["AddMelt "+id] = func(ingots []impl.Ingot, list []impl.Melt, x impl.Melt) []impl.Melt {
			x.Id = id
			return first(impl.AddMelt(ingots, list, x))
		}
	}
	for _, id := range []string{"m1", "m3", "m5", "m7"} {
		calls["DropMelt "+id] = func(_ []impl.Ingot, list []impl.Melt, _ impl.Melt) []impl.Melt {
			return first(impl.DropMelt(list, id))
		}
	}
	return calls
}

// TestP1MeltsKeepTheirArguments: neither melts nor their ingots, nor the capacity behind any of them, are modified.
func TestP1MeltsKeepTheirArguments(t *testing.T) {
	list, ids := roomyMelts()
	more := append(slices.Grow([]string(nil), 8), "k", "l", "spare", "x")
	ingots := append(slices.Grow(shopIngots(), 9), ingotWith("z", 1, 0, 0), impl.Ingot{Id: "Z"})
	wantList, wantIds, wantMore, wantIngots := cloneMelts(list[:cap(list)]), slices.Clone(ids), slices.Clone(more[:cap(more)]), slices.Clone(ingots[:cap(ingots)])
	for size := range cap(list) + 1 {
		some := list[:size]
		for mores := range 4 {
			x := meltWith("m4", 50, more[:mores]...)
			for _, stock := range [][]impl.Ingot{ingots[:12], ingots[:11], ingots[:3], ingots[:0], ingots[:14]} {
				impl.SameMelts(some, list)
				impl.ValidMelts(some)
				impl.PossibleMelts(stock, some)
				for _, melt := range append(slices.Clone(some), x) {
					impl.ValidMelt(melt)
					impl.MeltText(melt)
					impl.MetalOf(stock, melt)
					impl.MostFrom(stock, melt)
					impl.AlloyOfMelt(stock, melt)
					impl.DropMelt(some, melt.Id)
				}
				for _, call := range meltCalls() {
					call(stock, some, x)
				}
				impl.UnusedIngots(stock, some)
				impl.LossOf(stock, some)
			}
		}
		if !sameMelts(list[:cap(list)], wantList) || !slices.Equal(ids, wantIds) || !slices.Equal(more[:cap(more)], wantMore) || !slices.Equal(ingots[:cap(ingots)], wantIngots) {
			t.Fatalf("%d melts: they are now %v, their ingots %q and %q, and the ingots %v", size, list[:cap(list)], ids, more[:cap(more)], ingots[:cap(ingots)])
		}
	}
}

// TestP1NewMeltsShareNothing: a list of melts, or the ingots of one of them, that are overwritten with the capacity behind them, change no argument, no other melt and no other result, and the other way round.
func TestP1NewMeltsShareNothing(t *testing.T) {
	for name, call := range meltCalls() {
		for place := range 6 {
			list, ids := roomyMelts()
			more := append(slices.Grow([]string(nil), 8), "k", "l", "spare")
			wantList, wantIds, wantMore := cloneMelts(list[:cap(list)]), slices.Clone(ids), slices.Clone(more)
			x := meltWith("m", 60, more[:2]...)
			got, other := call(shopIngots(), list, x), call(shopIngots(), list, x)
			want := cloneMelts(got)
			if len(want) != 5 && len(want) != 3 || !sameMelts(other, want) {
				t.Fatalf("%s: got %v and %v", name, got, other)
			}
			if place < len(other) {
				overwrite(other[place].Ingots, "mark")
				for i := range other {
					if i != place && !sameMelt(other[i], want[i]) {
						t.Errorf("%s: the ingots of %d are overwritten, and %d has become %v", name, place, i, other[i])
					}
				}
			}
			overwrite(other, meltWith("mark", 7, "mark"))
			if !sameMelts(list[:cap(list)], wantList) || !slices.Equal(ids, wantIds) || !slices.Equal(more, wantMore) || !sameMelts(got, want) {
				t.Errorf("%s: the melts are now %v, their ingots %q and %q, and %v has become %v", name, list[:cap(list)], ids, more, want, got)
			}
			overwrite(list, meltWith("mark", 7, "mark"))
			overwrite(ids, "mark")
			overwrite(more, "mark")
			if !sameMelts(got, want) {
				t.Errorf("%s: got %v, which has become %v", name, want, got)
			}
		}
	}
}

// TestP1MeltListsAreNew: unused ingots and the ingots of a melt that is read are new memory too.
func TestP1MeltListsAreNew(t *testing.T) {
	list, ids := roomyMelts()
	ingots, wantIds := shopIngots(), slices.Clone(ids)
	got, want := first(impl.UnusedIngots(ingots, list)), []string{"i", "j", "k", "l"}
	overwrite(first(impl.UnusedIngots(ingots, list)), "mark")
	if again := first(impl.UnusedIngots(ingots, list)); !slices.Equal(again, want) || !slices.Equal(got, want) || !slices.Equal(ids, wantIds) || !slices.Equal(ingots, shopIngots()) {
		t.Errorf("UnusedIngots: got %q, then %q", got, again)
	}
	overwrite(ingots, ingotWith("mark", 1, 0, 0))
	overwrite(ids, "mark")
	if !slices.Equal(got, want) {
		t.Errorf("UnusedIngots: got %q, which has become %q", want, got)
	}
	for _, text := range meltTexts {
		got, _ := impl.ReadMelt(text)
		other, _ := impl.ReadMelt(text)
		overwrite(other.Ingots, "mark")
		if again, ok := impl.ReadMelt(text); impl.MeltText(got) != text || impl.MeltText(again) != text || !ok {
			t.Errorf("ReadMelt(%q): got %v, then %v", text, got, again)
		}
	}
}
