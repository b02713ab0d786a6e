package tests

import (
	"fmt"
	"math"
	"math/big"
	"math/rand"
	"slices"
	"strings"
	"testing"

	"loop.example/g00952/impl"
)

// The limits of chapter 15, written out from the document.
const (
	maxShrink  = 50
	maxHoles   = 8
	maxLayers  = 40
	maxHours   = 100000
	holeRadius = 300000
	holeDepth  = 600000
)

var (
	goodShrinks = []int64{0, 1, 2, 3, 7, 10, 12, 15, 20, 25, 31, 40, 48, 49, 50}
	noShrinks   = []int64{math.MinInt64, math.MinInt64 + 1, -1000, -51, -50, -2, -1, 51, 52, 100, 1000, 1 << 32, 1<<32 + 1, math.MaxInt64 - 1000, math.MaxInt64 - 1, math.MaxInt64}
	noWalls     = []int64{math.MinInt64, math.MinInt64 + 1, -maxRadius, -2, -1, 0, maxRadius + 1, maxRadius + 2, maxLength, 1 << 32, 1<<32 + 1, math.MaxInt64 - maxRadius, math.MaxInt64 - 1, math.MaxInt64}
)

func holeWith(name string, radius, depth int64) impl.Hole {
	return impl.Hole{Name: name, Radius: radius, Depth: depth}
}

// holesOf returns the holes a, b, c and so on with radii and depths that follow one another.
func holesOf(numbers ...int64) []impl.Hole {
	var holes []impl.Hole
	for i := 0; i+1 < len(numbers); i += 2 {
		holes = append(holes, holeWith(string(rune('a'+i/2)), numbers[i], numbers[i+1]))
	}
	return holes
}

// equalHoles returns some equal holes, with Names of three digits.
func equalHoles(count int, radius, depth int64) []impl.Hole {
	var holes []impl.Hole
	for i := range count {
		holes = append(holes, holeWith(fmt.Sprintf("h%03d", i), radius, depth))
	}
	return holes
}

// cavitiesOf returns profiles of one ring with radii and heights that follow one another.
func cavitiesOf(numbers ...int64) []impl.Profile {
	var cavities []impl.Profile
	for i := 0; i+1 < len(numbers); i += 2 {
		cavities = append(cavities, profileWith(ringWith(numbers[i], 0, numbers[i+1])))
	}
	return cavities
}

// goodHoles has valid lists of holes: none, one, as many as possible, and with each number at its limits.
func goodHoles() [][]impl.Hole {
	return [][]impl.Hole{
		nil, {}, holesOf(6000, 3000), holesOf(6000, 3000, 9000, 2000, 5500, 3000), holesOf(1, 1), holesOf(1, holeDepth), holesOf(holeRadius, 1), holesOf(holeRadius, holeDepth), holesOf(holeRadius-1, holeDepth-1),
		equalHoles(1, 5, 5), equalHoles(2, 5, 5), equalHoles(7, 5, 5), equalHoles(8, 5, 5), equalHoles(8, holeRadius, holeDepth), holesOf(8, 1, 7, 2, 6, 3, 5, 4, 4, 5, 3, 6, 2, 7, 1, 8),
		{holeWith("abcdefghij", 5, 5)}, {holeWith("z999999999", 5, 5)}, {holeWith("x", 1, 1)}, {holeWith("a", 5, 5), holeWith("a0", 5, 5), holeWith("aa", 5, 5), holeWith("b", 5, 5), holeWith("x", 5, 5), holeWith("xx", 5, 5), holeWith("zzzzzzzzzz", 5, 5)}, {holeWith("h10", 5, 5), holeWith("h2", 5, 5)},
	}
}

// badHoles has lists of holes that are not valid, each for one reason or for several.
func badHoles() [][]impl.Hole {
	lists := [][]impl.Hole{
		equalHoles(9, 5, 5), equalHoles(10, 5, 5), equalHoles(1000, 5, 5), make([]impl.Hole, 8), make([]impl.Hole, 9), append(equalHoles(7, 5, 5), impl.Hole{}),
		// Names that are equal or falling, beside one another and at the ends
		{holeWith("a", 5, 5), holeWith("a", 5, 5)}, {holeWith("a", 5, 5), holeWith("a", 6, 6)}, {holeWith("b", 5, 5), holeWith("a", 5, 5)}, {holeWith("aa", 5, 5), holeWith("a", 5, 5)}, {holeWith("h2", 5, 5), holeWith("h10", 5, 5)},
		{holeWith("a", 5, 5), holeWith("b", 5, 5), holeWith("b", 5, 5)}, {holeWith("a", 5, 5), holeWith("c", 5, 5), holeWith("b", 5, 5)}, {holeWith("a", 5, 5), holeWith("b", 5, 5), holeWith("a", 5, 5)}, append(equalHoles(7, 5, 5), holeWith("h006", 5, 5)), append(equalHoles(7, 5, 5), holeWith("h", 5, 5)), append([]impl.Hole{holeWith("i", 5, 5)}, equalHoles(7, 5, 5)...),
	}
	var bad []impl.Hole
	for _, name := range noNames {
		bad = append(bad, holeWith(name, 5, 5), holeWith(name, 0, 0))
	}
	for _, n := range []int64{math.MinInt64, math.MinInt64 + 1, -holeDepth, -holeRadius, -1, 0, holeDepth + 1, holeDepth + 2, 1 << 32, 1<<32 + 1, math.MaxInt64 - 1, math.MaxInt64} {
		bad = append(bad, holeWith("m", n, 5), holeWith("m", 5, n), holeWith("m", n, n))
	}
	bad = append(bad, impl.Hole{}, holeWith("m", holeRadius+1, 5), holeWith("m", holeRadius+2, 5), holeWith("m", holeDepth, 5), holeWith("m", holeRadius+1, holeDepth+1))
	for _, h := range bad {
		before, after := holeWith("a", 5, 5), holeWith("zz", 5, 5)
		lists = append(lists, []impl.Hole{h}, []impl.Hole{h, after}, []impl.Hole{before, h}, []impl.Hole{before, h, after})
	}
	return lists
}

func isHole(h impl.Hole) bool {
	return impl.IsName(h.Name) && h.Radius >= 1 && h.Radius <= holeRadius && h.Depth >= 1 && h.Depth <= holeDepth
}

func areHoles(holes []impl.Hole) bool {
	var names []string
	for _, h := range holes {
		if !isHole(h) {
			return false
		}
		names = append(names, h.Name)
	}
	return len(holes) <= maxHoles && areIncreasing(names)
}

func isShrink(n int64) bool { return n >= 0 && n <= maxShrink }

func isWall(n int64) bool { return n >= 1 && n <= maxRadius }

// castModel returns the profile of another size that MouldFor or CastFrom must return, and the code.
func castModel(p impl.Profile, shrink, num, den int64) (impl.Profile, int64) {
	switch {
	case !isProfile(p):
		return impl.Profile{}, codeInvalid
	case !isShrink(shrink):
		return impl.Profile{}, codeRange
	}
	size := sizeModel(p, num, den)
	if !isProfile(size) {
		return impl.Profile{}, codeState
	}
	return size, codeOK
}

func mouldForModel(p impl.Profile, shrink int64) (impl.Profile, int64) {
	return castModel(p, shrink, 1000+shrink, 1000)
}

func castFromModel(cavity impl.Profile, shrink int64) (impl.Profile, int64) {
	return castModel(cavity, shrink, 1000, 1000+shrink)
}

// errorModel returns what CastError must return.
func errorModel(p impl.Profile, shrink int64) (int64, int64) {
	cavity, code := mouldForModel(p, shrink)
	if code != codeOK {
		return 0, code
	}
	bell, code := castFromModel(cavity, shrink)
	if code != codeOK {
		return 0, code
	}
	far := int64(0)
	for k, r := range p.Rings {
		other := bell.Rings[k]
		for _, d := range []int64{r.Outer - other.Outer, r.Inner - other.Inner, r.Height - other.Height} {
			far = max(far, d, -d)
		}
	}
	return far, codeOK
}

// checkCast holds a profile and a code against those that they must be.
func checkCast(t *testing.T, what string, got impl.Profile, code int64, want impl.Profile, wantCode int64) {
	t.Helper()
	if !sameProfiles(got, want) || code != wantCode {
		t.Errorf("%s: got %v %d, want %v %d", what, got, code, want, wantCode)
	}
}

// checkCasts holds the functions about cavities against the models.
func checkCasts(t *testing.T, p impl.Profile, shrink int64) {
	t.Helper()
	what := fmt.Sprintf("(%v, %d)", p, shrink)
	want, wantCode := mouldForModel(p, shrink)
	got, code := impl.MouldFor(p, shrink)
	checkCast(t, "MouldFor"+what, got, code, want, wantCode)
	want, wantCode = castFromModel(p, shrink)
	got, code = impl.CastFrom(p, shrink)
	checkCast(t, "CastFrom"+what, got, code, want, wantCode)
	wantFar, wantCode := errorModel(p, shrink)
	far, code := impl.CastError(p, shrink)
	checkNumber(t, "CastError"+what, far, code, wantFar, wantCode)
}

// layersModel counts the layers that are needed for a wall one by one.
func layersModel(wall, layer int64) (int64, int64) {
	if !isWall(wall) || layer < 1 || layer > wall {
		return 0, codeRange
	}
	layers := int64(0)
	for made := int64(0); made < wall; made += layer {
		layers++
	}
	if layers > maxLayers {
		return 0, codeFull
	}
	return layers, codeOK
}

// dryingModel returns what DryingTime must return.
func dryingModel(wall, layer, hours, humidity int64) (int64, int64) {
	layers, code := layersModel(wall, layer)
	if hours < 1 || hours > maxHours || humidity < 0 || humidity > 100 {
		return 0, codeRange
	}
	if code != codeOK {
		return 0, code
	}
	sum := int64(0)
	for i := int64(1); i <= layers; i++ {
		part, rest := new(big.Int).QuoRem(productOf(hours, 100+humidity, i), big.NewInt(100), new(big.Int))
		sum += part.Int64()
		if rest.Sign() > 0 {
			sum++
		}
	}
	return sum, codeOK
}

// fitsHoleModel reports whether a mould fits into a hole.
func fitsHoleModel(cavity impl.Profile, wall int64, h impl.Hole) bool {
	if !isProfile(cavity) || !isWall(wall) || !isHole(h) {
		return false
	}
	height := int64(0)
	for _, r := range cavity.Rings {
		if r.Outer+wall > h.Radius {
			return false
		}
		height += r.Height
	}
	return height+wall <= h.Depth
}

// holesForModel returns what HolesFor must return.
func holesForModel(cavity impl.Profile, wall int64, holes []impl.Hole) ([]int64, int64) {
	if !isProfile(cavity) || !areHoles(holes) {
		return nil, codeInvalid
	}
	if !isWall(wall) {
		return nil, codeRange
	}
	var indices []int64
	for i, h := range holes {
		if fitsHoleModel(cavity, wall, h) {
			indices = append(indices, int64(i))
		}
	}
	return indices, codeOK
}

// goOnPlacing goes through all lists of places in order, and keeps the first one of those with the most moulds.
func goOnPlacing(fits [][]int64, places []int64, best *[]int64) {
	if len(places) == len(fits) {
		if *best == nil || placedModel(places) > placedModel(*best) {
			*best = append([]int64{}, places...)
		}
		return
	}
	for _, hole := range fits[len(places)] {
		if !slices.Contains(places, hole) {
			goOnPlacing(fits, append(places, hole), best)
		}
	}
	goOnPlacing(fits, append(places, -1), best)
}

func placedModel(places []int64) int64 {
	count := int64(0)
	for _, place := range places {
		if place > -1 {
			count++
		}
	}
	return count
}

// placeMouldsModel returns what PlaceMoulds must return.
func placeMouldsModel(cavities []impl.Profile, wall int64, holes []impl.Hole) ([]int64, int64) {
	switch {
	case slices.ContainsFunc(cavities, func(p impl.Profile) bool { return !isProfile(p) }) || !areHoles(holes):
		return nil, codeInvalid
	case !isWall(wall):
		return nil, codeRange
	case len(cavities) > maxHoles:
		return nil, codeFull
	}
	var fits [][]int64
	for _, cavity := range cavities {
		indices, _ := holesForModel(cavity, wall, holes)
		fits = append(fits, indices)
	}
	var best []int64
	goOnPlacing(fits, nil, &best)
	return best, codeOK
}

// checkPlaces holds PlaceMoulds against the model, and the functions about holes for each of the cavities.
func checkPlaces(t *testing.T, cavities []impl.Profile, wall int64, holes []impl.Hole) {
	t.Helper()
	for _, cavity := range cavities {
		want, wantCode := holesForModel(cavity, wall, holes)
		got, code := impl.HolesFor(cavity, wall, holes)
		checkList(t, fmt.Sprintf("HolesFor(%v, %d, %v)", cavity, wall, holes), got, code, want, wantCode)
		for _, h := range holes {
			if got := impl.FitsHole(cavity, wall, h); got != fitsHoleModel(cavity, wall, h) {
				t.Errorf("FitsHole(%v, %d, %v): got %v", cavity, wall, h, got)
			}
		}
	}
	want, wantCode := placeMouldsModel(cavities, wall, holes)
	got, code := impl.PlaceMoulds(cavities, wall, holes)
	checkList(t, fmt.Sprintf("PlaceMoulds(%v, %d, %v)", cavities, wall, holes), got, code, want, wantCode)
	if count := impl.CountPlaced(got); count != placedModel(want) {
		t.Errorf("CountPlaced(%v): got %d", got, count)
	}
}

// randomMoulds returns some cavities, a wall, and some holes, of which many just fit or just do not.
func randomMoulds(random *rand.Rand, most int) ([]impl.Profile, int64, []impl.Hole) {
	wall := []int64{1, 100, 500, maxRadius}[random.Intn(4)]
	steps := int64(2 + random.Intn(5))
	size := func() int64 { return 500 + random.Int63n(steps) }
	var cavities []impl.Profile
	for range random.Intn(most + 1) {
		if random.Intn(3) == 0 {
			cavities = append(cavities, profileWith(ringWith(size(), 0, 250), ringWith(size(), 0, size()-250)))
		} else {
			cavities = append(cavities, profileWith(ringWith(size(), 0, size())))
		}
	}
	var numbers []int64
	for range random.Intn(most + 1) {
		numbers = append(numbers, size()+wall, size()+wall)
	}
	return cavities, wall, holesOf(numbers...)
}

func TestP16Constants(t *testing.T) {
	got := []int64{impl.MaxShrink, impl.MaxHoles, impl.MaxLayers, impl.MaxHours}
	if want := []int64{50, 8, 40, 100000}; !slices.Equal(got, want) {
		t.Errorf("constants: got %v, want %v", got, want)
	}
}

// TestP16Example is the example of the chapter: a wall of 2500 with layers of 1000 has 3 layers.
func TestP16Example(t *testing.T) {
	layers, code := impl.LayersFor(2500, 1000)
	checkNumber(t, "LayersFor(2500, 1000)", layers, code, 3, codeOK)
}

func TestP16MouldFor(t *testing.T) {
	for _, c := range []struct {
		text   string
		shrink int64
		want   string
		code   int64
	}{
		{smallText, 0, smallText, codeOK},
		{smallText, 15, "small 5075/4568/609 4872/4466/914", codeOK},
		{smallText, 50, "small 5250/4725/630 5040/4620/945", codeOK},
		{smallText, -1, "", codeRange},
		{smallText, 51, "", codeRange},
		// halves are rounded up
		{"a 500/100/10", 1, "a 501/100/10", codeOK},
		{"a 1500/500/50", 1, "a 1502/501/50", codeOK},
		{"a 1500/500/50", 50, "a 1575/525/53", codeOK},
		{"a 1510/510/10", 50, "a 1586/536/11", codeOK},
		// just not too large, and too large
		{"a 142857/0/10", 50, "a 150000/0/11", codeOK},
		{"a 142858/0/10", 50, "", codeState},
		{"a 149850/0/10", 1, "a 150000/0/10", codeOK},
		{"a 149851/0/10", 1, "", codeState},
		{"a 150000/0/10", 0, "a 150000/0/10", codeOK},
		{"a 150000/0/10", 1, "", codeState},
		{"a 142857/0/10 142858/0/10", 50, "", codeState},
		{"a 142858/0/10 142857/0/10", 50, "", codeState},
		// just not too high, and too high, by one ring or by several
		{"a 500/0/285714", 50, "a 525/0/300000", codeOK},
		{"a 500/0/285715", 50, "", codeState},
		{"a 500/0/300000", 0, "a 500/0/300000", codeOK},
		{"a 500/0/300000", 1, "", codeState},
		{"a 500/0/142857 500/0/142857", 50, "a 525/0/150000 525/0/150000", codeOK},
		{"a 500/0/142857 500/0/142858", 50, "", codeState},
		{"a 500/0/285704 500/0/10", 50, "a 525/0/299989 525/0/11", codeOK},
		{"a 500/0/285705 500/0/10", 50, "", codeState},
	} {
		got, code := impl.MouldFor(read(c.text), c.shrink)
		checkText(t, fmt.Sprintf("MouldFor(%s, %d)", c.text, c.shrink), got, code, c.want, c.code)
	}
}

func TestP16CastFrom(t *testing.T) {
	for _, c := range []struct {
		text   string
		shrink int64
		want   string
		code   int64
	}{
		{smallText, 0, smallText, codeOK},
		{"small 5075/4568/609 4872/4466/914", 15, smallText, codeOK},
		{"small 5250/4725/630 5040/4620/945", 50, smallText, codeOK},
		{smallText, 50, "small 4762/4286/571 4571/4190/857", codeOK},
		{smallText, -1, "", codeRange},
		{smallText, 51, "", codeRange},
		// a wall that is just thick enough, and one that becomes too thin
		{"a 5000/4900/10", 0, "a 5000/4900/10", codeOK},
		{"a 5000/4900/10", 50, "", codeState},
		{"a 5000/4895/10", 50, "a 4762/4662/10", codeOK},
		{"a 5000/4896/10", 50, "", codeState},
		{"a 5000/4500/10 4700/4596/10", 50, "", codeState},
		{"a 150000/149900/10", 1, "a 149850/149750/10", codeOK},
		{"a 150000/149900/10", 10, "", codeState},
		// a radius that is just great enough, and one that becomes too small
		{"a 525/0/10", 50, "a 500/0/10", codeOK},
		{"a 524/0/10", 50, "", codeState},
		{"a 500/0/10", 1, "a 500/0/10", codeOK},
		{"a 500/0/10", 2, "", codeState},
		// neighbours that fall apart by rounding, and others
		{"a 1020/913/20 914/800/20", 0, "a 1020/913/20 914/800/20", codeOK},
		{"a 1020/913/20 914/800/20", 50, "", codeState},
		{"a 914/800/20 1020/913/20", 50, "", codeState},
		{"a 1020/913/20 915/800/20", 50, "a 971/870/19 871/762/19", codeOK},
		{"a 150000/0/300000", 50, "a 142857/0/285714", codeOK},
	} {
		got, code := impl.CastFrom(read(c.text), c.shrink)
		checkText(t, fmt.Sprintf("CastFrom(%s, %d)", c.text, c.shrink), got, code, c.want, c.code)
	}
}

// TestP16Casts holds the functions about cavities against the models, for profiles that are valid and for others.
func TestP16Casts(t *testing.T) {
	codes := map[int64]int{}
	for i, p := range manyProfiles(151) {
		for _, shrink := range goodShrinks {
			checkCasts(t, p, shrink)
			_, code := impl.CastFrom(p, shrink)
			codes[code]++
		}
		checkCasts(t, p, noShrinks[i%len(noShrinks)])
	}
	for _, p := range greatestProfiles() {
		for _, shrink := range goodShrinks {
			checkCasts(t, p, shrink)
		}
	}
	if codes[codeOK] < 1000 || codes[codeState] < 200 {
		t.Errorf("only %v casts have each code", codes)
	}
}

// TestP16CastErrors: ErrInvalid comes before ErrRange, and ErrRange before ErrState.
func TestP16CastErrors(t *testing.T) {
	check := func(p impl.Profile, shrink, wantMould, wantCast int64) {
		t.Helper()
		what := fmt.Sprintf("(%v, %d)", p, shrink)
		mould, code := impl.MouldFor(p, shrink)
		if !noProfile(mould) || code != wantMould {
			t.Errorf("MouldFor%s: got %v %d, want %d", what, mould, code, wantMould)
		}
		far, code := impl.CastError(p, shrink)
		checkNumber(t, "CastError"+what, far, code, 0, wantMould)
		bell, code := impl.CastFrom(p, shrink)
		if code != wantCast || code != codeOK && !noProfile(bell) {
			t.Errorf("CastFrom%s: got %v %d, want %d", what, bell, code, wantCast)
		}
	}
	wide, thin := read("wide 150000/4500/600"), read("a 150000/149900/300000")
	for _, shrink := range slices.Concat(noShrinks, goodShrinks) {
		for _, p := range badProfiles() {
			check(p, shrink, codeInvalid, codeInvalid)
		}
		if !isShrink(shrink) {
			for _, p := range append(goodProfiles(), wide, thin) {
				check(p, shrink, codeRange, codeRange)
			}
		}
	}
	for _, shrink := range goodShrinks[1:] {
		check(wide, shrink, codeState, codeOK)
	}
	check(thin, 50, codeState, codeState)
}

// TestP16BellFromItsMould: a bell from its mould has exactly its profile, for all shrinks and for lengths with all remainders.
func TestP16BellFromItsMould(t *testing.T) {
	check := func(p impl.Profile, shrink int64) bool {
		cavity, code := impl.MouldFor(p, shrink)
		if code != codeOK {
			return false
		}
		bell, code := impl.CastFrom(cavity, shrink)
		if !impl.SameProfile(bell, p) || code != codeOK {
			t.Errorf("%v with the shrink %d: got %v %d from %v", p, shrink, bell, code, cavity)
		}
		far, code := impl.CastError(p, shrink)
		checkNumber(t, fmt.Sprintf("CastError(%v, %d)", p, shrink), far, code, 0, codeOK)
		return true
	}
	casts := 0
	profiles := manyProfiles(152)
	for n := range int64(2100) {
		profiles = append(profiles, profileWith(ringWith(600+n, n, 10+n)), profileWith(ringWith(142857-n, 142757-n, 285714-n)))
	}
	for shrink := range int64(maxShrink + 1) {
		for _, p := range profiles {
			if check(p, shrink) {
				casts++
			}
		}
	}
	if casts < 200000 {
		t.Errorf("only %d profiles have a mould", casts)
	}
}

func TestP16LayersFor(t *testing.T) {
	for _, c := range []struct{ wall, layer, want, code int64 }{
		{1, 1, 1, codeOK}, {2, 1, 2, codeOK}, {2, 2, 1, codeOK}, {3, 2, 2, codeOK}, {2500, 2500, 1, codeOK}, {2500, 2499, 2, codeOK}, {2500, 1250, 2, codeOK}, {2500, 1249, 3, codeOK},
		{40, 1, 40, codeOK}, {41, 1, 0, codeFull}, {4000, 100, 40, codeOK}, {4001, 100, 0, codeFull}, {4100, 100, 0, codeFull}, {3999, 100, 40, codeOK}, {3900, 100, 39, codeOK}, {3901, 100, 40, codeOK},
		{150000, 150000, 1, codeOK}, {150000, 3750, 40, codeOK}, {150000, 3749, 0, codeFull}, {150000, 1, 0, codeFull}, {149999, 3750, 40, codeOK}, {150000, 149999, 2, codeOK},
		{2500, 2501, 0, codeRange}, {2500, 0, 0, codeRange}, {2500, -1, 0, codeRange}, {1, 2, 0, codeRange}, {0, 0, 0, codeRange}, {0, 1, 0, codeRange}, {-1, -1, 0, codeRange}, {150001, 1, 0, codeRange}, {150001, 150001, 0, codeRange}, {150001, 5000, 0, codeRange}, {150000, 150001, 0, codeRange},
	} {
		layers, code := impl.LayersFor(c.wall, c.layer)
		checkNumber(t, fmt.Sprintf("LayersFor(%d, %d)", c.wall, c.layer), layers, code, c.want, c.code)
	}
	numbers := slices.Concat(edgeNumbers, noWalls, []int64{1, 2, 39, 40, 41, 80, 81, 100, 2500, 3750, 4000, 4001, maxRadius - 1, maxRadius})
	for _, wall := range numbers {
		for _, layer := range numbers {
			want, wantCode := layersModel(wall, layer)
			layers, code := impl.LayersFor(wall, layer)
			checkNumber(t, fmt.Sprintf("LayersFor(%d, %d)", wall, layer), layers, code, want, wantCode)
		}
	}
	for wall := range int64(300) {
		for layer := range int64(302) {
			want, wantCode := layersModel(wall, layer)
			layers, code := impl.LayersFor(wall, layer)
			checkNumber(t, fmt.Sprintf("LayersFor(%d, %d)", wall, layer), layers, code, want, wantCode)
		}
	}
}

func TestP16DryingTime(t *testing.T) {
	for _, c := range []struct{ wall, layer, hours, humidity, want, code int64 }{
		{2500, 1000, 5, 20, 36, codeOK}, {1, 1, 1, 0, 1, codeOK}, {1, 1, 1, 100, 2, codeOK}, {4000, 100, 1, 0, 820, codeOK}, {4000, 100, 1, 100, 1640, codeOK}, {4000, 100, 100000, 100, 164000000, codeOK}, {150000, 150000, 100000, 0, 100000, codeOK},
		// each part is rounded up, not their sum: 1.01, 2.02 and 3.03 hours
		{3, 1, 1, 1, 2 + 3 + 4, codeOK}, {1, 1, 1, 1, 2, codeOK}, {1, 1, 1, 99, 2, codeOK}, {2, 1, 1, 50, 2 + 3, codeOK}, {4, 1, 1, 25, 2 + 3 + 4 + 5, codeOK}, {3, 1, 3, 33, 4 + 8 + 12, codeOK}, {40, 1, 1, 1, 820 + 40, codeOK},
		{2500, 1000, 0, 20, 0, codeRange}, {2500, 1000, -1, 20, 0, codeRange}, {2500, 1000, 100001, 20, 0, codeRange}, {2500, 1000, 5, -1, 0, codeRange}, {2500, 1000, 5, 101, 0, codeRange}, {0, 1, 5, 20, 0, codeRange}, {150001, 5000, 5, 20, 0, codeRange}, {2500, 0, 5, 20, 0, codeRange}, {2500, 2501, 5, 20, 0, codeRange},
		{4100, 100, 5, 20, 0, codeFull}, {4001, 100, 5, 20, 0, codeFull}, {4100, 100, 100000, 100, 0, codeFull},
		// ErrRange comes before ErrFull
		{4100, 100, 0, 20, 0, codeRange}, {4100, 100, 100001, 20, 0, codeRange}, {4100, 100, 5, -1, 0, codeRange}, {4100, 100, 5, 101, 0, codeRange}, {150001, 1, 5, 20, 0, codeRange},
	} {
		time, code := impl.DryingTime(c.wall, c.layer, c.hours, c.humidity)
		checkNumber(t, fmt.Sprintf("DryingTime(%d, %d, %d, %d)", c.wall, c.layer, c.hours, c.humidity), time, code, c.want, c.code)
	}
	walls := [][]int64{{1, 1}, {2500, 1000}, {40, 1}, {41, 1}, {maxRadius, 3750}, {maxRadius, 3749}, {0, 1}, {5, 6}, {maxRadius + 1, 5000}, {math.MaxInt64, 1}, {math.MinInt64, math.MinInt64}, {7, 2}, {1000, 31}}
	numbers := slices.Concat(edgeNumbers, []int64{5, 7, 33, 50, 67, 99, 100, 101, 99999, 100000, 100001})
	for _, wall := range walls {
		for _, hours := range numbers {
			for _, humidity := range numbers {
				want, wantCode := dryingModel(wall[0], wall[1], hours, humidity)
				time, code := impl.DryingTime(wall[0], wall[1], hours, humidity)
				checkNumber(t, fmt.Sprintf("DryingTime(%d, %d, %d, %d)", wall[0], wall[1], hours, humidity), time, code, want, wantCode)
			}
		}
	}
	random := rand.New(rand.NewSource(153))
	for range 5000 {
		wall := 1 + random.Int63n(maxRadius)
		layer, hours, humidity := 1+wall/(1+random.Int63n(45)), 1+random.Int63n([]int64{10, 1000, maxHours}[random.Intn(3)]), random.Int63n(101)
		want, wantCode := dryingModel(wall, layer, hours, humidity)
		time, code := impl.DryingTime(wall, layer, hours, humidity)
		checkNumber(t, fmt.Sprintf("DryingTime(%d, %d, %d, %d)", wall, layer, hours, humidity), time, code, want, wantCode)
	}
}

func TestP16ValidHoles(t *testing.T) {
	for _, holes := range goodHoles() {
		if !impl.ValidHoles(holes) || !areHoles(holes) {
			t.Errorf("ValidHoles(%v): got false", holes)
		}
	}
	for _, holes := range badHoles() {
		if impl.ValidHoles(holes) || areHoles(holes) {
			t.Errorf("ValidHoles(%v): got true", holes)
		}
	}
	for count := range 30 {
		if got := impl.ValidHoles(equalHoles(count, 5, 5)); got != (count <= 8) {
			t.Errorf("ValidHoles of %d holes: got %v", count, got)
		}
	}
	for _, n := range append(slices.Clone(edgeNumbers), holeRadius-1, holeRadius, holeRadius+1, holeDepth-1, holeDepth, holeDepth+1) {
		if got, want := impl.ValidHoles([]impl.Hole{holeWith("a", n, 5)}), n >= 1 && n <= 300000; got != want {
			t.Errorf("ValidHoles with the Radius %d: got %v", n, got)
		}
		if got, want := impl.ValidHoles([]impl.Hole{holeWith("a", 5, n)}), n >= 1 && n <= 600000; got != want {
			t.Errorf("ValidHoles with the Depth %d: got %v", n, got)
		}
	}
	checkNamePairs(t, "ValidHoles", func(before, after string) bool {
		return impl.ValidHoles([]impl.Hole{holeWith(before, 5, 5), holeWith(after, 5, 5)})
	})
}

func TestP16FitsHole(t *testing.T) {
	// The greatest Outer is that of any ring, and the height that of all together.
	texts := []string{"a 5000/4500/1500", smallText, "small 4800/4400/900 5000/4500/600", "a 4900/0/500 5000/0/500 4900/0/500", "a 4900/0/100 4800/0/700 5000/0/700"}
	for _, text := range texts {
		p := read(text)
		for _, c := range []struct {
			wall, radius, depth int64
			want                bool
		}{
			{500, 5500, 2000, true}, {500, 5501, 2000, true}, {500, 5500, 2001, true}, {500, 5499, 2000, false}, {500, 5500, 1999, false}, {500, 5499, 1999, false}, {499, 5499, 1999, true}, {501, 5500, 2001, false}, {501, 5501, 2000, false}, {501, 5501, 2001, true},
			{1, 5001, 1501, true}, {1, 5000, 1501, false}, {1, 5001, 1500, false}, {150000, 155000, 151500, true}, {150000, 154999, 151500, false}, {150000, 155000, 151499, false}, {500, 300000, 600000, true}, {150000, 300000, 600000, true},
			{0, 300000, 600000, false}, {-1, 300000, 600000, false}, {150001, 300000, 600000, false}, {math.MinInt64, 300000, 600000, false}, {math.MaxInt64, 300000, 600000, false},
			{500, 300001, 600000, false}, {500, 300000, 600001, false}, {500, 0, 2000, false}, {500, 5500, 0, false}, {500, math.MaxInt64, math.MaxInt64, false},
		} {
			if got := impl.FitsHole(p, c.wall, holeWith("a", c.radius, c.depth)); got != c.want {
				t.Errorf("FitsHole(%s, %d, %dx%d): got %v", text, c.wall, c.radius, c.depth, got)
			}
		}
		for _, name := range noNames {
			if impl.FitsHole(p, 500, holeWith(name, 6000, 3000)) {
				t.Errorf("FitsHole of a hole with the Name %q: got true", name)
			}
		}
	}
	for _, p := range badProfiles() {
		if impl.FitsHole(p, 500, holeWith("a", holeRadius, holeDepth)) {
			t.Errorf("FitsHole(%v): got true", p)
		}
	}
	great := read("a 150000/149900/300000")
	if !impl.FitsHole(great, maxRadius, holeWith("a", 300000, 450000)) || impl.FitsHole(great, maxRadius, holeWith("a", 299999, 450000)) || impl.FitsHole(great, maxRadius, holeWith("a", 300000, 449999)) {
		t.Error("the greatest mould does not just fit into its hole")
	}
}

func TestP16HolesFor(t *testing.T) {
	p, holes := smallProfile(), holesOf(6000, 3000, 5499, 3000, 5500, 2000, 9000, 1999, 5500, 600000, 300000, 2000)
	for _, c := range []struct {
		wall int64
		want []int64
		code int64
	}{
		{500, []int64{0, 2, 4, 5}, codeOK}, {499, []int64{0, 1, 2, 3, 4, 5}, codeOK}, {501, []int64{0}, codeOK}, {1000, []int64{0}, codeOK}, {1001, nil, codeOK}, {1, []int64{0, 1, 2, 3, 4, 5}, codeOK}, {150000, nil, codeOK},
		{0, nil, codeRange}, {-1, nil, codeRange}, {150001, nil, codeRange}, {math.MinInt64, nil, codeRange}, {math.MaxInt64, nil, codeRange},
	} {
		got, code := impl.HolesFor(p, c.wall, holes)
		checkList(t, fmt.Sprintf("HolesFor with a wall of %d", c.wall), got, code, c.want, c.code)
	}
	got, code := impl.HolesFor(p, 1, equalHoles(8, holeRadius, holeDepth))
	checkList(t, "HolesFor of 8 holes", got, code, upTo(8), codeOK)
	got, code = impl.HolesFor(p, 1, nil)
	checkList(t, "HolesFor of no holes", got, code, nil, codeOK)
}

// TestP16PlaceMoulds has places that are found by hand.
func TestP16PlaceMoulds(t *testing.T) {
	for _, c := range []struct {
		name     string
		cavities []impl.Profile
		holes    []impl.Hole
		want     []int64
	}{
		{"no moulds and no holes", nil, nil, nil},
		{"no moulds", nil, holesOf(600, 600), nil},
		{"no holes", cavitiesOf(500, 500, 500, 500), nil, []int64{-1, -1}},
		{"one mould and one hole", cavitiesOf(500, 500), holesOf(600, 600), []int64{0}},
		{"a mould that is too wide", cavitiesOf(501, 500), holesOf(600, 600), []int64{-1}},
		{"a mould that is too deep", cavitiesOf(500, 501), holesOf(600, 600), []int64{-1}},
		{"the first hole of several", cavitiesOf(500, 500), holesOf(599, 600, 600, 600, 700, 700), []int64{1}},
		{"equal moulds and holes", cavitiesOf(500, 500, 500, 500, 500, 500), holesOf(600, 600, 600, 600, 600, 600), []int64{0, 1, 2}},
		{"fewer holes", cavitiesOf(500, 500, 500, 500, 500, 500), holesOf(600, 600, 600, 600), []int64{0, 1, -1}},
		{"one hole", cavitiesOf(500, 500, 500, 500, 500, 500), holesOf(600, 600), []int64{0, -1, -1}},
		{"more holes", cavitiesOf(500, 500, 500, 500), holesOf(600, 600, 600, 600, 600, 600), []int64{0, 1}},
		{"the first must give way to the second", cavitiesOf(500, 500, 600, 600), holesOf(700, 700, 600, 600), []int64{1, 0}},
		{"the first must give way to the last", cavitiesOf(500, 500, 500, 500, 600, 600), holesOf(700, 700, 600, 600, 600, 600), []int64{1, 2, 0}},
		{"the second must give way to the last", cavitiesOf(500, 500, 500, 500, 600, 600), holesOf(600, 600, 700, 700, 600, 600), []int64{0, 2, 1}},
		{"all must go on by one", cavitiesOf(500, 500, 600, 600, 700, 700, 800, 800), holesOf(900, 900, 800, 800, 700, 700, 600, 600), []int64{3, 2, 1, 0}},
		{"a deep one gives way to a wide one", cavitiesOf(500, 600, 600, 500), holesOf(700, 700, 600, 700), []int64{1, 0}},
		{"a later one stays without a hole", cavitiesOf(600, 600, 600, 600), holesOf(700, 700, 600, 600), []int64{0, -1}},
		{"the first stays without, since it fits nowhere", cavitiesOf(800, 800, 600, 600, 600, 600), holesOf(700, 700, 700, 700), []int64{-1, 0, 1}},
		{"one in the middle stays without", cavitiesOf(500, 500, 500, 800, 500, 500), holesOf(600, 600, 600, 600, 600, 600), []int64{0, -1, 1}},
		{"the second stays without, since it fits into the hole of the first only", cavitiesOf(600, 600, 600, 600, 500, 500), holesOf(700, 700, 600, 600), []int64{0, -1, 1}},
		{"wide and deep ones", cavitiesOf(600, 500, 500, 600, 600, 600), holesOf(700, 700, 700, 600, 600, 700), []int64{1, 2, 0}},
		{"the first one of three lists with two moulds", cavitiesOf(500, 500, 500, 600, 600, 500), holesOf(700, 600, 600, 700), []int64{0, 1, -1}},
	} {
		got, code := impl.PlaceMoulds(c.cavities, 100, c.holes)
		checkList(t, "PlaceMoulds: "+c.name, got, code, c.want, codeOK)
		checkPlaces(t, c.cavities, 100, c.holes)
	}
	small, large := smallProfile(), read("large 8000/4500/600")
	holes := holesOf(6000, 3000, 9000, 2000, 5500, 3000)
	got, code := impl.PlaceMoulds([]impl.Profile{small, large, small, small}, 500, holes)
	checkList(t, "PlaceMoulds of small and large ones", got, code, []int64{0, 1, 2, -1}, codeOK)
	got, code = impl.PlaceMoulds([]impl.Profile{small, small, small, large}, 500, holes)
	checkList(t, "PlaceMoulds with the large one at last", got, code, []int64{0, 1, 2, -1}, codeOK)
	got, code = impl.PlaceMoulds([]impl.Profile{small, small, large}, 500, holes)
	checkList(t, "PlaceMoulds of three", got, code, []int64{0, 2, 1}, codeOK)
}

// TestP16ManyMoulds holds PlaceMoulds against the model, and looks for a further mould that could be placed.
func TestP16ManyMoulds(t *testing.T) {
	random := rand.New(rand.NewSource(154))
	placed, gaveWay := map[int64]int{}, 0
	for range 6000 {
		cavities, wall, holes := randomMoulds(random, 5)
		checkPlaces(t, cavities, wall, holes)
		places, _ := impl.PlaceMoulds(cavities, wall, holes)
		placed[impl.CountPlaced(places)]++
		for k, place := range places {
			fits, _ := impl.HolesFor(cavities[k], wall, holes)
			if place >= 0 && (!slices.Contains(fits, place) || slices.Index(places, place) != k) {
				t.Errorf("PlaceMoulds(%v, %d, %v): got %v, but %d fits into %v", cavities, wall, holes, places, k, fits)
			}
			if place < 0 && slices.ContainsFunc(fits, func(hole int64) bool { return !slices.Contains(places, hole) }) {
				t.Errorf("PlaceMoulds(%v, %d, %v): got %v, but %d also fits into one of %v", cavities, wall, holes, places, k, fits)
			}
			if slices.ContainsFunc(fits, func(hole int64) bool { return hole < place && slices.Index(places, hole) > k }) {
				gaveWay++
			}
		}
	}
	for count := range int64(6) {
		if placed[count] < 20 {
			t.Errorf("only %d times %d moulds are placed", placed[count], count)
		}
	}
	if gaveWay < 100 {
		t.Errorf("only %d moulds give way to others", gaveWay)
	}
}

// TestP16FullMoulds has eight moulds and eight holes, of which many lists are to be told apart.
func TestP16FullMoulds(t *testing.T) {
	same := slices.Repeat(cavitiesOf(500, 500), 8)
	checkPlaces(t, same, 100, equalHoles(8, 600, 600))
	got, code := impl.PlaceMoulds(same, 100, equalHoles(8, 600, 600))
	checkList(t, "PlaceMoulds of 8 equal moulds", got, code, upTo(8), codeOK)
	checkPlaces(t, same[:7], 100, equalHoles(8, 600, 600))
	checkPlaces(t, same, 100, equalHoles(7, 600, 600))
	got, code = impl.PlaceMoulds(same, 101, equalHoles(8, 600, 600))
	checkList(t, "PlaceMoulds of 8 moulds that do not fit", got, code, slices.Repeat([]int64{-1}, 8), codeOK)
	// Each mould fits into the holes of those behind it, too.
	var rising, falling []int64
	for i := range int64(8) {
		rising, falling = append(rising, 500+i, 500), append(falling, 607-i, 600)
	}
	got, code = impl.PlaceMoulds(cavitiesOf(rising...), 100, holesOf(falling...))
	checkList(t, "PlaceMoulds of rising moulds", got, code, []int64{7, 6, 5, 4, 3, 2, 1, 0}, codeOK)
	checkPlaces(t, cavitiesOf(rising...), 100, holesOf(falling...))
	random := rand.New(rand.NewSource(155))
	for range 60 {
		cavities, wall, holes := randomMoulds(random, 8)
		checkPlaces(t, cavities, wall, holes)
	}
}

// TestP16HolesErrors: ErrInvalid comes before ErrRange, and ErrRange before ErrFull, wherever in a list it is.
func TestP16HolesErrors(t *testing.T) {
	good, nine := smallProfile(), slices.Repeat([]impl.Profile{smallProfile()}, 9)
	check := func(cavities []impl.Profile, wall int64, holes []impl.Hole, want int64) {
		t.Helper()
		got, code := impl.PlaceMoulds(cavities, wall, holes)
		checkList(t, fmt.Sprintf("PlaceMoulds of %d moulds with a wall of %d into %v", len(cavities), wall, holes), got, code, nil, want)
	}
	checkOne := func(cavity impl.Profile, wall int64, holes []impl.Hole, want int64) {
		t.Helper()
		got, code := impl.HolesFor(cavity, wall, holes)
		checkList(t, fmt.Sprintf("HolesFor(%v, %d, %v)", cavity, wall, holes), got, code, nil, want)
	}
	walls := append(slices.Clone(noWalls), 1, 500, maxRadius)
	for i, p := range badProfiles() {
		holes, wall := goodHoles()[i%len(goodHoles())], walls[i%len(walls)]
		for _, w := range []int64{wall, 500, 0} {
			check([]impl.Profile{p}, w, holes, codeInvalid)
			check([]impl.Profile{good, p}, w, holes, codeInvalid)
			check([]impl.Profile{p, good}, w, holes, codeInvalid)
			check(append(slices.Clone(nine), p), w, holes, codeInvalid)
			check(append([]impl.Profile{p}, nine...), w, holes, codeInvalid)
			check([]impl.Profile{p}, w, badHoles()[i%len(badHoles())], codeInvalid)
			checkOne(p, w, holes, codeInvalid)
			checkOne(p, w, badHoles()[i%len(badHoles())], codeInvalid)
		}
	}
	for i, holes := range badHoles() {
		for _, w := range []int64{walls[i%len(walls)], 500, 0} {
			for _, cavities := range [][]impl.Profile{nil, {good}, {good, good}, nine} {
				check(cavities, w, holes, codeInvalid)
			}
			checkOne(good, w, holes, codeInvalid)
		}
	}
	for _, holes := range goodHoles() {
		for _, w := range noWalls {
			for _, cavities := range [][]impl.Profile{nil, {good}, {good, good}, nine, slices.Repeat(nine, 100)} {
				check(cavities, w, holes, codeRange)
			}
			checkOne(good, w, holes, codeRange)
		}
		for _, w := range []int64{1, 500, maxRadius} {
			check(nine, w, holes, codeFull)
			check(slices.Repeat(nine, 100), w, holes, codeFull)
		}
	}
	if _, code := impl.PlaceMoulds(nine[:8], 500, nil); code != codeOK {
		t.Errorf("PlaceMoulds of 8 moulds: got the code %d", code)
	}
}

func TestP16CountPlaced(t *testing.T) {
	for _, c := range []struct {
		places []int64
		want   int64
	}{
		{nil, 0}, {[]int64{}, 0}, {[]int64{0}, 1}, {[]int64{-1}, 0}, {[]int64{1}, 1}, {[]int64{-2}, 0}, {[]int64{0, -1, 0, -1}, 2}, {[]int64{-1, -1, 7}, 1}, {[]int64{8, 9, 1000}, 3},
		{[]int64{math.MinInt64}, 0}, {[]int64{math.MaxInt64}, 1}, {[]int64{math.MinInt64, math.MaxInt64, math.MinInt64 + 1, math.MaxInt64 - 1}, 2}, {[]int64{1 << 32, -1 << 32, 1 << 31, -1 << 31, 1 << 63 >> 1}, 3},
		{slices.Repeat([]int64{0}, 1000), 1000}, {slices.Repeat([]int64{-1}, 1000), 0}, {slices.Repeat([]int64{3, -3}, 500), 500},
	} {
		if got := impl.CountPlaced(c.places); got != c.want {
			t.Errorf("CountPlaced(%v): got %d, want %d", c.places, got, c.want)
		}
	}
	for _, n := range edgeNumbers {
		want := int64(0)
		if n >= 0 {
			want = 1
		}
		if got := impl.CountPlaced([]int64{n}); got != want {
			t.Errorf("CountPlaced(%d): got %d, want %d", n, got, want)
		}
	}
}

var holeTexts = []string{"a 6000x3000", "b 9000x2000", "c 1x1", "abcdefghij 300000x600000", "z9 1x600000", "x 300000x1", "xx 10x10", "x1x1 12x21", "a1 100x299999"}

func TestP16HoleTexts(t *testing.T) {
	for _, text := range holeTexts {
		h, ok := impl.ReadHole(text)
		if got := impl.HoleText(h); got != text || !ok {
			t.Errorf("ReadHole(%q): got %v %v, with the text %q", text, h, ok, got)
		}
	}
	holes := slices.Concat(slices.Concat(goodHoles()...), slices.Concat(badHoles()...))
	random := rand.New(rand.NewSource(156))
	for range 300 {
		holes = append(holes, holeWith(fmt.Sprintf("x%d", random.Intn(1000)), random.Int63n(holeRadius+2), random.Int63n(holeDepth+2)))
	}
	for _, h := range holes {
		text, want := impl.HoleText(h), ""
		if isHole(h) {
			want = fmt.Sprintf("%s %dx%d", h.Name, h.Radius, h.Depth)
		}
		if text != want {
			t.Errorf("HoleText(%v): got %q, want %q", h, text, want)
		}
		if got, ok := impl.ReadHole(text); ok != isHole(h) || ok && got != h || !ok && got != (impl.Hole{}) {
			t.Errorf("ReadHole(%q): got %v %v, want %v", text, got, ok, h)
		}
	}
}

func TestP16ReadHole(t *testing.T) {
	bad := []string{
		// missing, superfluous and empty parts
		"a", "a ", "a x", "a 6000", "a 6000x", "a x3000", "a 6000x3000x", "a x6000x3000", "a 6000xx3000", "a 6000x3000x1", "a 1x1x1", "6000x3000", " 6000x3000", "x6000x3000", "a6000x3000", "ax6000x3000", "a x 6000x3000", "a a 6000x3000", "a 6000x3000 a", "a 6000x3000 b 9000x2000", "a 6000x3000,b 9000x2000", "a 6000 3000", "a 6000x 3000", "a 6000 x3000", "a 6000 x 3000", "x x", "x xx", "xxx",
		// blanks and other separators
		"a  6000x3000", " a 6000x3000", "a 6000x3000 ", "a\t6000x3000", "a 6000x3000\n", "\na 6000x3000", "a\u00a06000x3000", "a 6000x3000\x00", "a 6000X3000", "a 6000×3000", "a 6000*3000", "a 6000,3000", "a 6000/3000", "a 6000:3000", "a 6000.3000", "a-6000x3000", "a,6000x3000",
		// leading zeros and signs
		"a 06000x3000", "a 6000x03000", "a 00x1", "a +6000x3000", "a 6000x+3000", "a -6000x3000", "a 6000x-3000", "a -1x-1", "a -0x1", "a 1x-0", "a 0x1", "a 1x0", "a 0x0", "a 0x6000x3000", "a 6000x0x3000", "a 6e3x3000", "a 6_000x3000", "a 6000.0x3000", "a 6000x3000.0", "a ٦000x3000", "a xxx", "a axb", "a 600Ox3000",
		// names that are none
		"A 6000x3000", "9 6000x3000", "1a 6000x3000", "abcdefghijk 6000x3000", "a- 6000x3000", "a.b 6000x3000", "é 6000x3000", "\xff 6000x3000", "- 6000x3000",
		// holes that are not valid
		"a 300001x1", "a 1x600001", "a 600000x1", "a 300001x600001", "a 1000000000000x1", "a 1x1000000000000", "a 4294967297x1", "a 1x4294967297", "a 18446744073709551617x1", "a 1x18446744073709551617", "a 9223372036854775807x1", "a -9223372036854775808x1",
		strings.Repeat(" ", 1000), strings.Repeat("x", 1000), "a " + strings.Repeat("x", 1000), "a " + strings.Repeat("1x", 1000) + "1", "a " + strings.Repeat("9", 1000) + "x1", "a 1x" + strings.Repeat("9", 1000), strings.Repeat("a", 1000) + " 6000x3000",
	}
	for _, s := range slices.Concat(bad, edgeTexts, pointedTexts, temperamentTexts, soundTexts, profileTexts, modelTexts, cutsTexts, goalTexts, measureTexts, spotsTexts, ingotTexts, meltTexts) {
		if got, ok := impl.ReadHole(s); got != (impl.Hole{}) || ok {
			t.Errorf("ReadHole(%q): got %v %v, want none", s, got, ok)
		}
	}
}

// TestP16DamagedHolesAreNotRead: a text that is damaged is that of the hole that is read, or of none.
func TestP16DamagedHolesAreNotRead(t *testing.T) {
	for _, s := range damagedTexts(holeTexts, " 01239x,-+aAX") {
		got, ok := impl.ReadHole(s)
		if ok && (impl.HoleText(got) != s || !isHole(got)) || !ok && got != (impl.Hole{}) {
			t.Errorf("ReadHole(%q): got %v %v", s, got, ok)
		}
	}
}

// mouldsResults has the results of all functions of the chapter for valid and invalid arguments, as texts.
func mouldsResults() []string {
	var all []string
	add := func(results ...any) { all = append(all, fmt.Sprint(results...)) }
	shrinks, walls := slices.Concat(goodShrinks, noShrinks), append(slices.Clone(noWalls), 1, 500, 2500, maxRadius)
	profiles, holes := slices.Concat(goodProfiles(), badProfiles()), slices.Concat(goodHoles(), badHoles())
	for i, p := range profiles {
		for k := range 5 {
			shrink, wall, some := shrinks[(i*7+k)%len(shrinks)], walls[(i*3+k)%len(walls)], holes[(i*11+k)%len(holes)]
			add(impl.MouldFor(p, shrink))
			add(impl.CastFrom(p, shrink))
			add(impl.CastError(p, shrink))
			add(impl.HolesFor(p, wall, some))
			add(impl.PlaceMoulds(profiles[i:min(i+k, len(profiles))], wall, some))
			add(impl.PlaceMoulds(goodProfiles()[:2*k], wall, some))
			for _, h := range some {
				add(impl.FitsHole(p, wall, h), impl.FitsHole(p, 500, h))
			}
		}
	}
	for _, some := range holes {
		add(impl.ValidHoles(some))
		for _, h := range some {
			add(impl.HoleText(h))
		}
	}
	numbers := append(slices.Clone(edgeNumbers), 5, 39, 41, 100, 101, 2500, 100000, maxRadius)
	for i, wall := range numbers {
		for k, layer := range numbers {
			add(impl.LayersFor(wall, layer))
			add(impl.DryingTime(wall, layer, numbers[(i+k)%len(numbers)], numbers[(i*3+k)%len(numbers)]))
			add(impl.DryingTime(2500, 100, wall, layer))
			add(impl.CountPlaced([]int64{wall, layer}))
		}
	}
	random := rand.New(rand.NewSource(157))
	for range 300 {
		add(impl.PlaceMoulds(randomMoulds(random, 8)))
	}
	for _, s := range slices.Concat(holeTexts, edgeTexts, pointedTexts) {
		add(impl.ReadHole(s))
	}
	return all
}

// TestP1MouldsReturn: every function of chapter 15 returns for all arguments, and the same again, also at the same time.
func TestP1MouldsReturn(t *testing.T) { checkReturns(t, mouldsResults) }

// roomyMoulds returns three cavities and three holes that are parts of longer lists, as are the rings of each cavity, which lie behind one another in one long list.
func roomyMoulds() ([]impl.Profile, []impl.Ring, []impl.Hole) {
	rings := append(slices.Grow([]impl.Ring(nil), 12), ringWith(5000, 4500, 600), ringWith(4800, 4400, 900), ringWith(9, 9, 9), ringWith(8000, 4500, 600), ringWith(4800, 4400, 900), ringWith(4700, 4300, 10), ringWith(1, 2, 3))
	cavities := append(slices.Grow([]impl.Profile(nil), 7), profileWith(rings[:2]...), profileWith(rings[3:4]...), profileWith(rings[4:6]...), profileWith(), profileWith(rings[6:7]...))
	cavities[0].Rings, cavities[1].Rings, cavities[2].Rings, cavities[4].Rings = rings[:2], rings[3:4], rings[4:6], rings[6:7]
	holes := append(slices.Grow([]impl.Hole(nil), 9), holesOf(9000, 3000, 5500, 3000, 6000, 2000)...)
	holes = append(holes, impl.Hole{Name: "Z"}, holeWith("a", 9, 9))
	return cavities[:3], rings[:cap(rings)], holes[:3]
}

// sameCavities reports whether profiles and the lists of which they are parts are those of roomyMoulds.
func sameCavities(cavities []impl.Profile, rings []impl.Ring, holes []impl.Hole) bool {
	wantCavities, wantRings, wantHoles := roomyMoulds()
	return slices.EqualFunc(cavities[:7], wantCavities[:7], sameProfiles) && slices.Equal(rings, wantRings) && slices.Equal(holes[:9], wantHoles[:9])
}

// TestP1MouldsKeepTheirArguments: neither cavities nor their rings, nor holes nor places, nor the capacity behind any of them, are modified.
func TestP1MouldsKeepTheirArguments(t *testing.T) {
	cavities, rings, holes := roomyMoulds()
	numbers := append(slices.Grow([]int64(nil), 9), 3, -1, 0, 7, -5)
	wantNumbers := slices.Clone(numbers[:cap(numbers)])
	for size := range 6 {
		some := holes[:size]
		impl.ValidHoles(some)
		impl.CountPlaced(numbers[:size])
		for _, wall := range []int64{0, 500, maxRadius} {
			for count := range 6 {
				impl.PlaceMoulds(cavities[:count], wall, some)
			}
			for _, p := range cavities[:5] {
				impl.HolesFor(p, wall, some)
				for _, h := range some {
					impl.FitsHole(p, wall, h)
				}
			}
		}
		for _, p := range cavities[:5] {
			for _, shrink := range []int64{-1, 0, 15, 50} {
				impl.MouldFor(p, shrink)
				impl.CastFrom(p, shrink)
				impl.CastError(p, shrink)
			}
		}
		if !sameCavities(cavities, rings, holes) || !slices.Equal(numbers[:cap(numbers)], wantNumbers) {
			t.Fatalf("%d holes: the cavities are now %v, their rings %v, the holes %v and the numbers %v", size, cavities[:7], rings, holes[:9], numbers)
		}
	}
}

// TestP1MouldsAreNew: a result that is overwritten, with the capacity behind it, changes neither an argument nor another result, and the other way round.
func TestP1MouldsAreNew(t *testing.T) {
	for _, shrink := range []int64{0, 1, 15, 50} {
		for _, text := range []string{"small 5000/4500/600", smallText, "small 5000/4500/600 4800/4400/900 4700/4300/100"} {
			checkNew(t, "MouldFor", read(text), func(p impl.Profile) (impl.Profile, int64) { return impl.MouldFor(p, shrink) })
			checkNew(t, "CastFrom", read(text), func(p impl.Profile) (impl.Profile, int64) { return impl.CastFrom(p, shrink) })
		}
	}
	for name, call := range map[string]func(cavities []impl.Profile, holes []impl.Hole) ([]int64, int64){
		"HolesFor": func(cavities []impl.Profile, holes []impl.Hole) ([]int64, int64) {
			return impl.HolesFor(cavities[0], 500, holes)
		},
		"PlaceMoulds": func(cavities []impl.Profile, holes []impl.Hole) ([]int64, int64) {
			return impl.PlaceMoulds(cavities, 500, holes)
		},
	} {
		cavities, rings, holes := roomyMoulds()
		want, got := slices.Clone(first(call(cavities, holes))), first(call(cavities, holes))
		overwrite(first(call(cavities, holes)), 99)
		if again := first(call(cavities, holes)); !slices.Equal(got, want) || !slices.Equal(again, want) || len(want) != 3 || !sameCavities(cavities, rings, holes) {
			t.Errorf("%s: got %v, then %v and %v; the cavities are now %v, and the holes %v", name, want, got, again, cavities[:7], holes[:9])
		}
		overwrite(rings, ringWith(1, 2, 3))
		overwrite(cavities, impl.Profile{Name: "mark"})
		overwrite(holes, holeWith("mark", 7, 7))
		if !slices.Equal(got, want) {
			t.Errorf("%s: got %v, which has become %v", name, want, got)
		}
	}
}
