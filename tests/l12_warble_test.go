package tests

import (
	"fmt"
	"maps"
	"math"
	"math/big"
	"math/rand"
	"slices"
	"strconv"
	"strings"
	"testing"

	"loop.example/g00952/impl"
)

// The limits of chapter 12, written out from the document.
const (
	maxSpots = 16
	maxSpot  = 1000
)

// sineRows is the table of the chapter, a row for each ten degrees.
const sineRows = `
0, 17452, 34899, 52336, 69756, 87156, 104528, 121869, 139173, 156434
173648, 190809, 207912, 224951, 241922, 258819, 275637, 292372, 309017, 325568
342020, 358368, 374607, 390731, 406737, 422618, 438371, 453990, 469472, 484810
500000, 515038, 529919, 544639, 559193, 573576, 587785, 601815, 615661, 629320
642788, 656059, 669131, 681998, 694658, 707107, 719340, 731354, 743145, 754710
766044, 777146, 788011, 798636, 809017, 819152, 829038, 838671, 848048, 857167
866025, 874620, 882948, 891007, 898794, 906308, 913545, 920505, 927184, 933580
939693, 945519, 951057, 956305, 961262, 965926, 970296, 974370, 978148, 981627
984808, 987688, 990268, 992546, 994522, 996195, 997564, 998630, 999391, 999848
1000000`

// quarterModel has the sines of 0 to 90 degrees.
var quarterModel = func() []int64 {
	var sines []int64
	for _, field := range strings.FieldsFunc(sineRows, func(r rune) bool { return r == ',' || r == ' ' || r == '\n' }) {
		sine, err := strconv.ParseInt(field, 10, 64)
		if err != nil {
			panic(err)
		}
		sines = append(sines, sine)
	}
	return sines
}()

// angleModel returns the same angle from 0 to 359.
func angleModel(degrees *big.Int) int64 {
	return new(big.Int).Mod(degrees, big.NewInt(360)).Int64()
}

// sineModel returns the sine of an angle from 0 to 359, by the quarter in which it lies.
func sineModel(angle int64) int64 {
	switch angle / 90 {
	case 0:
		return quarterModel[angle]
	case 1:
		return quarterModel[180-angle]
	case 2:
		return -quarterModel[angle-180]
	}
	return -quarterModel[360-angle]
}

// cosineModel returns the cosine of an angle from 0 to 359, which is the same on both sides of 0.
func cosineModel(angle int64) int64 {
	if angle > 180 {
		angle = 360 - angle
	}
	if angle > 90 {
		return -quarterModel[angle-90]
	}
	return quarterModel[90-angle]
}

// spotsOf returns the spots of angles and weights, which follow one another.
func spotsOf(numbers ...int64) []impl.Spot {
	var list []impl.Spot
	for i := 0; i < len(numbers); i += 2 {
		list = append(list, impl.Spot{Angle: numbers[i], Weight: numbers[i+1]})
	}
	return list
}

// spotsFrom returns spots of the same weight at angles that follow one another.
func spotsFrom(angle int64, count int, weight int64) []impl.Spot {
	var list []impl.Spot
	for i := range count {
		list = append(list, impl.Spot{Angle: angle + int64(i), Weight: weight})
	}
	return list
}

// goodSpots has valid spots: none, with each number at its limits, and as many as possible.
func goodSpots() [][]impl.Spot {
	lists := [][]impl.Spot{
		nil, {}, spotsOf(0, 5), spotsOf(0, 5, 45, 5), spotsOf(0, 1000), spotsOf(359, -1000), spotsOf(0, -1, 359, 1), spotsOf(0, 1000, 1, -1000), spotsOf(358, 1, 359, 2), spotsOf(20, 1), spotsOf(0, 1, 30, 1, 60, 1), spotsOf(10, 1, 350, 2),
		spotsOf(0, 5, 90, 5, 180, 5, 270, 5), spotsOf(10, 3, 100, 4, 200, -7), spotsOf(7, 3, 50, 2, 111, -4, 300, 9), spotsOf(0, 1000, 45, 1000, 90, 1000), spotsOf(0, 1000, 22, -1000), spotsOf(13, 1, 48, -6, 109, -4), spotsOf(4, 8, 6, 1, 8, -5), spotsOf(120, 6, 141, 2, 148, 2),
		spotsFrom(0, 15, 1000), spotsFrom(0, 16, 1000), spotsFrom(344, 16, -1000), spotsFrom(100, 16, 1), spotsFrom(100, 15, -7),
	}
	var around []impl.Spot
	for i := range int64(16) {
		around = append(around, impl.Spot{Angle: i * 22, Weight: 1000 - 125*i})
	}
	around[8].Weight = -1
	return append(lists, around, around[:15], around[3:])
}

// badSpots has spots that are not valid, each for one reason or for several.
func badSpots() [][]impl.Spot {
	bad := [][]impl.Spot{
		{{}}, spotsFrom(0, 17, 5), spotsFrom(0, 18, -1000), spotsFrom(0, 300, 1), make([]impl.Spot, 16), make([]impl.Spot, 17), append(spotsFrom(0, 15, 1), impl.Spot{}),
		// equal and falling angles
		spotsOf(0, 1, 0, 1), spotsOf(0, 1, 0, -1), spotsOf(359, 1, 359, 2), spotsOf(45, 1, 0, 1), spotsOf(1, 1, 0, 1), spotsOf(0, 1, 2, 1, 1, 1), spotsOf(1, 1, 0, 1, 2, 1), spotsOf(359, 1, 0, 1), append(spotsFrom(0, 15, 1), spotsOf(14, 1)...), append(spotsFrom(0, 15, 1), spotsOf(0, 1)...), slices.Repeat(spotsOf(7, 1), 16),
	}
	for _, angle := range noAngles {
		bad = append(bad, spotsOf(angle, 1), spotsOf(angle, 1, 5, 1), spotsOf(5, 1, angle, 1), spotsOf(0, 1, angle, 1, 359, 1))
	}
	for _, weight := range noWeights {
		bad = append(bad, spotsOf(0, weight), spotsOf(359, weight), spotsOf(0, weight, 1, 1), spotsOf(0, 1, 1, weight), spotsOf(0, 1, 1, weight, 2, 1), append(spotsFrom(0, 15, 1), impl.Spot{Angle: 15, Weight: weight}))
	}
	return bad
}

var (
	noAngles  = []int64{math.MinInt64, math.MinInt64 + 1, -1 << 32, -360, -2, -1, 360, 361, 720, 1 << 32, 1<<32 + 1, math.MaxInt64 - 1, math.MaxInt64}
	noWeights = []int64{math.MinInt64, math.MinInt64 + 1, -1 << 32, -2000, -1002, -1001, 0, 1001, 1002, 2000, 1 << 32, 1<<32 + 1, math.MaxInt64 - 1, math.MaxInt64}
	noWaves   = []int64{math.MinInt64, -1 << 32, -6, -2, -1, 0, 1, 7, 8, 12, 1 << 32, 1<<32 + 2, math.MaxInt64}
	noSplits  = []int64{math.MinInt64, -100000000, -1, 100000001, 1 << 32, math.MaxInt64}
)

func isWeight(n int64) bool { return n != 0 && n >= -maxSpot && n <= maxSpot }

func isSpot(s impl.Spot) bool { return s.Angle >= 0 && s.Angle <= 359 && isWeight(s.Weight) }

func isWaves(n int64) bool { return n >= 2 && n <= 6 }

func areSpots(list []impl.Spot) bool {
	for i, s := range list {
		if !isSpot(s) || i > 0 && s.Angle <= list[i-1].Angle {
			return false
		}
	}
	return len(list) <= maxSpots
}

// sortedSpots returns the spots with the weights of angles.
func sortedSpots(weights map[int64]int64) []impl.Spot {
	var list []impl.Spot
	for _, angle := range slices.Sorted(maps.Keys(weights)) {
		list = append(list, impl.Spot{Angle: angle, Weight: weights[angle]})
	}
	return list
}

// addModel returns valid spots with one more, or the error.
func addModel(list []impl.Spot, s impl.Spot) ([]impl.Spot, int64) {
	if !isSpot(s) {
		return nil, codeRange
	}
	weights := map[int64]int64{}
	for _, spot := range list {
		weights[spot.Angle] = spot.Weight
	}
	weights[s.Angle] += s.Weight
	if weights[s.Angle] == 0 {
		delete(weights, s.Angle)
	} else if !isWeight(weights[s.Angle]) {
		return nil, codeState
	}
	if len(weights) > maxSpots {
		return nil, codeFull
	}
	return sortedSpots(weights), codeOK
}

func turnModel(list []impl.Spot, by int64) []impl.Spot {
	weights := map[int64]int64{}
	for _, s := range list {
		weights[angleModel(new(big.Int).Add(big.NewInt(s.Angle), big.NewInt(by)))] = s.Weight
	}
	return sortedSpots(weights)
}

// waveModel returns C and S of some spots.
func waveModel(list []impl.Spot, waves int64) (int64, int64) {
	c, s := new(big.Int), new(big.Int)
	for _, spot := range list {
		angle := 2 * waves * spot.Angle % 360
		c.Add(c, productOf(spot.Weight, cosineModel(angle)))
		s.Add(s, productOf(spot.Weight, sineModel(angle)))
	}
	return nearestModel(c, 1000), nearestModel(s, 1000)
}

func splitModel(list []impl.Spot, waves int64) int64 {
	c, s := waveModel(list, waves)
	square := new(big.Int).Add(productOf(c, c), productOf(s, s))
	return square.Sqrt(square).Int64()
}

// directionsModel returns all angles in whose direction C and S are greatest, in ascending order; none if they are 0.
func directionsModel(list []impl.Spot, waves int64) []int64 {
	c, s := waveModel(list, waves)
	if c == 0 && s == 0 {
		return nil
	}
	var angles []int64
	greatest := int64(math.MinInt64)
	for d := range int64(360) {
		along := c*cosineModel(d) + s*sineModel(d)
		if along > greatest {
			angles, greatest = nil, along
		}
		if along == greatest {
			angles = append(angles, d)
		}
	}
	return angles
}

// bestModel returns all angles at which a spot leads to the least split, in ascending order, and this split.
func bestModel(list []impl.Spot, waves, weight int64) ([]int64, int64) {
	var angles []int64
	least := int64(math.MaxInt64)
	for angle := range int64(360) {
		added, code := addModel(list, impl.Spot{Angle: angle, Weight: weight})
		if code != codeOK {
			continue
		}
		split := splitModel(added, waves)
		if split < least {
			angles, least = nil, split
		}
		if split == least {
			angles = append(angles, angle)
		}
	}
	return angles, least
}

// The reasons for which no further spot is added.
const (
	endQuiet = iota
	endNotLess
	endFull
)

// quietModel returns spots to which others have been added until they are quiet, how many, and why there are no more.
func quietModel(list []impl.Spot, waves, weight, limit int64) ([]impl.Spot, int, int) {
	for count := 0; ; count++ {
		split := splitModel(list, waves)
		if split <= limit {
			return list, count, endQuiet
		}
		angles, least := bestModel(list, waves, weight)
		if len(angles) == 0 {
			return list, count, endFull
		}
		if least >= split {
			return list, count, endNotLess
		}
		list, _ = addModel(list, impl.Spot{Angle: angles[0], Weight: weight})
	}
}

// randomSpots returns valid spots, at any angles or only at a few, with weights up to some number.
func randomSpots(random *rand.Rand) []impl.Spot {
	most, step := []int64{1, 3, 10, 100, 1000}[random.Intn(5)], []int64{1, 1, 5, 15, 20}[random.Intn(5)]
	weights := map[int64]int64{}
	for range random.Intn(maxSpots + 1) {
		weight := 1 + random.Int63n(most)
		if random.Intn(2) == 0 {
			weight = -weight
		}
		weights[random.Int63n(360/step)*step] = weight
	}
	return sortedSpots(weights)
}

// manySpots has valid spots of all kinds.
func manySpots(seed int64, count int) [][]impl.Spot {
	random := rand.New(rand.NewSource(seed))
	lists := goodSpots()
	for range count {
		lists = append(lists, randomSpots(random))
	}
	return lists
}

// checkSpots holds spots and their code against what they must be.
func checkSpots(t *testing.T, what string, got []impl.Spot, code int64, want []impl.Spot, wantCode int64) {
	t.Helper()
	if !slices.Equal(got, want) || code != wantCode {
		t.Errorf("%s: got %v %d, want %v %d", what, got, code, want, wantCode)
	}
}

// checkBest holds an angle, its split and their code against what they must be.
func checkBest(t *testing.T, list []impl.Spot, waves, weight, want, wantSplit, wantCode int64) {
	t.Helper()
	angle, split, code := impl.BestSpot(list, waves, weight)
	if angle != want || split != wantSplit || code != wantCode {
		t.Errorf("BestSpot(%v, %d, %d): got %d %d %d, want %d %d %d", list, waves, weight, angle, split, code, want, wantSplit, wantCode)
	}
}

func TestP13Constants(t *testing.T) {
	got := []int64{impl.MaxSpots, impl.MaxSpot, impl.MinWaves, impl.MaxWaves}
	if want := []int64{16, 1000, 2, 6}; !slices.Equal(got, want) {
		t.Errorf("constants: got %v, want %v", got, want)
	}
}

// TestP13Example is the example of the chapter.
func TestP13Example(t *testing.T) {
	list := spotsOf(0, 5)
	both, code := impl.AddSpot(list, impl.Spot{Angle: 45, Weight: 5})
	checkSpots(t, "AddSpot", both, code, spotsOf(0, 5, 45, 5), codeOK)
	split, code := impl.SplitOf(both, 2)
	checkNumber(t, "SplitOf", split, code, 0, codeOK)
	alone, code := impl.SplitOf(list, 2)
	checkNumber(t, "SplitOf one", alone, code, 5000, codeOK)
	checkBest(t, list, 2, 5, 45, 0, codeOK)
}

// TestP13TableOfSines: every entry of the table, which has the nearest millionths, at each place of it and of the other quarters.
func TestP13TableOfSines(t *testing.T) {
	if len(quarterModel) != 91 {
		t.Fatalf("the table has %d entries", len(quarterModel))
	}
	for d, want := range quarterModel {
		angle := int64(d)
		if exact := math.Round(1e6 * math.Sin(float64(d)*math.Pi/180)); int64(exact) != want {
			t.Errorf("the entry %d of the table is %d, not %v", d, want, exact)
		}
		for turn := int64(-3); turn <= 3; turn++ {
			got := []int64{impl.WaveSine(angle + 360*turn), impl.WaveSine(180 - angle + 360*turn), -impl.WaveSine(180 + angle + 360*turn), -impl.WaveSine(360*turn - angle), impl.WaveCosine(90 - angle + 360*turn), impl.WaveCosine(angle - 90 + 360*turn), -impl.WaveCosine(90 + angle + 360*turn), -impl.WaveCosine(270 - angle + 360*turn)}
			if !slices.Equal(got, slices.Repeat([]int64{want}, 8)) {
				t.Errorf("the sine of %d degrees after %d turns, at all its places: got %v, want %d", d, turn, got, want)
			}
		}
	}
}

func TestP13Sines(t *testing.T) {
	for _, c := range []struct{ degrees, sine, cosine int64 }{
		{0, 0, 1000000}, {1, 17452, 999848}, {30, 500000, 866025}, {45, 707107, 707107}, {60, 866025, 500000}, {89, 999848, 17452}, {90, 1000000, 0}, {91, 999848, -17452}, {135, 707107, -707107}, {179, 17452, -999848}, {180, 0, -1000000}, {181, -17452, -999848}, {225, -707107, -707107},
		{269, -999848, -17452}, {270, -1000000, 0}, {271, -999848, 17452}, {315, -707107, 707107}, {359, -17452, 999848}, {360, 0, 1000000}, {361, 17452, 999848}, {450, 1000000, 0}, {719, -17452, 999848}, {720, 0, 1000000},
		{-1, -17452, 999848}, {-30, -500000, 866025}, {-89, -999848, 17452}, {-90, -1000000, 0}, {-91, -999848, -17452}, {-180, 0, -1000000}, {-181, 17452, -999848}, {-270, 1000000, 0}, {-359, 17452, 999848}, {-360, 0, 1000000}, {-361, -17452, 999848},
		// the least number is 352 degrees, the greatest one 7
		{math.MinInt64, -139173, 990268}, {math.MinInt64 + 1, -121869, 992546}, {math.MinInt64 + 8, 0, 1000000}, {math.MaxInt64, 121869, 992546}, {math.MaxInt64 - 7, 0, 1000000}, {math.MaxInt64 - 90, -992546, 121869}, {1000000000000, -984808, 173648}, {-1000000000000, 984808, 173648},
	} {
		got := []int64{impl.WaveSine(c.degrees), impl.WaveCosine(c.degrees)}
		if want := []int64{c.sine, c.cosine}; !slices.Equal(got, want) {
			t.Errorf("sine and cosine of %d: got %v, want %v", c.degrees, got, want)
		}
	}
	random := rand.New(rand.NewSource(121))
	numbers := slices.Clone(edgeNumbers)
	for degrees := int64(-1100); degrees <= 1100; degrees++ {
		numbers = append(numbers, degrees, math.MinInt64+1100+degrees, math.MaxInt64-1100+degrees, int64(random.Uint64()))
	}
	for _, degrees := range numbers {
		angle := angleModel(big.NewInt(degrees))
		if got := impl.WaveSine(degrees); got != sineModel(angle) {
			t.Errorf("WaveSine(%d): got %d, want %d", degrees, got, sineModel(angle))
		}
		if got := impl.WaveCosine(degrees); got != cosineModel(angle) {
			t.Errorf("WaveCosine(%d): got %d, want %d", degrees, got, cosineModel(angle))
		}
	}
}

func TestP13ValidSpots(t *testing.T) {
	for _, list := range goodSpots() {
		if !impl.ValidSpots(list) || !areSpots(list) {
			t.Errorf("ValidSpots(%v): got false", list)
		}
	}
	for _, list := range badSpots() {
		if impl.ValidSpots(list) || areSpots(list) {
			t.Errorf("ValidSpots(%v): got true", list)
		}
	}
	for count := range 360 {
		if got := impl.ValidSpots(spotsFrom(0, count, 3)); got != (count <= 16) {
			t.Errorf("ValidSpots of %d spots: got %v", count, got)
		}
	}
	for weight := int64(-1005); weight <= 1005; weight++ {
		if got, want := impl.ValidSpots(spotsOf(7, weight)), weight != 0 && weight >= -1000 && weight <= 1000; got != want {
			t.Errorf("ValidSpots of the weight %d: got %v", weight, got)
		}
	}
	for angle := int64(-5); angle <= 365; angle++ {
		if got, want := impl.ValidSpots(spotsOf(angle, 1)), angle >= 0 && angle < 360; got != want {
			t.Errorf("ValidSpots of the angle %d: got %v", angle, got)
		}
		if got, want := impl.ValidSpots(spotsOf(100, 1, angle, 1)), angle > 100 && angle < 360; got != want {
			t.Errorf("ValidSpots of the angles 100 and %d: got %v", angle, got)
		}
	}
}

func TestP13SameSpots(t *testing.T) {
	lists := slices.Concat(goodSpots(), badSpots())
	for i, a := range lists {
		for k, b := range lists {
			same := len(a) == len(b)
			for j := 0; same && j < len(a); j++ {
				same = a[j].Angle == b[j].Angle && a[j].Weight == b[j].Weight
			}
			if got := impl.SameSpots(a, b); got != same || i == k && !got {
				t.Errorf("SameSpots(%v, %v): got %v", a, b, got)
			}
		}
		if !impl.SameSpots(a, slices.Clone(a)) {
			t.Errorf("SameSpots(%v) and a copy: got false", a)
		}
		for j := range a {
			angle, weight := slices.Clone(a), slices.Clone(a)
			angle[j].Angle++
			weight[j].Weight--
			if impl.SameSpots(a, angle) || impl.SameSpots(weight, a) || impl.SameSpots(a, a[:j]) {
				t.Errorf("SameSpots(%v) and another list: got true", a)
			}
		}
	}
	if !impl.SameSpots(nil, []impl.Spot{}) || !impl.SameSpots(make([]impl.Spot, 0, 5), nil) {
		t.Error("SameSpots of no spots: got false")
	}
}

func TestP13AddSpot(t *testing.T) {
	for _, c := range []struct {
		list          []impl.Spot
		angle, weight int64
		want          []impl.Spot
		code          int64
	}{
		{nil, 0, 5, spotsOf(0, 5), codeOK}, {nil, 359, -1000, spotsOf(359, -1000), codeOK}, {spotsOf(0, 5), 45, 5, spotsOf(0, 5, 45, 5), codeOK}, {spotsOf(45, 5), 0, 5, spotsOf(0, 5, 45, 5), codeOK}, {spotsOf(0, 1, 20, 2), 10, 3, spotsOf(0, 1, 10, 3, 20, 2), codeOK},
		// a spot of the same angle, one that makes it vanish, and one that makes its weight too great
		{spotsOf(0, 5), 0, 5, spotsOf(0, 10), codeOK}, {spotsOf(0, 5), 0, -6, spotsOf(0, -1), codeOK}, {spotsOf(0, 5), 0, -5, nil, codeOK}, {spotsOf(0, 5, 1, 6, 2, 7), 0, -5, spotsOf(1, 6, 2, 7), codeOK}, {spotsOf(0, 5, 1, 6, 2, 7), 1, -6, spotsOf(0, 5, 2, 7), codeOK}, {spotsOf(0, 5, 1, 6, 2, 7), 2, -7, spotsOf(0, 5, 1, 6), codeOK},
		{spotsOf(0, 1000), 0, -1000, nil, codeOK}, {spotsOf(0, 1000), 0, 1, nil, codeState}, {spotsOf(0, 999), 0, 1, spotsOf(0, 1000), codeOK}, {spotsOf(0, 999), 0, 2, nil, codeState}, {spotsOf(0, -1000), 0, -1, nil, codeState}, {spotsOf(0, -999), 0, -1, spotsOf(0, -1000), codeOK}, {spotsOf(0, -1000), 0, -1000, nil, codeState}, {spotsOf(0, 1000), 0, 1000, nil, codeState}, {spotsOf(0, 1, 9, 1000), 9, 1, nil, codeState}, {spotsOf(0, -1000), 0, 1000, nil, codeOK}, {spotsOf(0, 1000), 1, 1, spotsOf(0, 1000, 1, 1), codeOK},
		// one that is the last that there may be, one too many, and old angles of a full list
		{spotsFrom(0, 15, 7), 15, 7, spotsFrom(0, 16, 7), codeOK}, {spotsFrom(1, 15, 7), 0, 7, spotsFrom(0, 16, 7), codeOK}, {spotsFrom(0, 16, 7), 16, 7, nil, codeFull}, {spotsFrom(1, 16, 7), 0, 7, nil, codeFull}, {spotsFrom(0, 16, 7), 359, -7, nil, codeFull},
		{spotsFrom(0, 16, 7), 0, -7, spotsFrom(1, 15, 7), codeOK}, {spotsFrom(0, 16, 7), 15, -7, spotsFrom(0, 15, 7), codeOK}, {spotsFrom(0, 16, 7), 15, 993, append(spotsFrom(0, 15, 7), spotsOf(15, 1000)...), codeOK}, {spotsFrom(0, 16, 7), 15, 994, nil, codeState}, {spotsFrom(0, 16, 7), 0, -1000, append(spotsOf(0, -993), spotsFrom(1, 15, 7)...), codeOK}, {spotsFrom(0, 16, -7), 0, -994, nil, codeState},
		// spots that are none come before sums and a full list, and lists that are none before spots
		{spotsFrom(0, 16, 7), 16, 0, nil, codeRange}, {spotsFrom(0, 16, 7), 360, 7, nil, codeRange}, {spotsFrom(0, 16, 7), -1, 7, nil, codeRange}, {spotsOf(0, 1000), 0, 1001, nil, codeRange}, {spotsOf(0, 1000), 0, -1001, nil, codeRange}, {spotsOf(0, 5), 0, 0, nil, codeRange}, {spotsOf(0, 5), 360, -5, nil, codeRange}, {spotsFrom(0, 17, 7), 16, 0, nil, codeInvalid}, {spotsFrom(0, 17, 7), 16, 7, nil, codeInvalid}, {spotsOf(1, 1, 0, 1), 360, 0, nil, codeInvalid},
	} {
		got, code := impl.AddSpot(c.list, impl.Spot{Angle: c.angle, Weight: c.weight})
		checkSpots(t, fmt.Sprintf("AddSpot(%v, %d:%d)", c.list, c.angle, c.weight), got, code, c.want, c.code)
	}
	random := rand.New(rand.NewSource(122))
	found := map[int64]int{}
	for _, list := range manySpots(123, 300) {
		spots := []impl.Spot{{Angle: random.Int63n(360), Weight: 1 + random.Int63n(1000)}, {Angle: random.Int63n(360), Weight: -1 - random.Int63n(1000)}}
		for _, s := range list {
			spots = append(spots, s, impl.Spot{Angle: s.Angle, Weight: -s.Weight}, impl.Spot{Angle: (s.Angle + 1) % 360, Weight: s.Weight}, impl.Spot{Angle: s.Angle, Weight: 1000 - s.Weight}, impl.Spot{Angle: s.Angle, Weight: 1001 - s.Weight}, impl.Spot{Angle: s.Angle, Weight: -1000 - s.Weight}, impl.Spot{Angle: s.Angle, Weight: -1001 - s.Weight})
		}
		for _, s := range spots {
			want, wantCode := addModel(list, s)
			found[wantCode]++
			got, code := impl.AddSpot(list, s)
			checkSpots(t, fmt.Sprintf("AddSpot(%v, %v)", list, s), got, code, want, wantCode)
			if !areSpots(got) {
				t.Errorf("AddSpot(%v, %v): got %v, which is not valid", list, s, got)
			}
		}
	}
	if found[codeOK] < 1000 || found[codeRange] < 100 || found[codeState] < 100 || found[codeFull] < 20 {
		t.Errorf("only %v spots of each code were added", found)
	}
	for _, list := range goodSpots() {
		for _, angle := range noAngles {
			got, code := impl.AddSpot(list, impl.Spot{Angle: angle, Weight: 1})
			checkSpots(t, fmt.Sprintf("AddSpot at %d", angle), got, code, nil, codeRange)
		}
		for _, weight := range noWeights {
			got, code := impl.AddSpot(list, impl.Spot{Angle: 7, Weight: weight})
			checkSpots(t, fmt.Sprintf("AddSpot of %d", weight), got, code, nil, codeRange)
		}
	}
}

// turns has numbers of degrees by which bells are turned.
func turns() []int64 {
	return append(slices.Clone(edgeNumbers), 15, 45, 90, 179, 180, 181, 270, 358, 359, 360, 361, 719, 720, -15, -90, -179, -180, -359, -360, -361, -720, math.MinInt64+8, math.MaxInt64-7, math.MaxInt64-359, 1<<32, -1<<32)
}

func TestP13TurnSpots(t *testing.T) {
	for _, c := range []struct {
		list []impl.Spot
		by   int64
		want []impl.Spot
	}{
		{nil, 0, nil}, {nil, math.MaxInt64, nil}, {spotsOf(0, 5, 45, 6), 0, spotsOf(0, 5, 45, 6)}, {spotsOf(0, 5, 45, 6), 360, spotsOf(0, 5, 45, 6)}, {spotsOf(0, 5, 45, 6), -360, spotsOf(0, 5, 45, 6)}, {spotsOf(0, 5, 45, 6), 1, spotsOf(1, 5, 46, 6)}, {spotsOf(0, 5, 45, 6), 314, spotsOf(314, 5, 359, 6)},
		// another spot comes first
		{spotsOf(0, 5, 45, 6), 315, spotsOf(0, 6, 315, 5)}, {spotsOf(0, 5, 45, 6), -1, spotsOf(44, 6, 359, 5)}, {spotsOf(0, 5, 45, 6), -45, spotsOf(0, 6, 315, 5)}, {spotsOf(10, 1, 350, 2), 20, spotsOf(10, 2, 30, 1)}, {spotsOf(10, 1, 20, 2, 350, 3), -20, spotsOf(0, 2, 330, 3, 350, 1)}, {spotsOf(10, 1, 20, 2, 350, 3), 345, spotsOf(5, 2, 335, 3, 355, 1)},
		{spotsOf(0, 5, 45, 6), math.MinInt64, spotsOf(37, 6, 352, 5)}, {spotsOf(0, 5, 45, 6), math.MaxInt64, spotsOf(7, 5, 52, 6)}, {spotsOf(359, 5), math.MaxInt64, spotsOf(6, 5)}, {spotsOf(359, 5), math.MinInt64, spotsOf(351, 5)}, {spotsOf(359, 5), math.MaxInt64 - 6, spotsOf(0, 5)}, {spotsFrom(344, 16, -9), 16, spotsFrom(0, 16, -9)}, {spotsFrom(0, 16, -9), -16, spotsFrom(344, 16, -9)},
	} {
		got, code := impl.TurnSpots(c.list, c.by)
		checkSpots(t, fmt.Sprintf("TurnSpots(%v, %d)", c.list, c.by), got, code, c.want, codeOK)
	}
	for _, list := range manySpots(124, 100) {
		for _, by := range turns() {
			got, code := impl.TurnSpots(list, by)
			checkSpots(t, fmt.Sprintf("TurnSpots(%v, %d)", list, by), got, code, turnModel(list, by), codeOK)
			back, code := impl.TurnSpots(got, 0-by%360)
			checkSpots(t, fmt.Sprintf("TurnSpots(%v, %d) and back", list, by), back, code, list, codeOK)
		}
	}
	for _, list := range badSpots() {
		for _, by := range []int64{0, 1, 360, math.MinInt64} {
			got, code := impl.TurnSpots(list, by)
			checkSpots(t, fmt.Sprintf("TurnSpots(%v, %d)", list, by), got, code, nil, codeInvalid)
		}
	}
}

// TestP13TurnedBellsKeepTheirWarble: after a turn, the split is the same but for the rounding of sines; it is
// exactly the same if the turn is one of the table by whole quarters of a wave.
func TestP13TurnedBellsKeepTheirWarble(t *testing.T) {
	exact := 0
	for _, list := range manySpots(125, 100) {
		sum := 0.0
		for _, s := range list {
			sum += math.Abs(float64(s.Weight))
		}
		// a sine is off by half a millionth at most, and C and S by half a thousandth more
		most := int64(math.Ceil(2*math.Sqrt2*(sum/2000+0.5))) + 1
		for waves := int64(2); waves <= 6; waves++ {
			split, code := impl.SplitOf(list, waves)
			if code != codeOK {
				t.Fatalf("SplitOf(%v, %d): got the code %d", list, waves, code)
			}
			for _, by := range turns() {
				turned, _ := impl.TurnSpots(list, by)
				got, code := impl.SplitOf(turned, waves)
				if code != codeOK || max(got-split, split-got) > most {
					t.Errorf("SplitOf(%v, %d) turned by %d: got %d %d, and %d before", list, waves, by, got, code, split)
				}
				if 2*waves*(by%360)%90 != 0 {
					continue
				}
				exact++
				if got != split {
					t.Errorf("SplitOf(%v, %d) turned by %d: got %d, want %d", list, waves, by, got, split)
				}
			}
		}
	}
	if exact < 1000 {
		t.Errorf("only %d turns by quarters of a wave", exact)
	}
}

func TestP13SplitOf(t *testing.T) {
	for _, c := range []struct {
		list []impl.Spot
		want []int64 // for 2 to 6 waves
	}{
		{nil, []int64{0, 0, 0, 0, 0}}, {spotsOf(0, 5), []int64{5000, 5000, 5000, 5000, 5000}}, {spotsOf(0, -5), []int64{5000, 5000, 5000, 5000, 5000}}, {spotsOf(1, 1000), []int64{999999, 1000000, 999999, 1000000, 1000000}}, {spotsOf(359, -1000), []int64{999999, 1000000, 999999, 1000000, 1000000}}, {spotsOf(20, 1), []int64{1000, 999, 1000, 1000, 999}},
		// spots that balance one another
		{spotsOf(0, 5, 45, 5), []int64{0, 7071, 10000, 7071, 0}}, {spotsOf(0, 5, 90, 5, 180, 5, 270, 5), []int64{20000, 0, 20000, 0, 20000}}, {spotsOf(0, 1, 30, 1, 60, 1), []int64{0, 1000, 0, 1999, 3000}}, {spotsOf(0, 1000, 45, 1000, 90, 1000), []int64{1000000, 1000000, 3000000, 1000000, 1000000}},
		{spotsOf(0, 1000, 22, -1000), []int64{1389317, 1827091, 1998781, 1879384, 1486289}}, {spotsOf(10, 3, 100, 4, 200, -7), []int64{4788, 7549, 8998, 6896, 12124}}, {spotsOf(7, 3, 50, 2, 111, -4, 300, 9), []int64{6151, 10483, 5516, 13028, 10805}}, {spotsFrom(0, 16, 1000), []int64{15184152, 14199508, 12884741, 11299401, 9514366}}, {spotsFrom(344, 16, -1000), []int64{15184152, 14199509, 12884741, 11299401, 9514365}},
	} {
		for i, want := range c.want {
			got, code := impl.SplitOf(c.list, int64(2+i))
			checkNumber(t, fmt.Sprintf("SplitOf(%v, %d)", c.list, 2+i), got, code, want, codeOK)
		}
	}
	for _, list := range manySpots(126, 2000) {
		for waves := int64(2); waves <= 6; waves++ {
			got, code := impl.SplitOf(list, waves)
			checkNumber(t, fmt.Sprintf("SplitOf(%v, %d)", list, waves), got, code, splitModel(list, waves), codeOK)
		}
	}
}

func TestP13SplitAngle(t *testing.T) {
	for _, c := range []struct {
		list              []impl.Spot
		waves, want, code int64
	}{
		{spotsOf(0, 5), 2, 0, codeOK}, {spotsOf(0, -5), 2, 180, codeOK}, {spotsOf(1, 1000), 2, 4, codeOK}, {spotsOf(1, 1000), 6, 12, codeOK}, {spotsOf(359, 1), 3, 354, codeOK}, {spotsOf(359, -1000), 2, 176, codeOK}, {spotsOf(90, 1), 2, 0, codeOK}, {spotsOf(45, 1), 2, 180, codeOK}, {spotsOf(200, 1), 4, 160, codeOK},
		// spots that balance one another
		{nil, 2, 0, codeState}, {nil, 6, 0, codeState}, {spotsOf(0, 5, 45, 5), 2, 0, codeState}, {spotsOf(0, 5, 45, 5), 3, 315, codeOK}, {spotsOf(0, 5, 45, 5), 4, 0, codeOK}, {spotsOf(0, 5, 45, 5), 6, 0, codeState}, {spotsOf(0, 5, 90, 5, 180, 5, 270, 5), 3, 0, codeState}, {spotsOf(0, 1, 30, 1, 60, 1), 2, 0, codeState}, {spotsOf(0, 1, 90, -1), 2, 0, codeState}, {spotsOf(0, 1000, 180, -1000), 5, 0, codeState},
		// two angles with the same greatest value
		{spotsOf(4, 8, 6, 1, 8, -5), 2, 0, codeOK}, {spotsOf(13, 1, 48, -6, 109, -4), 2, 341, codeOK}, {spotsOf(120, 6, 141, 2, 148, 2), 4, 219, codeOK}, {spotsOf(69, -6, 100, 2, 148, 5), 3, 210, codeOK}, {spotsOf(54, 3, 59, 1, 174, 2), 4, 50, codeOK}, {spotsOf(41, 1, 76, -1, 174, -5), 5, 120, codeOK}, {spotsOf(7, 6, 29, 4, 66, -2), 6, 39, codeOK}, {spotsOf(3, -4, 114, -6, 178, -2), 4, 30, codeOK},
		{spotsFrom(0, 16, 1000), 2, 30, codeOK}, {spotsFrom(344, 16, -1000), 6, 78, codeOK},
	} {
		got, code := impl.SplitAngle(c.list, c.waves)
		checkNumber(t, fmt.Sprintf("SplitAngle(%v, %d)", c.list, c.waves), got, code, c.want, c.code)
	}
	several, none := 0, 0
	for _, list := range append(manySpots(127, 1500), spotsOf(69, -6, 100, 2, 148, 5), spotsOf(54, 3, 59, 1, 174, 2)) {
		for waves := int64(2); waves <= 6; waves++ {
			angles, want, wantCode := directionsModel(list, waves), int64(0), int64(codeState)
			if len(angles) > 0 {
				want, wantCode = angles[0], codeOK
			}
			got, code := impl.SplitAngle(list, waves)
			checkNumber(t, fmt.Sprintf("SplitAngle(%v, %d)", list, waves), got, code, want, wantCode)
			if len(angles) > 1 {
				several++
			}
			if len(angles) == 0 {
				none++
			}
		}
	}
	if several < 5 || none < 50 {
		t.Errorf("only %d lists with several directions, and %d without any", several, none)
	}
}

func TestP13WarbleBeat(t *testing.T) {
	for _, c := range []struct{ f, split, want, code int64 }{
		{440000, 5000, 22, codeOK}, {440000, 0, 0, codeOK}, {10000, 0, 0, codeOK}, {10000, 4999, 0, codeOK}, {10000, 5000, 1, codeOK}, {10000, 14999, 1, codeOK}, {10000, 15000, 2, codeOK}, {10000, 100000000, 10000, codeOK}, {20000000, 100000000, 20000000, codeOK}, {20000000, 99999999, 20000000, codeOK}, {20000000, 1, 0, codeOK}, {20000000, 2, 0, codeOK}, {20000000, 3, 1, codeOK}, {440000, 113, 0, codeOK}, {440000, 114, 1, codeOK}, {440000, 15184152, 66810, codeOK},
		{9999, 5000, 0, codeRange}, {20000001, 5000, 0, codeRange}, {440000, -1, 0, codeRange}, {440000, 100000001, 0, codeRange}, {20000000, 100000001, 0, codeRange}, {math.MaxInt64, math.MaxInt64, 0, codeRange}, {math.MinInt64, math.MinInt64, 0, codeRange}, {0, 0, 0, codeRange}, {10000, math.MinInt64, 0, codeRange}, {9999, -1, 0, codeRange},
	} {
		got, code := impl.WarbleBeat(c.f, c.split)
		checkNumber(t, fmt.Sprintf("WarbleBeat(%d, %d)", c.f, c.split), got, code, c.want, c.code)
	}
	random := rand.New(rand.NewSource(128))
	splits := append(slices.Clone(edgeNumbers), 999, 5000, 99999999, 100000000, 100000001)
	for range 200 {
		splits = append(splits, random.Int63n(100000001))
	}
	for _, f := range append(slices.Clone(edgeFrequencies), randomFrequency(random), randomFrequency(random)) {
		for _, split := range splits {
			want, wantCode := int64(0), int64(codeRange)
			if isFrequency(f) && split >= 0 && split <= 100000000 {
				want, wantCode = nearestModel(productOf(f, split), 100000000), codeOK
			}
			got, code := impl.WarbleBeat(f, split)
			checkNumber(t, fmt.Sprintf("WarbleBeat(%d, %d)", f, split), got, code, want, wantCode)
		}
	}
}

func TestP13BestSpot(t *testing.T) {
	for _, c := range []struct {
		list                       []impl.Spot
		waves, weight, angle, best int64
	}{
		// several angles with the same least split: the first one
		{spotsOf(0, 5), 2, 5, 45, 0}, {spotsOf(0, 5), 3, 5, 30, 0}, {spotsOf(0, 5), 4, 5, 22, 349}, {spotsOf(0, 5), 5, 5, 18, 0}, {spotsOf(0, 5), 6, 5, 15, 0}, {spotsOf(0, 5), 2, -5, 0, 0}, {spotsOf(90, 5), 2, -5, 0, 0}, {spotsOf(359, 5), 2, -5, 89, 0}, {nil, 2, 5, 2, 4999}, {nil, 4, 5, 1, 4999}, {spotsOf(0, 5), 2, 4, 45, 1000}, {spotsOf(0, 5), 2, -6, 0, 1000},
		{spotsOf(10, 3, 100, 4, 200, -7), 2, 5, 37, 271}, {spotsOf(10, 3, 100, 4, 200, -7), 3, -5, 49, 2550}, {spotsOf(7, 3, 50, 2, 111, -4, 300, 9), 4, 5, 15, 537}, {spotsOf(1, 1000), 5, 5, 19, 995000}, {spotsOf(359, -1000), 4, -5, 21, 995011}, {spotsOf(0, 1, 30, 1, 60, 1), 6, 5, 15, 2000},
		// at 45 a spot would be best, but its weight would be too great there
		{spotsOf(0, 1000, 45, 1000, 90, 1000), 2, 1, 135, 999000}, {spotsOf(0, 1000, 45, 999, 90, 1000), 2, 1, 45, 1000000}, {spotsOf(0, 1000, 45, 1000, 90, 1000), 2, -1, 0, 999000},
		// the last free place, and old angles of a full list
		{spotsFrom(0, 15, 1000), 2, 1, 52, 14325855}, {spotsFrom(0, 15, 1000), 6, 1, 22, 9565773}, {spotsFrom(0, 16, 1000), 2, -1, 7, 15183153}, {spotsFrom(0, 16, 1000), 2, -1000, 7, 14184804}, {append(spotsFrom(344, 15, 1000), spotsOf(359, 5)...), 2, 5, 359, 14335336}, {append(spotsOf(0, 5), spotsFrom(345, 15, 1000)...), 3, 5, 0, 13517611}, {slices.Concat(spotsFrom(0, 7, 1000), spotsOf(7, 999), spotsFrom(8, 8, 1000)), 2, 1, 7, 15184152},
	} {
		checkBest(t, c.list, c.waves, c.weight, c.angle, c.best, codeOK)
	}
	// no angle allows a spot
	for waves := int64(2); waves <= 6; waves++ {
		for _, weight := range []int64{1, 2, 999, 1000} {
			checkBest(t, spotsFrom(0, 16, 1000), waves, weight, 0, 0, codeFull)
			checkBest(t, spotsFrom(344, 16, -1000), waves, -weight, 0, 0, codeFull)
			checkBest(t, spotsFrom(100, 16, 1001-weight), waves, weight, 0, 0, codeFull)
		}
	}
}

// TestP13BestSpotOfMany: no angle has a lesser split, and no angle before has the same.
func TestP13BestSpotOfMany(t *testing.T) {
	random := rand.New(rand.NewSource(129))
	several, none, old := 0, 0, 0
	for _, list := range manySpots(130, 60) {
		for _, weight := range []int64{1, -1, 5, 1000, -1000, 1 + random.Int63n(1000), -1 - random.Int63n(1000)} {
			waves := 2 + random.Int63n(5)
			angles, split := bestModel(list, waves, weight)
			if len(angles) == 0 {
				none++
				checkBest(t, list, waves, weight, 0, 0, codeFull)
				continue
			}
			checkBest(t, list, waves, weight, angles[0], split, codeOK)
			if len(angles) > 1 {
				several++
			}
			added, _ := impl.AddSpot(list, impl.Spot{Angle: angles[0], Weight: weight})
			if len(added) <= len(list) {
				old++
			}
			got, code := impl.SplitOf(added, waves)
			checkNumber(t, fmt.Sprintf("SplitOf(%v, %d) with the best spot", list, waves), got, code, split, codeOK)
		}
	}
	if several < 50 || none < 5 || old < 20 {
		t.Errorf("only %d lists with several best angles, %d without any, and %d with an old one", several, none, old)
	}
}

func TestP13QuietSpots(t *testing.T) {
	for _, c := range []struct {
		list                 []impl.Spot
		waves, weight, limit int64
		want                 []impl.Spot
	}{
		// the split is no greater than the limit, at once or after some spots
		{nil, 2, 1, 0, nil}, {nil, 6, -1000, 100000000, nil}, {spotsOf(0, 5), 2, 5, 5000, spotsOf(0, 5)}, {spotsOf(0, 5), 2, 5, 100000000, spotsOf(0, 5)}, {spotsOf(0, 5), 2, 5, 4999, spotsOf(0, 5, 45, 5)}, {spotsOf(0, 5), 2, 1, 3000, spotsOf(0, 5, 45, 2)}, {spotsOf(0, 5), 2, 1, 2999, spotsOf(0, 5, 45, 3)}, {spotsOf(0, 5), 2, 1, 0, spotsOf(0, 5, 45, 5)}, {spotsFrom(0, 16, 1000), 2, 1, 15184152, spotsFrom(0, 16, 1000)}, {spotsOf(1, 1000), 6, 7, 100000, spotsOf(1, 1000, 16, 903)},
		// spots that vanish
		{spotsOf(0, 5), 2, -5, 0, nil}, {spotsOf(0, 5), 2, -1, 0, nil}, {spotsOf(0, 5), 2, -1, 1000, spotsOf(0, 1)}, {spotsOf(0, 1000), 3, -1, 0, nil}, {spotsOf(0, 6, 1, 4), 2, -2, 0, nil},
		// the split does not become less: it would be the same, or greater
		{spotsOf(0, 5), 2, 10, 0, spotsOf(0, 5)}, {spotsOf(0, 5), 2, 11, 0, spotsOf(0, 5)}, {spotsOf(0, 5), 2, 9, 0, spotsOf(0, 5, 45, 9)}, {spotsOf(0, 1), 2, 1000, 0, spotsOf(0, 1)}, {spotsOf(1, 1000), 6, 300, 0, spotsOf(1, 1000, 16, 900)}, {spotsOf(1, 1000), 6, -300, 0, spotsOf(1, 100)}, {spotsOf(0, 5, 45, 5), 2, 1, 0, spotsOf(0, 5, 45, 5)},
		{spotsOf(10, 3, 100, 4, 200, -7), 3, 1, 0, spotsOf(10, 3, 18, 1, 19, 7, 100, 4, 200, -7)}, {spotsOf(10, 3, 100, 4, 200, -7), 3, 2, 500, spotsOf(10, 3, 19, 8, 100, 4, 200, -7)}, {spotsOf(7, 3, 50, 2, 111, -4, 300, 9), 5, 1, 0, spotsOf(7, 3, 31, 12, 32, 1, 50, 2, 111, -4, 300, 9)}, {spotsOf(7, 3, 50, 2, 111, -4, 300, 9), 5, -1, 0, spotsOf(7, 3, 13, -12, 14, -1, 50, 2, 111, -4, 300, 9)},
		// no further spot can be added: at once, or after some
		{spotsFrom(0, 16, 1000), 2, 1, 0, spotsFrom(0, 16, 1000)}, {spotsFrom(0, 16, 1000), 2, 1, 15184151, spotsFrom(0, 16, 1000)}, {spotsFrom(0, 15, 1000), 2, 400, 0, append(spotsFrom(0, 15, 1000), spotsOf(52, 800)...)}, {spotsFrom(0, 15, 1000), 2, 1000, 0, append(spotsFrom(0, 15, 1000), spotsOf(52, 1000)...)},
		// at the best angle the weight would be too great: others are taken
		{spotsOf(0, 1000, 45, 1000, 90, 1000), 2, 1, 998000, spotsOf(0, 1000, 45, 1000, 90, 1000, 135, 2)}, {spotsOf(0, 1000, 45, 1000, 90, 1000), 2, 300, 0, spotsOf(0, 1000, 45, 1000, 90, 1000, 135, 900)},
	} {
		got, code := impl.QuietSpots(c.list, c.waves, c.weight, c.limit)
		checkSpots(t, fmt.Sprintf("QuietSpots(%v, %d, %d, %d)", c.list, c.waves, c.weight, c.limit), got, code, c.want, codeOK)
	}
}

func TestP13QuietSpotsOfMany(t *testing.T) {
	random := rand.New(rand.NewSource(131))
	ends, added := map[int]int{}, 0
	for _, list := range manySpots(132, 60) {
		for range 3 {
			// few spots are needed for a weight that is great beside the split
			waves := 2 + random.Int63n(5)
			weight := min(1000, 1+splitModel(list, waves)/(1000*(1+random.Int63n(8))))
			if random.Intn(2) == 0 {
				weight = -weight
			}
			limit := []int64{0, 0, random.Int63n(1000), random.Int63n(100000), 100000000}[random.Intn(5)]
			want, count, end := quietModel(list, waves, weight, limit)
			ends[end]++
			added += count
			got, code := impl.QuietSpots(list, waves, weight, limit)
			checkSpots(t, fmt.Sprintf("QuietSpots(%v, %d, %d, %d)", list, waves, weight, limit), got, code, want, codeOK)
			before, _ := impl.SplitOf(list, waves)
			after, _ := impl.SplitOf(got, waves)
			if after > before || count > 0 && after >= before || !areSpots(got) {
				t.Errorf("QuietSpots(%v, %d, %d, %d): got %v, whose split is %d, and %d before", list, waves, weight, limit, got, after, before)
			}
		}
	}
	if ends[endQuiet] < 20 || ends[endNotLess] < 20 || ends[endFull] < 5 || added < 100 {
		t.Errorf("only %v ends of each kind, after %d spots", ends, added)
	}
}

// TestP13ManyQuietSpots: thousands of spots are added where the weight is the least one.
func TestP13ManyQuietSpots(t *testing.T) {
	for waves := int64(2); waves <= 6; waves++ {
		list := spotsFrom(0, 16, 1000)
		got, code := impl.QuietSpots(list, waves, -1, 1000)
		split, splitCode := impl.SplitOf(got, waves)
		if code != codeOK || splitCode != codeOK || split > 1000 || !areSpots(got) {
			t.Errorf("QuietSpots of %d waves: got %v %d, with the split %d", waves, got, code, split)
		}
	}
}

// warbleCodes returns the codes of all functions with spots and waves; with an error no other result may come.
func warbleCodes(t *testing.T, list []impl.Spot, waves, weight, limit int64) []int64 {
	t.Helper()
	split, splitCode := impl.SplitOf(list, waves)
	angle, angleCode := impl.SplitAngle(list, waves)
	best, least, bestCode := impl.BestSpot(list, waves, weight)
	quiet, quietCode := impl.QuietSpots(list, waves, weight, limit)
	if splitCode != codeOK && split != 0 || angleCode != codeOK && angle != 0 || bestCode != codeOK && (best != 0 || least != 0) || quietCode != codeOK && len(quiet) > 0 {
		t.Errorf("%v, %d, %d, %d: got a result and an error: %d %d, %d %d, %d %d %d, %v %d", list, waves, weight, limit, split, splitCode, angle, angleCode, best, least, bestCode, quiet, quietCode)
	}
	return []int64{splitCode, angleCode, bestCode, quietCode}
}

// TestP13OrderOfErrors: ErrInvalid comes before ErrRange, and ErrRange before ErrState and ErrFull.
func TestP13OrderOfErrors(t *testing.T) {
	invalid := []int64{codeInvalid, codeInvalid, codeInvalid, codeInvalid}
	for _, list := range badSpots() {
		for _, numbers := range [][]int64{{2, 1, 0}, {1, 1, 0}, {7, 0, -1}, {2, 0, 0}, {2, 1, -1}, {6, 1000, 100000000}, {6, 1001, 100000001}} {
			if got := warbleCodes(t, list, numbers[0], numbers[1], numbers[2]); !slices.Equal(got, invalid) {
				t.Errorf("%v, %v: got the codes %v", list, numbers, got)
			}
		}
	}
	balanced, full := spotsOf(0, 5, 90, 5, 180, 5, 270, 5), spotsFrom(0, 16, 1000)
	for _, c := range []struct {
		list   []impl.Spot
		waves  []int64
		weight []int64
		limit  []int64
		want   []int64
	}{
		{nil, noWaves, []int64{1, 0}, []int64{0, -1}, []int64{codeRange, codeRange, codeRange, codeRange}}, {full, noWaves, []int64{1, 1000}, []int64{0}, []int64{codeRange, codeRange, codeRange, codeRange}},
		{nil, []int64{2, 6}, noWeights, []int64{0, -1, 100000000}, []int64{codeOK, codeState, codeRange, codeRange}}, {full, []int64{2, 6}, noWeights, []int64{0, 100000001}, []int64{codeOK, codeOK, codeRange, codeRange}},
		{nil, []int64{2, 6}, []int64{1, -1, 1000, -1000}, noSplits, []int64{codeOK, codeState, codeOK, codeRange}}, {full, []int64{2, 6}, []int64{1, 1000}, noSplits, []int64{codeOK, codeOK, codeFull, codeRange}}, {balanced, []int64{3, 5}, []int64{1, -1000}, noSplits, []int64{codeOK, codeState, codeOK, codeRange}},
		{full, []int64{2, 6}, []int64{1, 1000}, []int64{0, 1, 100000000}, []int64{codeOK, codeOK, codeFull, codeOK}}, {balanced, []int64{3, 5}, []int64{1, -1, 1000, -1000}, []int64{0, 100000000}, []int64{codeOK, codeState, codeOK, codeOK}}, {balanced, []int64{2, 4, 6}, []int64{1, -1, 1000, -1000}, []int64{0, 100000000}, []int64{codeOK, codeOK, codeOK, codeOK}},
	} {
		for _, waves := range c.waves {
			for _, weight := range c.weight {
				for _, limit := range c.limit {
					if got := warbleCodes(t, c.list, waves, weight, limit); !slices.Equal(got, c.want) {
						t.Errorf("%v, %d, %d, %d: got the codes %v, want %v", c.list, waves, weight, limit, got, c.want)
					}
				}
			}
		}
	}
}

var spotsTexts = []string{"-", "0:5", "359:-1000", "0:1000", "0:5 45:5", "10:-1 350:2", "4:8 6:1 8:-5", "0:1 1:-1 2:10 3:-10 4:100 5:-100 6:1000 7:-1000 8:999 9:-999 10:1 20:1 99:1 100:1 199:1 359:1"}

func TestP13SpotsTexts(t *testing.T) {
	for _, text := range spotsTexts {
		list, ok := impl.ReadSpots(text)
		if got := impl.SpotsText(list); got != text || !ok {
			t.Errorf("ReadSpots(%q): got %v %v, with the text %q", text, list, ok, got)
		}
	}
	for _, list := range manySpots(133, 500) {
		var parts []string
		for _, s := range list {
			parts = append(parts, fmt.Sprintf("%d:%d", s.Angle, s.Weight))
		}
		want := strings.Join(parts, " ")
		if len(list) == 0 {
			want = "-"
		}
		if got := impl.SpotsText(list); got != want {
			t.Errorf("SpotsText(%v): got %q, want %q", list, got, want)
		}
		if got, ok := impl.ReadSpots(want); !slices.Equal(got, list) || !ok {
			t.Errorf("ReadSpots(%q): got %v %v, want %v", want, got, ok, list)
		}
	}
	for _, list := range badSpots() {
		if got := impl.SpotsText(list); got != "" {
			t.Errorf("SpotsText(%v): got %q, want none", list, got)
		}
	}
}

// TestP13AllSingleSpots reads the texts of all numbers near those of spots.
func TestP13AllSingleSpots(t *testing.T) {
	for angle := int64(-3); angle <= 400; angle++ {
		for _, weight := range []int64{-10000, -1001, -1000, -999, -10, -1, 0, 1, 9, 10, 99, 999, 1000, 1001, 9999} {
			text, want := fmt.Sprintf("%d:%d", angle, weight), spotsOf(angle, weight)
			if !areSpots(want) {
				want = nil
			}
			if got, ok := impl.ReadSpots(text); !slices.Equal(got, want) || ok != (want != nil) {
				t.Errorf("ReadSpots(%q): got %v %v, want %v", text, got, ok, want)
			}
		}
	}
}

func TestP13ReadSpots(t *testing.T) {
	bad := []string{
		// missing, superfluous and empty parts
		"", ":", "0", "0:", ":5", "0:5:5", "0::5", ":0:5", "0:5:", " ", "0:5 ", " 0:5", "0:5  45:5", "0:5 45", "0:5 45:", "0:5 :5", "0:5 :", "0 45:5", "0: 5", "0 :5", "0 : 5", "5 0", "- ", " -", "--", "-:-", "- 0:5", "0:5 -", "0:-", "-:5", "0:5-", "-0:5", "0:--5", "0:5 -:5",
		// leading zeros, signs and other forms of numbers
		"00:5", "01:5", "0:05", "0:-05", "0:+5", "+0:5", "-1:5", "0:0", "0:-0", "0:5 045:5", "0:5 45:05", "0:5.0", "0.0:5", "0:1e2", "0x1:5", "0:0x5", "0:1_0", "a:5", "0:a", "٣:5", "0:٣", "\xff:5", "0:\xff",
		// numbers that are no spots, and angles that do not rise
		"360:5", "0:1001", "0:-1001", "359:1000 360:1", "0:5 0:5", "45:5 0:5", "0:5 45:5 44:5", "0:5 45:0", "10:1 9:1", "9:1 10:1 10:1", "4294967296:5", "0:4294967301", "18446744073709551616:5", "0:18446744073709551621", "9223372036854775808:5", "0:-9223372036854775808", "0:999999999999999999",
		// other separators and blanks
		"0;5", "0=5", "0,5", "0/5", "0x5", "0:5,45:5", "0:5;45:5", "0:5\t45:5", "0:5\n", "\t0:5", "0:5\x00", "0:5\u00a045:5", "0\u00a0:5", "-\n", "0:5\n45:5",
		// one spot too many, and many more
		"0:1 1:1 2:1 3:1 4:1 5:1 6:1 7:1 8:1 9:1 10:1 11:1 12:1 13:1 14:1 15:1 16:1", strings.Repeat("0:5 ", 1000), strings.Repeat(":", 1000), strings.Repeat(" ", 1000), strings.Repeat("0", 1000) + ":5", "0:" + strings.Repeat("1", 1000), "0:1 1:1 2:1 3:1 4:1 5:1 6:1 7:1 8:1 9:1 10:1 11:1 12:1 13:1 14:1 15:1 ",
	}
	for _, s := range slices.Concat(bad, edgeTexts, pointedTexts, temperamentTexts, soundTexts, profileTexts, modelTexts, cutsTexts, measureTexts) {
		// the text of no spots is among the texts of other chapters too
		if got, ok := impl.ReadSpots(s); (len(got) > 0 || ok) && s != "-" {
			t.Errorf("ReadSpots(%q): got %v %v, want none", s, got, ok)
		}
	}
}

// TestP13DamagedSpotsAreNotRead: a text that is damaged is that of the spots that are read, or of none.
func TestP13DamagedSpotsAreNotRead(t *testing.T) {
	for _, s := range damagedTexts(spotsTexts, " 0159:-+a") {
		got, ok := impl.ReadSpots(s)
		if ok && (impl.SpotsText(got) != s || !areSpots(got)) || !ok && len(got) > 0 {
			t.Errorf("ReadSpots(%q): got %v %v", s, got, ok)
		}
	}
}

// warbleResults has the results of all functions of the chapter for valid and invalid arguments, as texts.
func warbleResults() []string {
	var all []string
	add := func(results ...any) { all = append(all, fmt.Sprint(results...)) }
	for _, n := range append(turns(), noAngles...) {
		add(impl.WaveSine(n), impl.WaveCosine(n))
		for _, f := range edgeFrequencies {
			add(impl.WarbleBeat(f, n))
			add(impl.WarbleBeat(f, 5000))
		}
	}
	lists, by := slices.Concat(goodSpots(), badSpots()), turns()
	for i, list := range lists {
		add(impl.ValidSpots(list), impl.SameSpots(list, lists[(i+1)%len(lists)]), impl.SpotsText(list))
		for k, waves := range append(slices.Clone(noWaves), 2, 3, 4, 5, 6) {
			weight, limit := []int64{5, -7, 1, 1000, -1000, 0, 1001, math.MinInt64, math.MaxInt64}[(i+k)%9], []int64{0, 1000000, 100000000, -1, 100000001, math.MinInt64, math.MaxInt64}[(i+2*k)%7]
			add(impl.AddSpot(list, impl.Spot{Angle: waves, Weight: weight}))
			add(impl.TurnSpots(list, by[(i+k)%len(by)]))
			add(impl.SplitOf(list, waves))
			add(impl.SplitAngle(list, waves))
			add(impl.BestSpot(list, waves, weight))
			add(impl.QuietSpots(list, waves, weight, limit))
		}
	}
	for _, s := range slices.Concat(spotsTexts, edgeTexts, pointedTexts) {
		add(impl.ReadSpots(s))
	}
	return all
}

// TestP1WarbleReturns: every function of chapter 12 returns for all arguments, and the same again, also at the same time.
func TestP1WarbleReturns(t *testing.T) { checkReturns(t, warbleResults) }

// TestP1BestSpotManyTimes: the first one of many angles with the same split is found each time.
func TestP1BestSpotManyTimes(t *testing.T) {
	atTheSameTime(func() {
		for range 300 {
			checkBest(t, spotsOf(0, 5), 6, 5, 15, 0, codeOK)
			checkBest(t, nil, 2, 5, 2, 4999, codeOK)
			checkBest(t, spotsFrom(0, 16, 1000), 2, 1, 0, 0, codeFull)
		}
	})
}

// warbleCalls has calls of exported functions with sines in them, and their results.
func warbleCalls() []func(t *testing.T) {
	sine := func(degrees, want int64) func(t *testing.T) {
		return func(t *testing.T) {
			if got := impl.WaveSine(degrees); got != want {
				t.Errorf("WaveSine(%d): got %d, want %d", degrees, got, want)
			}
		}
	}
	return []func(t *testing.T){
		sine(0, 0), sine(90, 1000000), sine(359, -17452), sine(math.MinInt64, -139173), sine(math.MaxInt64, 121869),
		func(t *testing.T) {
			if got := impl.WaveCosine(180); got != -1000000 {
				t.Errorf("WaveCosine(180): got %d", got)
			}
		},
		func(t *testing.T) {
			got, code := impl.SplitOf(spotsOf(0, 5, 45, 5), 3)
			checkNumber(t, "SplitOf", got, code, 7071, codeOK)
		},
		func(t *testing.T) {
			got, code := impl.SplitAngle(spotsOf(4, 8, 6, 1, 8, -5), 2)
			checkNumber(t, "SplitAngle", got, code, 0, codeOK)
		},
		func(t *testing.T) { checkBest(t, spotsOf(0, 5), 2, 5, 45, 0, codeOK) },
		func(t *testing.T) {
			got, code := impl.QuietSpots(spotsOf(0, 5), 2, 1, 2999)
			checkSpots(t, "QuietSpots", got, code, spotsOf(0, 5, 45, 3), codeOK)
		},
	}
}

// TestP1WarbleAtTheFirstCall: each call is the first one of the chapter in a process, by several goroutines at once; all
// calls are made twice after it.
func TestP1WarbleAtTheFirstCall(t *testing.T) {
	calls := warbleCalls()
	inOwnProcesses(t, len(calls), func(place int) {
		atTheSameTime(func() { calls[place](t) })
		for range 2 {
			for _, call := range calls {
				call(t)
			}
			calls[place](t)
		}
	})
}

// roomySpots returns spots with more of their kind behind them, of which some come first when they are turned.
func roomySpots() []impl.Spot {
	return append(slices.Grow([]impl.Spot(nil), 40), spotsOf(10, 3, 100, 4, 200, -7, 300, 9, 350, 5, 9999, 8888, 7777, 6666)...)
}

// TestP1WarbleKeepsItsArguments: neither spots nor the capacity behind them are modified.
func TestP1WarbleKeepsItsArguments(t *testing.T) {
	whole := roomySpots()
	want := slices.Clone(whole[:cap(whole)])
	for size := range len(whole) + 1 {
		list := whole[:size]
		impl.ValidSpots(list)
		impl.SameSpots(list, whole)
		impl.SpotsText(list)
		for _, s := range spotsOf(0, 1, 10, 5, 10, -3, 100, -4, 150, 7, 350, -5, 359, 1, 360, 1) {
			impl.AddSpot(list, s)
		}
		for _, by := range []int64{0, 5, 20, -100, 360, math.MaxInt64} {
			impl.TurnSpots(list, by)
		}
		for waves := int64(1); waves <= 7; waves++ {
			for _, weight := range []int64{3, -3, 1000, 0} {
				warbleCodes(t, list, waves, weight, 10)
			}
		}
		if !slices.Equal(whole[:cap(whole)], want) {
			t.Fatalf("%d spots: they are now %v", size, whole[:cap(whole)])
		}
	}
}

// TestP1SpotsAreNew: spots that are overwritten, with the capacity behind them, change neither an argument nor another result, and the other way round.
func TestP1SpotsAreNew(t *testing.T) {
	mark := impl.Spot{Angle: 66, Weight: 99}
	add := func(angle, weight int64) func(list []impl.Spot) []impl.Spot {
		return func(list []impl.Spot) []impl.Spot {
			return first(impl.AddSpot(list, impl.Spot{Angle: angle, Weight: weight}))
		}
	}
	turn := func(by int64) func(list []impl.Spot) []impl.Spot {
		return func(list []impl.Spot) []impl.Spot { return first(impl.TurnSpots(list, by)) }
	}
	quiet := func(weight, limit int64) func(list []impl.Spot) []impl.Spot {
		return func(list []impl.Spot) []impl.Spot { return first(impl.QuietSpots(list, 3, weight, limit)) }
	}
	for name, change := range map[string]func(list []impl.Spot) []impl.Spot{
		"AddSpot before all": add(0, 1), "AddSpot between": add(150, 1), "AddSpot behind all": add(359, 1), "AddSpot at the first": add(10, 1), "AddSpot at the last": add(350, 1), "AddSpot without the first": add(10, -3), "AddSpot without the last": add(350, -5),
		"TurnSpots by 0": turn(0), "TurnSpots by 5": turn(5), "TurnSpots by 20": turn(20), "TurnSpots by 360": turn(360),
		"QuietSpots": quiet(1, 0), "QuietSpots of old angles": quiet(-1, 0), "QuietSpots without any": quiet(1, 100000000), "QuietSpots that are not less": quiet(1000, 0),
		"ReadSpots": func([]impl.Spot) []impl.Spot {
			list, _ := impl.ReadSpots("0:5 45:5 90:1")
			return list
		},
	} {
		list := roomySpots()
		want, got := slices.Clone(change(list[:5])), change(list[:5])
		overwrite(change(list[:5]), mark)
		if !slices.Equal(list[:cap(list)], roomySpots()[:cap(list)]) || !slices.Equal(got, want) || len(want) < 3 {
			t.Errorf("%s: the spots are now %v, and %v has become %v", name, list[:cap(list)], want, got)
		}
		overwrite(list, mark)
		if !slices.Equal(got, want) {
			t.Errorf("%s: got %v, which has become %v", name, want, got)
		}
	}
}
