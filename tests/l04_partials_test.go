package tests

import (
	"math"
	"math/rand"
	"slices"
	"strings"
	"testing"

	"loop.example/g00952/impl"
)

// The sounds of this file are written out from chapter 4, not from the constants of impl.
var (
	minorSound = impl.Sound{Hum: 220000, Prime: 440000, Tierce: 523252, Quint: 659256, Nominal: 880000}
	majorSound = impl.Sound{Hum: 220000, Prime: 440000, Tierce: 554366, Quint: 659256, Nominal: 880000}

	minorOffsets = []int64{-12000, 0, 3000, 7000, 12000}
	majorOffsets = []int64{-12000, 0, 4000, 7000, 12000}

	noPartials = []int64{math.MinInt64, -5, -1, 0, 6, 7, 1<<32 + 1, math.MaxInt64}
	noKinds    = []int64{math.MinInt64, -1, 0, 3, 4, 1<<32 + 1, math.MaxInt64}
)

// goodSounds has valid sounds: ordinary ones, those at both ends of the range, and those with neighbours that are as near as possible.
func goodSounds() []impl.Sound {
	return []impl.Sound{
		minorSound, majorSound, soundWith(10000, 10001, 10002, 10003, 10004), soundWith(19999996, 19999997, 19999998, 19999999, 20000000),
		soundWith(10000, 20000, 23785, 29967, 40000), soundWith(5000000, 10000000, 11892072, 14983072, 20000000),
		soundWith(10000, 10001, 10002, 10003, 20000000), soundWith(10000, 19999997, 19999998, 19999999, 20000000),
		soundWith(220000, 220001, 523252, 659256, 880000), soundWith(219999, 440000, 523252, 879999, 880000),
	}
}

// badSounds has sounds that are not valid: partials that are no frequencies, equal ones, and ones that are out of order.
func badSounds() []impl.Sound {
	bad := []impl.Sound{
		{}, soundWith(880000, 659256, 523252, 440000, 220000), soundWith(440000, 440000, 440000, 440000, 440000), soundWith(1, 2, 3, 4, 5),
		soundWith(9999, 10000, 10001, 10002, 10003), soundWith(19999997, 19999998, 19999999, 20000000, 20000001),
		soundWith(math.MaxInt64-4, math.MaxInt64-3, math.MaxInt64-2, math.MaxInt64-1, math.MaxInt64),
		soundWith(math.MaxInt64, math.MinInt64, math.MinInt64+1, math.MinInt64+2, math.MinInt64+3),
	}
	whole := listOf(minorSound)
	for k := range whole {
		for _, f := range noFrequencies {
			bad = append(bad, soundOf(replaced(whole, k, f)))
		}
		if k > 0 {
			bad = append(bad, soundOf(replaced(whole, k, whole[k-1])), soundOf(replaced(whole, k, whole[k-1]-1)), soundOf(replaced(whole, k-1, whole[k]+1)))
		}
		for other := range k {
			bad = append(bad, soundOf(replaced(replaced(whole, k, whole[other]), other, whole[k])))
		}
	}
	return bad
}

func soundWith(hum, prime, tierce, quint, nominal int64) impl.Sound {
	return impl.Sound{Hum: hum, Prime: prime, Tierce: tierce, Quint: quint, Nominal: nominal}
}

func soundOf(list []int64) impl.Sound { return soundWith(list[0], list[1], list[2], list[3], list[4]) }

func listOf(s impl.Sound) []int64 { return []int64{s.Hum, s.Prime, s.Tierce, s.Quint, s.Nominal} }

// replaced returns a new list with another number at a place.
func replaced(list []int64, place int, n int64) []int64 {
	list = slices.Clone(list)
	list[place] = n
	return list
}

func isSound(s impl.Sound) bool {
	list := listOf(s)
	for k, f := range list {
		if !isFrequency(f) || k > 0 && f <= list[k-1] {
			return false
		}
	}
	return true
}

// randomSound returns a valid sound whose partials are anywhere in the range.
func randomSound(random *rand.Rand) impl.Sound {
	for {
		list := make([]int64, 5)
		for k := range list {
			list[k] = randomFrequency(random)
		}
		slices.Sort(list)
		if s := soundOf(list); isSound(s) {
			return s
		}
	}
}

// tenthsModel returns the logarithm in tenths of a cent.
func tenthsModel(n int64) int64 { return octave * logModel(n) >> 24 }

func deviationsModel(s impl.Sound, strike, kind int64) []int64 {
	offsets := [][]int64{minorOffsets, majorOffsets}[kind-1]
	list := listOf(s)
	for k := range list {
		list[k] = tenthsModel(list[k]) - tenthsModel(strike) - offsets[k]
	}
	return list
}

// worstModel returns the greatest absolute value of a list.
func worstModel(list []int64) int64 { return max(slices.Max(list), -slices.Min(list)) }

func TestP5Constants(t *testing.T) {
	got := []int64{impl.PaHum, impl.PaPrime, impl.PaTierce, impl.PaQuint, impl.PaNominal, impl.SoMinor, impl.SoMajor}
	if want := []int64{1, 2, 3, 4, 5, 1, 2}; !slices.Equal(got, want) {
		t.Errorf("constants: got %v, want %v", got, want)
	}
}

func TestP5PartialName(t *testing.T) {
	for k, want := range map[int64]string{1: "hum", 2: "prime", 3: "tierce", 4: "quint", 5: "nominal"} {
		if got := impl.PartialName(k); got != want {
			t.Errorf("PartialName(%d): got %q, want %q", k, got, want)
		}
	}
	for _, k := range noPartials {
		if got := impl.PartialName(k); got != "" {
			t.Errorf("PartialName(%d): got %q, want none", k, got)
		}
	}
}

func TestP5ValidSound(t *testing.T) {
	for _, s := range goodSounds() {
		if !impl.ValidSound(s) {
			t.Errorf("ValidSound(%v): got false", s)
		}
	}
	for _, s := range badSounds() {
		if impl.ValidSound(s) {
			t.Errorf("ValidSound(%v): got true", s)
		}
	}
}

// TestP5OrderIsStrict tries all orders of five frequencies, with and without equal ones.
func TestP5OrderIsStrict(t *testing.T) {
	frequencies := []int64{10000, 10001, 440000, 19999999, 20000000}
	valid := 0
	for n := range 5 * 5 * 5 * 5 * 5 {
		list := make([]int64, 5)
		for k := range list {
			list[k] = frequencies[n%5]
			n /= 5
		}
		s := soundOf(list)
		if impl.ValidSound(s) != isSound(s) {
			t.Errorf("ValidSound(%v): got %v", s, !isSound(s))
		}
		if impl.ValidSound(s) {
			valid++
		}
	}
	if valid != 1 {
		t.Errorf("ValidSound: %d of all orders are valid, want 1", valid)
	}
}

func TestP5PartialOf(t *testing.T) {
	for _, s := range goodSounds() {
		for k, want := range listOf(s) {
			if got, code := impl.PartialOf(s, int64(k)+1); got != want || code != codeOK {
				t.Errorf("PartialOf(%v, %d): got %d %d, want %d", s, k+1, got, code, want)
			}
		}
		for _, k := range noPartials {
			if got, code := impl.PartialOf(s, k); got != 0 || code != codeRange {
				t.Errorf("PartialOf(%v, %d): got %d %d, want an error", s, k, got, code)
			}
		}
	}
	for _, s := range badSounds() {
		// ErrInvalid comes before ErrRange
		for _, k := range []int64{1, 3, 5, 0, 6} {
			if got, code := impl.PartialOf(s, k); got != 0 || code != codeInvalid {
				t.Errorf("PartialOf(%v, %d): got %d %d, want an error", s, k, got, code)
			}
		}
	}
}

// TestP5WithPartial moves each partial to both neighbours, next to them and past them, and to the ends of the range.
func TestP5WithPartial(t *testing.T) {
	for _, s := range goodSounds() {
		list := listOf(s)
		for k := range list {
			for _, f := range slices.Concat(edgeFrequencies, list) {
				for _, f := range []int64{f, max(f, 0) - 1, min(f, maxHertz) + 1} {
					want, wantCode := soundOf(replaced(list, k, f)), int64(codeOK)
					if !isSound(want) {
						want, wantCode = impl.Sound{}, codeState
					}
					if got, code := impl.WithPartial(s, int64(k)+1, f); got != want || code != wantCode {
						t.Errorf("WithPartial(%v, %d, %d): got %v %d, want %v %d", s, k+1, f, got, code, want, wantCode)
					}
				}
			}
		}
	}
}

func TestP5WithPartialErrors(t *testing.T) {
	for _, c := range []struct {
		s          impl.Sound
		k, f, code int64
	}{
		{minorSound, 1, 9999, codeState}, {minorSound, 5, 20000001, codeState}, {minorSound, 1, 440000, codeState}, {minorSound, 5, 659256, codeState},
		{minorSound, 3, 440000, codeState}, {minorSound, 3, 659256, codeState}, {minorSound, 2, 523253, codeState}, {minorSound, 4, 523251, codeState},
		{minorSound, 3, math.MaxInt64, codeState}, {minorSound, 3, math.MinInt64, codeState}, {minorSound, 1, 0, codeState}, {minorSound, 5, -880000, codeState},
		// ErrRange comes before ErrState
		{minorSound, 0, 441000, codeRange}, {minorSound, 6, 441000, codeRange}, {minorSound, 0, 9999, codeRange}, {minorSound, 6, 20000001, codeRange},
		{minorSound, -1, 0, codeRange}, {minorSound, math.MaxInt64, 220000, codeRange}, {minorSound, math.MinInt64, 220000, codeRange},
		// ErrInvalid comes before both, even if the new partial would mend the sound
		{impl.Sound{}, 1, 441000, codeInvalid}, {impl.Sound{}, 0, 5, codeInvalid}, {impl.Sound{}, 6, 441000, codeInvalid},
		{soundWith(440000, 440000, 523252, 659256, 880000), 1, 220000, codeInvalid}, {soundWith(220000, 440000, 523252, 659256, 20000001), 5, 880000, codeInvalid},
		{soundWith(220000, 440000, 659256, 523252, 880000), 3, 500000, codeInvalid}, {soundWith(9999, 440000, 523252, 659256, 880000), 1, 220000, codeInvalid},
	} {
		if got, code := impl.WithPartial(c.s, c.k, c.f); got != (impl.Sound{}) || code != c.code {
			t.Errorf("WithPartial(%v, %d, %d): got %v %d, want the error %d", c.s, c.k, c.f, got, code, c.code)
		}
	}
}

func TestP5StrikeOf(t *testing.T) {
	for nominal, want := range map[int64]int64{
		880000: 440000, 880001: 440001, 880003: 440002, 659258: 329629, 19999: 10000, 20000: 10000, 20001: 10001, 20000000: 10000000, 19999999: 10000000,
	} {
		s := soundWith(10000, 10001, 10002, 10003, nominal)
		if got, code := impl.StrikeOf(s); got != want || code != codeOK {
			t.Errorf("StrikeOf(%v): got %d %d, want %d", s, got, code, want)
		}
	}
	for _, nominal := range []int64{10004, 15000, 19997, 19998} {
		s := soundWith(10000, 10001, 10002, 10003, nominal)
		if got, code := impl.StrikeOf(s); got != 0 || code != codeState {
			t.Errorf("StrikeOf(%v): got %d %d, want an error", s, got, code)
		}
	}
	for _, s := range append(badSounds(), soundWith(10000, 10001, 10001, 10003, 10004), soundWith(9999, 10001, 10002, 10003, 10004)) {
		if got, code := impl.StrikeOf(s); got != 0 || code != codeInvalid {
			t.Errorf("StrikeOf(%v): got %d %d, want an error", s, got, code)
		}
	}
}

func TestP5IdealOffsets(t *testing.T) {
	for i, want := range [][]int64{minorOffsets, majorOffsets} {
		if got, code := impl.IdealOffsets(int64(i) + 1); !slices.Equal(got, want) || code != codeOK {
			t.Errorf("IdealOffsets(%d): got %v %d, want %v", i+1, got, code, want)
		}
	}
	for _, kind := range noKinds {
		if got, code := impl.IdealOffsets(kind); len(got) != 0 || code != codeRange {
			t.Errorf("IdealOffsets(%d): got %v %d, want an error", kind, got, code)
		}
	}
}

func TestP5IdealSound(t *testing.T) {
	for _, c := range []struct {
		strike, kind int64
		want         impl.Sound
	}{
		{440000, 1, minorSound}, {440000, 2, majorSound},
		{261626, 1, soundWith(130813, 261626, 311128, 391997, 523252)}, {261626, 2, soundWith(130813, 261626, 329629, 391997, 523252)},
		{523251, 1, soundWith(261626, 523251, 622254, 783991, 1046502)}, {523251, 2, soundWith(261626, 523251, 659255, 783991, 1046502)},
		// the lowest and the highest strike notes
		{20000, 1, soundWith(10000, 20000, 23785, 29967, 40000)}, {20000, 2, soundWith(10000, 20000, 25199, 29967, 40000)},
		{20001, 1, soundWith(10001, 20001, 23786, 29968, 40002)}, {20001, 2, soundWith(10001, 20001, 25200, 29968, 40002)},
		{9999999, 1, soundWith(5000000, 9999999, 11892070, 14983070, 19999998)}, {9999999, 2, soundWith(5000000, 9999999, 12599210, 14983070, 19999998)},
		{10000000, 1, soundWith(5000000, 10000000, 11892072, 14983072, 20000000)}, {10000000, 2, soundWith(5000000, 10000000, 12599211, 14983072, 20000000)},
	} {
		if got, code := impl.IdealSound(c.strike, c.kind); got != c.want || code != codeOK {
			t.Errorf("IdealSound(%d, %d): got %v %d, want %v", c.strike, c.kind, got, code, c.want)
		}
	}
	for _, kind := range []int64{1, 2} {
		// the partials of these strike notes leave the range, or they are no frequencies
		for _, strike := range slices.Concat([]int64{10000, 15000, 19999, 10000001, 15000000, 20000000}, noFrequencies) {
			if got, code := impl.IdealSound(strike, kind); got != (impl.Sound{}) || code != codeRange {
				t.Errorf("IdealSound(%d, %d): got %v %d, want an error", strike, kind, got, code)
			}
		}
	}
	for _, kind := range noKinds {
		for _, strike := range []int64{440000, 20000, 10000, 20000000, 0, 9999, 20000001} {
			if got, code := impl.IdealSound(strike, kind); got != (impl.Sound{}) || code != codeRange {
				t.Errorf("IdealSound(%d, %d): got %v %d, want an error", strike, kind, got, code)
			}
		}
	}
}

// idealStrikes has strike notes that have ideal sounds.
func idealStrikes() []int64 {
	strikes := []int64{20000, 20001, 20002, 440000, 440001, 9999999, 10000000}
	random := rand.New(rand.NewSource(10))
	for range 400 {
		strikes = append(strikes, min(max(randomFrequency(random), 20000), 10000000))
	}
	return strikes
}

// TestP5IdealSoundsHaveNoDeviation: no partial of an ideal sound is too low, and each would be too low, or just right, if it were lower by one.
func TestP5IdealSoundsHaveNoDeviation(t *testing.T) {
	for _, strike := range idealStrikes() {
		for _, kind := range []int64{1, 2} {
			s, code := impl.IdealSound(strike, kind)
			if code != codeOK || !impl.ValidSound(s) {
				t.Errorf("IdealSound(%d, %d): got %v %d", strike, kind, s, code)
				continue
			}
			got, code := impl.DeviationsOf(s, strike, kind)
			if code != codeOK || !slices.Equal(got, deviationsModel(s, strike, kind)) {
				t.Errorf("DeviationsOf(%v, %d, %d): got %v %d", s, strike, kind, got, code)
				continue
			}
			lower := listOf(s)
			for k := range lower {
				lower[k]--
			}
			for k, deviation := range deviationsModel(soundOf(lower), strike, kind) {
				if got[k] < 0 || deviation > 0 {
					t.Errorf("the partial %d of IdealSound(%d, %d) deviates by %d, and by %d if it is lower by one", k+1, strike, kind, got[k], deviation)
				}
			}
		}
	}
	// the example of the chapter
	for _, deviation := range first(impl.DeviationsOf(first(impl.IdealSound(440000, 1)), 440000, 1)) {
		if deviation < 0 || deviation > 1 {
			t.Errorf("the ideal sound of 440000 deviates by %d", deviation)
		}
	}
}

// first drops the code of a result.
func first[T any](result T, code int64) T { return result }

func TestP5DeviationsOf(t *testing.T) {
	for _, c := range []struct {
		s            impl.Sound
		strike, kind int64
		want         []int64
	}{
		{minorSound, 440000, 1, []int64{0, 0, 0, 0, 0}}, {minorSound, 440000, 2, []int64{0, 0, -1000, 0, 0}},
		{majorSound, 440000, 1, []int64{0, 0, 1000, 0, 0}}, {majorSound, 440000, 2, []int64{0, 0, 0, 0, 0}},
		{minorSound, 880000, 1, []int64{-12000, -12000, -12000, -12000, -12000}}, {minorSound, 220000, 1, []int64{12000, 12000, 12000, 12000, 12000}},
		{soundWith(200000, 440000, 523252, 659256, 880000), 440000, 1, []int64{-1650, 0, 0, 0, 0}},
		{soundWith(220000, 440000, 530000, 659256, 880000), 440000, 1, []int64{0, 0, 222, 0, 0}},
		{soundWith(10000, 10001, 10002, 10003, 20000000), 10000000, 1, []int64{-107589, -119587, -122585, -126584, 0}},
		{soundWith(10000, 10001, 10002, 10003, 20000000), 10000000, 2, []int64{-107589, -119587, -123585, -126584, 0}},
	} {
		if got, code := impl.DeviationsOf(c.s, c.strike, c.kind); !slices.Equal(got, c.want) || code != codeOK {
			t.Errorf("DeviationsOf(%v, %d, %d): got %v %d, want %v", c.s, c.strike, c.kind, got, code, c.want)
		}
	}
	random := rand.New(rand.NewSource(11))
	for range 500 {
		s, strike, kind := randomSound(random), randomFrequency(random), 1+random.Int63n(2)
		if got, code := impl.DeviationsOf(s, strike, kind); !slices.Equal(got, deviationsModel(s, strike, kind)) || code != codeOK {
			t.Errorf("DeviationsOf(%v, %d, %d): got %v %d, want %v", s, strike, kind, got, code, deviationsModel(s, strike, kind))
		}
	}
	// strike notes at the ends of the range need no ideal sound of their own
	for _, s := range goodSounds() {
		for _, strike := range []int64{10000, 20000000} {
			if got, code := impl.DeviationsOf(s, strike, 2); !slices.Equal(got, deviationsModel(s, strike, 2)) || code != codeOK {
				t.Errorf("DeviationsOf(%v, %d, 2): got %v %d, want %v", s, strike, got, code, deviationsModel(s, strike, 2))
			}
		}
	}
}

func TestP5DeviationsOfErrors(t *testing.T) {
	fails := func(s impl.Sound, strike, kind, want int64) {
		if got, code := impl.DeviationsOf(s, strike, kind); len(got) != 0 || code != want {
			t.Errorf("DeviationsOf(%v, %d, %d): got %v %d, want the error %d", s, strike, kind, got, code, want)
		}
	}
	for _, s := range goodSounds() {
		for _, strike := range noFrequencies {
			fails(s, strike, 1, codeRange)
			fails(s, strike, 2, codeRange)
			fails(s, strike, 0, codeRange)
		}
		for _, kind := range noKinds {
			fails(s, 440000, kind, codeRange)
		}
	}
	// ErrInvalid comes before ErrRange
	for _, s := range badSounds() {
		fails(s, 440000, 1, codeInvalid)
		fails(s, 9999, 1, codeInvalid)
		fails(s, 440000, 3, codeInvalid)
		fails(s, 20000001, 0, codeInvalid)
	}
}

func TestP5WorstDeviation(t *testing.T) {
	for _, c := range []struct {
		list           []int64
		partial, value int64
	}{
		{[]int64{1, -7, 7, 0, 3}, 2, -7}, {[]int64{1, 7, -7, 0, 3}, 2, 7}, {[]int64{0, 0, 0, 0, 0}, 1, 0}, {[]int64{0, 0, 0, 0, 1}, 5, 1}, {[]int64{0, 0, 0, 0, -1}, 5, -1},
		{[]int64{5, 5, 5, 5, 5}, 1, 5}, {[]int64{-5, 5, -5, 5, -5}, 1, -5}, {[]int64{5, -5, 5, -5, 5}, 1, 5}, {[]int64{1, 2, 3, 4, 5}, 5, 5}, {[]int64{-1, -2, -3, -4, -5}, 5, -5},
		{[]int64{5, 4, 3, 2, 1}, 1, 5}, {[]int64{3, -2, -4, 2, 1}, 3, -4}, {[]int64{3, -2, 1, 9, -9}, 4, 9}, {[]int64{3, -2, 1, -9, 9}, 4, -9}, {[]int64{-8, 9, -7, 6, -5}, 2, 9},
		{[]int64{120000, 0, 0, 0, 0}, 1, 120000}, {[]int64{0, 0, 0, 0, -120000}, 5, -120000}, {[]int64{119999, -120000, 120000, -120000, 0}, 2, -120000},
	} {
		if partial, value, code := impl.WorstDeviation(c.list); partial != c.partial || value != c.value || code != codeOK {
			t.Errorf("WorstDeviation(%v): got %d %d %d, want %d %d", c.list, partial, value, code, c.partial, c.value)
		}
	}
	bad := [][]int64{nil, {}, {7}, {1, 2, 3, 4}, {1, 2, 3, 4, 5, 6}, {0, 0, 0, 0, 0, 0}, make([]int64, 1000), {1, 2, 3, 120001}, {120001, 2, 3, 4, 5, 6}}
	for k := range 5 {
		for _, n := range []int64{120001, -120001, math.MaxInt64, math.MinInt64, math.MinInt64 + 1} {
			bad = append(bad, replaced([]int64{1, -7, 7, 0, 3}, k, n))
		}
	}
	for _, list := range bad {
		if partial, value, code := impl.WorstDeviation(list); partial != 0 || value != 0 || code != codeRange {
			t.Errorf("WorstDeviation(%v): got %d %d %d, want an error", list, partial, value, code)
		}
	}
}

// TestP5WorstDeviationIsGreatest compares with all numbers of the list, one by one.
func TestP5WorstDeviationIsGreatest(t *testing.T) {
	random := rand.New(rand.NewSource(12))
	for range 5000 {
		list := make([]int64, 5)
		for k := range list {
			list[k] = random.Int63n(9) - 4
		}
		partial, value, code := impl.WorstDeviation(list)
		if code != codeOK || partial < 1 || partial > 5 || list[partial-1] != value {
			t.Fatalf("WorstDeviation(%v): got %d %d %d", list, partial, value, code)
		}
		for k, n := range list {
			if max(n, -n) > max(value, -value) || max(n, -n) == max(value, -value) && int64(k)+1 < partial {
				t.Errorf("WorstDeviation(%v): got %d %d", list, partial, value)
			}
		}
	}
}

func TestP5ShiftSound(t *testing.T) {
	for _, c := range []struct {
		s      impl.Sound
		tenths int64
		want   impl.Sound
	}{
		{minorSound, 0, minorSound}, {majorSound, 0, majorSound},
		{minorSound, 12000, soundWith(440000, 880000, 1046504, 1318512, 1760000)}, {minorSound, -12000, soundWith(110000, 220000, 261626, 329628, 440000)},
		{minorSound, 1, soundWith(220013, 440026, 523283, 659295, 880051)}, {minorSound, -1, soundWith(219988, 439975, 523222, 659218, 879950)},
		{minorSound, 7000, soundWith(329628, 659256, 783993, 987768, 1318511)},
		// the last ones before a partial leaves the range
		{minorSound, 54076, soundWith(4999934, 9999867, 11891932, 14982891, 19999733)}, {minorSound, -53513, soundWith(10001, 20001, 23785, 29967, 40001)},
		{soundWith(10000, 10001, 10002, 10003, 10004), 120000, soundWith(10240000, 10241024, 10242048, 10243072, 10244096)},
		{soundWith(10240000, 10241024, 10242048, 10243072, 10244096), -120000, soundWith(10000, 10001, 10002, 10003, 10004)},
		{soundWith(10000, 10001, 10002, 10003, 10000000), 12000, soundWith(20000, 20002, 20004, 20006, 20000000)},
		{soundWith(20000, 20002, 20004, 20006, 20000000), -12000, soundWith(10000, 10001, 10002, 10003, 10000000)},
		// partials that are near to each other, and stay apart or become neighbours
		{soundWith(19000000, 19000001, 19000002, 19000003, 20000000), -2, soundWith(18997805, 18997806, 18997808, 18997809, 19997690)},
		{soundWith(20000, 10000001, 10000003, 10000005, 20000000), -12000, soundWith(10000, 5000001, 5000002, 5000003, 10000000)},
	} {
		if got, code := impl.ShiftSound(c.s, c.tenths); got != c.want || code != codeOK {
			t.Errorf("ShiftSound(%v, %d): got %v %d, want %v", c.s, c.tenths, got, code, c.want)
		}
	}
}

func TestP5ShiftSoundErrors(t *testing.T) {
	for _, c := range []struct {
		s            impl.Sound
		tenths, code int64
	}{
		{minorSound, 54077, codeRange}, {minorSound, -53514, codeRange}, {minorSound, 120000, codeRange}, {minorSound, -120000, codeRange},
		{soundWith(10000, 10001, 10002, 10003, 10004), -1, codeRange}, {soundWith(440000, 450000, 460000, 470000, 20000000), 1, codeRange},
		// more than MostCents, although there are frequencies at these intervals
		{soundWith(10000, 10001, 10002, 10003, 10004), 120001, codeRange}, {soundWith(19900000, 19910000, 19920000, 19930000, 20000000), -120001, codeRange},
		{minorSound, math.MaxInt64, codeRange}, {minorSound, math.MinInt64, codeRange},
		// partials that become equal, from the lowest pair to the highest one, upwards and downwards
		{soundWith(10000001, 10000002, 12000000, 15000000, 20000000), -12000, codeState}, {soundWith(20000, 10000001, 10000002, 15000000, 20000000), -12000, codeState},
		{soundWith(20000, 440000, 10000001, 10000002, 20000000), -12000, codeState}, {soundWith(20000, 440000, 523252, 10000001, 10000002), -12000, codeState},
		{soundWith(19999990, 19999991, 19999992, 19999993, 19999994), -120000, codeState}, {soundWith(19000000, 19000001, 19000002, 19000003, 20000000), -1, codeState}, {soundWith(19000000, 19000002, 19000003, 19000004, 20000000), -2, codeState},
		{soundWith(10000, 440000, 523252, 19900000, 19900001), 2, codeState}, {soundWith(19900000, 19900001, 19950000, 19960000, 19970000), 2, codeState},
		// ErrRange comes before ErrState, even if the partials that become equal are lower
		{soundWith(10000, 440000, 523252, 10000001, 10000002), -12000, codeRange}, {soundWith(19900000, 19900001, 19950000, 19960000, 20000000), 2, codeRange},
		{soundWith(19999990, 19999991, 19999992, 19999993, 19999994), -120001, codeRange},
	} {
		if got, code := impl.ShiftSound(c.s, c.tenths); got != (impl.Sound{}) || code != c.code {
			t.Errorf("ShiftSound(%v, %d): got %v %d, want the error %d", c.s, c.tenths, got, code, c.code)
		}
	}
	for _, s := range badSounds() {
		// ErrInvalid comes before ErrRange and ErrState
		for _, tenths := range []int64{0, 1, -12000, 12000, 120001, -120001} {
			if got, code := impl.ShiftSound(s, tenths); got != (impl.Sound{}) || code != codeInvalid {
				t.Errorf("ShiftSound(%v, %d): got %v %d, want an error", s, tenths, got, code)
			}
		}
	}
}

// TestP5ShiftingRaisesAllOfASound: each partial becomes the least frequency at the interval from it, and no other partial plays a part in it.
func TestP5ShiftingRaisesAllOfASound(t *testing.T) {
	random := rand.New(rand.NewSource(13))
	sounds := goodSounds()
	for range 300 {
		sounds = append(sounds, randomSound(random))
	}
	for _, s := range sounds {
		for range 5 {
			tenths := (random.Int63n(2*mostCents+1) - mostCents) >> random.Intn(16)
			list, wantCode := listOf(s), int64(codeOK)
			for k, f := range list {
				raised, code := impl.Raise(f, tenths)
				list[k], wantCode = raised, max(wantCode, code)
				if code == codeOK && (tenths > 0 && raised <= f || tenths < 0 && raised > f || logModel(raised) < targetModel(f, tenths)) {
					t.Errorf("the partial %d of %v, raised by %d: got %d", k+1, s, tenths, raised)
				}
			}
			want := soundOf(list)
			if wantCode == codeOK && !isSound(want) {
				wantCode = codeState
			}
			if wantCode != codeOK {
				want = impl.Sound{}
			}
			if got, code := impl.ShiftSound(s, tenths); got != want || code != wantCode {
				t.Errorf("ShiftSound(%v, %d): got %v %d, want %v %d", s, tenths, got, code, want, wantCode)
			}
		}
	}
}

// TestP5ShiftedIdealSoundsStayIdeal: an ideal sound that is raised has no deviation but rounding from its raised strike note.
func TestP5ShiftedIdealSoundsStayIdeal(t *testing.T) {
	for tenths := int64(-30000); tenths <= 30000; tenths += 331 {
		for kind, s := range []impl.Sound{minorSound, majorSound} {
			shifted, code := impl.ShiftSound(s, tenths)
			deviations, deviationsCode := impl.DeviationsOf(shifted, shifted.Prime, int64(kind)+1)
			if code != codeOK || deviationsCode != codeOK || worstModel(deviations) > 1 {
				t.Errorf("ShiftSound(%v, %d): got %v %d, which deviates by %v %d", s, tenths, shifted, code, deviations, deviationsCode)
			}
		}
	}
}

func TestP5NearestKind(t *testing.T) {
	for _, c := range []struct {
		s    impl.Sound
		want int64
	}{
		{minorSound, 1}, {majorSound, 2}, {soundWith(220000, 440000, 530000, 659256, 880000), 1}, {soundWith(220000, 440000, 550000, 659256, 880000), 2},
		// both kinds are equally near, from 538561 to 538592: by 500 above the one and below the other
		{soundWith(220000, 440000, 538560, 659256, 880000), 1}, {soundWith(220000, 440000, 538561, 659256, 880000), 1},
		{soundWith(220000, 440000, 538592, 659256, 880000), 1}, {soundWith(220000, 440000, 538593, 659256, 880000), 2},
		// both kinds are equally near, since another partial is the worst one
		{soundWith(200000, 440000, 523252, 659256, 880000), 1}, {soundWith(200000, 440000, 554366, 659256, 880000), 1}, {soundWith(220000, 440000, 554366, 800000, 880000), 1},
		// the strike note is half the nominal, not the prime
		{soundWith(220000, 400000, 523252, 659256, 880000), 1}, {soundWith(220000, 430000, 554366, 659256, 880000), 2}, {soundWith(220000, 440000, 554366, 659256, 932328), 1},
		{soundWith(10000, 10001, 10002, 10003, 19999), 1}, {soundWith(5000000, 10000000, 12599211, 14983072, 20000000), 2},
		// farther off than MostCents, for one kind or for both
		{soundWith(10000, 10001, 11900, 19000000, 20000000), 1}, {soundWith(10000, 10001, 10005, 19000000, 20000000), 1}, {soundWith(10000, 10001, 10002, 10003, 20000000), 1},
		{soundWith(10000, 10001, 12000, 12001, 20000000), 1},
	} {
		if got, code := impl.NearestKind(c.s); got != c.want || code != codeOK {
			t.Errorf("NearestKind(%v): got %d %d, want %d", c.s, got, code, c.want)
		}
	}
	for _, nominal := range []int64{10004, 19997, 19998} {
		if got, code := impl.NearestKind(soundWith(10000, 10001, 10002, 10003, nominal)); got != 0 || code != codeState {
			t.Errorf("NearestKind with the nominal %d: got %d %d, want an error", nominal, got, code)
		}
	}
	for _, s := range append(badSounds(), soundWith(10000, 10001, 10001, 10003, 10004)) {
		if got, code := impl.NearestKind(s); got != 0 || code != codeInvalid {
			t.Errorf("NearestKind(%v): got %d %d, want an error", s, got, code)
		}
	}
}

// TestP5NearestKindsAreNearest compares the greatest deviations from both kinds.
func TestP5NearestKindsAreNearest(t *testing.T) {
	random := rand.New(rand.NewSource(14))
	sounds, seen := goodSounds(), map[int64]int{}
	for range 300 {
		sounds = append(sounds, randomSound(random))
		tierce := 500000 + random.Int63n(80000)
		sounds = append(sounds, soundWith(220000, 440000, tierce, 659256, 880000), soundWith(218000, 441000, tierce, 661000, 880000+random.Int63n(9000)))
	}
	for _, s := range sounds {
		strike := (s.Nominal + 1) / 2
		if !isFrequency(strike) {
			continue
		}
		want := int64(1)
		if worstModel(deviationsModel(s, strike, 2)) < worstModel(deviationsModel(s, strike, 1)) {
			want = 2
		}
		seen[want]++
		if got, code := impl.NearestKind(s); got != want || code != codeOK {
			t.Errorf("NearestKind(%v): got %d %d, want %d", s, got, code, want)
		}
	}
	if seen[1] < 50 || seen[2] < 50 {
		t.Errorf("too few sounds of one kind: %v", seen)
	}
}

var soundTexts = []string{
	"220.000 440.000 523.252 659.256 880.000",
	"220.000 440.000 554.366 659.256 880.000",
	"10.000 10.001 10.002 10.003 10.004",
	"19999.996 19999.997 19999.998 19999.999 20000.000",
}

func TestP5SoundTexts(t *testing.T) {
	for i, want := range soundTexts {
		s := goodSounds()[i]
		if got := impl.SoundText(s); got != want {
			t.Errorf("SoundText(%v): got %q, want %q", s, got, want)
		}
		if got, ok := impl.ReadSound(want); got != s || !ok {
			t.Errorf("ReadSound(%q): got %v %v, want %v", want, got, ok, s)
		}
	}
	random := rand.New(rand.NewSource(15))
	sounds := goodSounds()
	for range 500 {
		sounds = append(sounds, randomSound(random))
	}
	for _, s := range sounds {
		texts := []string{}
		for _, f := range listOf(s) {
			texts = append(texts, impl.HertzText(f))
		}
		text := impl.SoundText(s)
		if text != strings.Join(texts, " ") {
			t.Errorf("SoundText(%v): got %q", s, text)
		}
		if got, ok := impl.ReadSound(text); got != s || !ok {
			t.Errorf("ReadSound(%q): got %v %v, want %v", text, got, ok, s)
		}
	}
	for _, s := range badSounds() {
		if got := impl.SoundText(s); got != "" {
			t.Errorf("SoundText(%v): got %q, want none", s, got)
		}
	}
}

func TestP5ReadSound(t *testing.T) {
	whole := soundTexts[0]
	bad := []string{
		"220.000 440.000 523.252 659.256", "440.000 523.252 659.256 880.000", whole + " 900.000", "210.000 " + whole, whole + " " + whole, "220.000", "-", "sound",
		// blanks
		" " + whole, whole + " ", "220.000  440.000 523.252 659.256 880.000", "220.000 440.000 523.252 659.256  880.000", "220.000 440.000 523.252 659.256 ", " 440.000 523.252 659.256 880.000",
		"220.000 440.000  659.256 880.000", "    ", "     ", strings.ReplaceAll(whole, " ", "\t"), strings.ReplaceAll(whole, " ", ","), strings.ReplaceAll(whole, " ", ""), whole + "\n", strings.ReplaceAll(whole, " ", "\u00a0"),
		// digits, points and signs
		whole + "0", "0" + whole, "220.00 440.000 523.252 659.256 880.000", "220.000 440.000 523.252 659.256 880.0000", "220.000 0440.000 523.252 659.256 880.000", "220 440 523 659 880",
		"220000 440000 523252 659256 880000", "+" + whole, "-" + whole, "220.000 440.000 +523.252 659.256 880.000", "220.000 440.000 523,252 659.256 880.000", "220.000 440.000 x 659.256 880.000",
		// sounds that are not valid
		"220.000 220.000 523.252 659.256 880.000", "220.000 440.000 523.252 880.000 880.000", "220.000 523.252 440.000 659.256 880.000", "880.000 659.256 523.252 440.000 220.000",
		"9.999 440.000 523.252 659.256 880.000", "220.000 440.000 523.252 659.256 20000.001", "0.000 0.000 0.000 0.000 0.000", "220.000 440.000 523.252 659.256 880.001\x00", "\xff",
		strings.Repeat(" ", 1000), strings.Repeat(whole+" ", 1000), strings.Repeat("9", 10000),
	}
	for _, s := range slices.Concat(bad, edgeTexts, pointedTexts, temperamentTexts) {
		if got, ok := impl.ReadSound(s); got != (impl.Sound{}) || ok {
			t.Errorf("ReadSound(%q): got %v %v, want none", s, got, ok)
		}
	}
	if got, ok := impl.ReadSound("10.000 440.000 523.252 659.256 20000.000"); got != soundWith(10000, 440000, 523252, 659256, 20000000) || !ok {
		t.Errorf("ReadSound: got %v %v", got, ok)
	}
}

// damagedTexts returns the texts with one byte less than some others, one more, or another one of some bytes.
func damagedTexts(texts []string, bytes string) []string {
	var damaged []string
	for _, whole := range texts {
		for i := range len(whole) + 1 {
			before, after := whole[:i], whole[i:]
			for _, b := range strings.Split(bytes, "") {
				damaged = append(damaged, before+b+after)
				if after != "" {
					damaged = append(damaged, before+b+after[1:])
				}
			}
			if after != "" {
				damaged = append(damaged, before+after[1:])
			}
		}
	}
	return damaged
}

// TestP5DamagedTextsAreNotRead: a text of a sound that is damaged is that of the sound that is read, or of none.
func TestP5DamagedTextsAreNotRead(t *testing.T) {
	for _, s := range damagedTexts(soundTexts, " 09.-+a") {
		got, ok := impl.ReadSound(s)
		if ok && (impl.SoundText(got) != s || !isSound(got)) || !ok && got != (impl.Sound{}) {
			t.Errorf("ReadSound(%q): got %v %v", s, got, ok)
		}
	}
}

// partialsResults has the results of all functions of the chapter for valid and invalid arguments.
func partialsResults() []any {
	var all []any
	add := func(result, code int64) { all = append(all, result, code) }
	show := func(s impl.Sound, code int64) { all = append(all, s, code) }
	list := func(list []int64, code int64) { all = append(all, impl.ListText(list), code) }
	for _, n := range slices.Concat(edgeNumbers, edgeFrequencies, edgeIntervals) {
		all = append(all, impl.PartialName(n))
		list(impl.IdealOffsets(n))
		for kind := range int64(4) {
			show(impl.IdealSound(n, kind))
		}
		worst, value, code := impl.WorstDeviation([]int64{0, n, 0, -5, 5})
		all = append(all, worst, value, code)
	}
	for _, s := range slices.Concat(goodSounds(), badSounds()) {
		all = append(all, impl.ValidSound(s), impl.SoundText(s))
		add(impl.StrikeOf(s))
		add(impl.NearestKind(s))
		for _, n := range slices.Concat(edgeFrequencies, edgeIntervals) {
			add(impl.PartialOf(s, n))
			show(impl.ShiftSound(s, n))
			list(impl.DeviationsOf(s, n, 1))
			list(impl.DeviationsOf(s, 440000, n))
			show(impl.WithPartial(s, n, 440000))
			for k := range int64(7) {
				show(impl.WithPartial(s, k, n))
			}
		}
	}
	for _, s := range slices.Concat(soundTexts, edgeTexts, pointedTexts) {
		sound, ok := impl.ReadSound(s)
		all = append(all, sound, ok)
	}
	return all
}

// TestP1PartialsReturn: every function of chapter 4 returns for all arguments, and the same again.
func TestP1PartialsReturn(t *testing.T) {
	first := partialsResults()
	if again := partialsResults(); !slices.Equal(first, again) {
		t.Error("other results for equal arguments")
	}
}

// TestP1WorstDeviationKeepsItsArgument: neither the list nor the capacity behind it is modified.
func TestP1WorstDeviationKeepsItsArgument(t *testing.T) {
	for size := range 9 {
		whole := []int64{3, -9, 9, 120000, -120000, 7, -7, 1, 2}
		before := slices.Clone(whole)
		partial, value, code := impl.WorstDeviation(whole[:size])
		if !slices.Equal(whole, before) {
			t.Fatalf("WorstDeviation of %d numbers: the list is now %v", size, whole)
		}
		if again, againValue, againCode := impl.WorstDeviation(slices.Clone(whole[:size])); again != partial || againValue != value || againCode != code {
			t.Errorf("WorstDeviation of %d numbers: %d %d %d and %d %d %d", size, partial, value, code, again, againValue, againCode)
		}
	}
}

// TestP1PartialsResultsAreNew: a result that is overwritten changes no later result and no other one.
func TestP1PartialsResultsAreNew(t *testing.T) {
	for i, want := range [][]int64{minorOffsets, majorOffsets} {
		kind := int64(i) + 1
		other, _ := impl.IdealOffsets(kind)
		overwrite(first(impl.IdealOffsets(kind)), 99)
		if again, _ := impl.IdealOffsets(kind); !slices.Equal(again, want) || !slices.Equal(other, want) {
			t.Errorf("IdealOffsets(%d): got %v and %v", kind, other, again)
		}
		deviations, _ := impl.DeviationsOf(minorSound, 440000, kind)
		overwrite(first(impl.DeviationsOf(minorSound, 440000, kind)), 99)
		if again, _ := impl.DeviationsOf(minorSound, 440000, kind); !slices.Equal(again, deviations) || slices.Contains(again, 99) {
			t.Errorf("DeviationsOf(%v, 440000, %d): got %v and %v", minorSound, kind, deviations, again)
		}
	}
}
