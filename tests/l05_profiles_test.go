package tests

import (
	"fmt"
	"math"
	"math/rand"
	"slices"
	"strings"
	"testing"

	"loop.example/g00952/impl"
)

// The limits of chapter 5, written out from the document.
const (
	maxRings  = 32
	minRadius = 500
	maxRadius = 150000
	minWall   = 100
	minHeight = 10
	maxLength = 300000
)

const smallText = "small 5000/4500/600 4800/4400/900"

func ringWith(outer, inner, height int64) impl.Ring {
	return impl.Ring{Outer: outer, Inner: inner, Height: height}
}

// profileWith returns the profile a of rings.
func profileWith(rings ...impl.Ring) impl.Profile { return impl.Profile{Name: "a", Rings: rings} }

// repeated returns the profile a of equal rings.
func repeated(r impl.Ring, count int) impl.Profile {
	return profileWith(slices.Repeat([]impl.Ring{r}, count)...)
}

func smallProfile() impl.Profile {
	return impl.Profile{Name: "small", Rings: []impl.Ring{ringWith(5000, 4500, 600), ringWith(4800, 4400, 900)}}
}

// goodRings has valid rings, with each number at its limits.
func goodRings() []impl.Ring {
	return []impl.Ring{
		ringWith(5000, 4500, 600), ringWith(500, 0, 10), ringWith(500, 400, 10), ringWith(500, 1, 300000), ringWith(501, 401, 11),
		ringWith(150000, 0, 300000), ringWith(150000, 149900, 10), ringWith(150000, 149900, 299999), ringWith(149999, 149899, 300000),
	}
}

// badRings has rings that are not valid, each for one reason or for several.
func badRings() []impl.Ring {
	bad := []impl.Ring{
		{}, ringWith(499, 0, 10), ringWith(499, 399, 10), ringWith(150001, 0, 10), ringWith(150001, 149901, 10),
		ringWith(500, -1, 10), ringWith(500, 401, 10), ringWith(500, 500, 10), ringWith(500, 501, 10), ringWith(150000, 149901, 10), ringWith(400, 500, 10),
		ringWith(500, 0, 9), ringWith(500, 0, 0), ringWith(500, 0, -10), ringWith(500, 0, 300001),
		ringWith(math.MinInt64, math.MaxInt64, math.MinInt64), ringWith(math.MinInt64, math.MinInt64, 10), ringWith(math.MinInt64+99, 0, 10),
		ringWith(math.MaxInt64, math.MaxInt64, math.MaxInt64), ringWith(math.MaxInt64, math.MaxInt64-100, 10),
	}
	for _, n := range []int64{math.MinInt64, math.MinInt64 + 1, -1 << 32, 1 << 32, math.MaxInt64 - 1, math.MaxInt64} {
		bad = append(bad, ringWith(n, 0, 10), ringWith(500, n, 10), ringWith(500, 0, n))
	}
	return bad
}

// goodProfiles has valid profiles: of one ring, of many, as long as possible, and of rings that just fit.
func goodProfiles() []impl.Profile {
	full := repeated(ringWith(500, 0, 10), 32)
	long := repeated(ringWith(150000, 149900, 9375), 32)
	return []impl.Profile{
		smallProfile(), profileWith(ringWith(500, 0, 10)), profileWith(ringWith(150000, 149900, 300000)), full, long,
		{Name: "abcdefghij", Rings: []impl.Ring{ringWith(500, 400, 10)}}, {Name: "a123456789", Rings: []impl.Ring{ringWith(500, 400, 10)}},
		profileWith(ringWith(500, 0, 150000), ringWith(500, 0, 150000)), profileWith(ringWith(500, 0, 10), ringWith(500, 0, 299990)),
		profileWith(ringWith(1000, 900, 20), ringWith(901, 800, 20)), profileWith(ringWith(901, 800, 20), ringWith(1000, 900, 20)),
		profileWith(ringWith(1000, 900, 20), ringWith(901, 801, 20), ringWith(802, 0, 20), ringWith(150000, 801, 20)),
		// the least wall and the greatest radius several times
		profileWith(ringWith(3000, 2500, 50), ringWith(3200, 2800, 30), ringWith(3100, 2700, 40), ringWith(3200, 2800, 20), ringWith(3000, 2500, 10)),
		profileWith(ringWith(3000, 2600, 50), ringWith(2900, 2600, 30), ringWith(3000, 2700, 40), ringWith(2701, 2401, 20)),
	}
}

// badProfiles has profiles that are not valid.
func badProfiles() []impl.Profile {
	good := ringWith(500, 0, 10)
	bad := []impl.Profile{
		{}, {Name: "a"}, {Name: "a", Rings: []impl.Ring{}}, repeated(good, 33), repeated(good, 1000),
		repeated(ringWith(500, 0, 9376), 32), profileWith(ringWith(500, 0, 150000), ringWith(500, 0, 150001)), profileWith(ringWith(500, 0, 300000), good),
		profileWith(good, ringWith(500, 0, 299991)), repeated(ringWith(500, 0, 300000), 32),
		// neighbours that do not fit
		profileWith(ringWith(1000, 900, 20), ringWith(900, 800, 20)), profileWith(ringWith(900, 800, 20), ringWith(1000, 900, 20)),
		profileWith(ringWith(1000, 900, 20), ringWith(899, 800, 20)), profileWith(ringWith(899, 800, 20), ringWith(1000, 900, 20)),
		profileWith(ringWith(1000, 0, 20), ringWith(1000, 900, 20), ringWith(900, 0, 20)), profileWith(ringWith(900, 0, 20), ringWith(1000, 900, 20), ringWith(1000, 0, 20)),
		profileWith(ringWith(150000, 149900, 20), ringWith(500, 0, 20)),
	}
	for _, name := range []string{"", "A", "7a", "a b", "a ", "abcdefghijk", "a-b", "\xff", "é", "a\x00", strings.Repeat("a", 1000)} {
		bad = append(bad, impl.Profile{Name: name, Rings: []impl.Ring{good}})
	}
	for _, r := range badRings() {
		bad = append(bad, profileWith(r), profileWith(good, r), profileWith(r, good), profileWith(good, r, good))
	}
	return bad
}

func isRing(r impl.Ring) bool {
	if r.Outer < minRadius || r.Outer > maxRadius || r.Inner < 0 || r.Inner > maxRadius {
		return false
	}
	return r.Outer-r.Inner >= minWall && r.Height >= minHeight && r.Height <= maxLength
}

func isProfile(p impl.Profile) bool {
	length := int64(0)
	for k, r := range p.Rings {
		if !isRing(r) || k > 0 && (p.Rings[k-1].Inner >= r.Outer || r.Inner >= p.Rings[k-1].Outer) {
			return false
		}
		length += r.Height
	}
	return impl.IsName(p.Name) && len(p.Rings) >= 1 && len(p.Rings) <= maxRings && length <= maxLength
}

// randomProfile returns a valid profile of one ring up to most rings.
func randomProfile(random *rand.Rand, most int) impl.Profile {
	for {
		p := impl.Profile{Name: "bell" + fmt.Sprint(random.Intn(100))}
		outer := minRadius + random.Int63n(10000)
		for range 1 + random.Intn(most) {
			outer = max(minRadius, min(maxRadius, outer+random.Int63n(401)-200))
			wall := minWall + random.Int63n(400)
			p.Rings = append(p.Rings, ringWith(outer, max(0, outer-wall), minHeight+random.Int63n(60)))
		}
		if isProfile(p) {
			return p
		}
	}
}

func manyProfiles(seed int64) []impl.Profile {
	profiles := goodProfiles()
	random := rand.New(rand.NewSource(seed))
	for range 300 {
		profiles = append(profiles, randomProfile(random, 8))
	}
	for range 30 {
		profiles = append(profiles, randomProfile(random, 32))
	}
	return profiles
}

// ringsAbove returns, for each height of a profile, the index of the ring at it, found by laying the rings out one after the other.
func ringsAbove(p impl.Profile) []int64 {
	var all []int64
	for k, r := range p.Rings {
		all = append(all, slices.Repeat([]int64{int64(k)}, int(r.Height))...)
	}
	return all
}

// boundaries returns the heights at which rings begin, and the height of the profile at last.
func boundaries(p impl.Profile) []int64 {
	list := []int64{0}
	for k, r := range p.Rings {
		list = append(list, list[k]+r.Height)
	}
	return list
}

func sameProfiles(a, b impl.Profile) bool {
	return a.Name == b.Name && slices.Equal(a.Rings, b.Rings)
}

// noProfile reports whether a profile is the one that comes with an error.
func noProfile(p impl.Profile) bool { return p.Name == "" && len(p.Rings) == 0 }

// copyOf returns an equal profile in other memory.
func copyOf(p impl.Profile) impl.Profile {
	return impl.Profile{Name: p.Name, Rings: slices.Clone(p.Rings)}
}

func TestP6Constants(t *testing.T) {
	got := []int64{impl.MaxRings, impl.MinRadius, impl.MaxRadius, impl.MinWall, impl.MinHeight, impl.MaxLength}
	if want := []int64{32, 500, 150000, 100, 10, 300000}; !slices.Equal(got, want) {
		t.Errorf("constants: got %v, want %v", got, want)
	}
}

func TestP6ValidRing(t *testing.T) {
	for _, r := range goodRings() {
		if !impl.ValidRing(r) {
			t.Errorf("ValidRing(%v): got false", r)
		}
	}
	for _, r := range badRings() {
		if impl.ValidRing(r) {
			t.Errorf("ValidRing(%v): got true", r)
		}
	}
}

// TestP6ValidRingAtTheLimits tries all rings whose numbers are near a limit.
func TestP6ValidRingAtTheLimits(t *testing.T) {
	outers := []int64{math.MinInt64, -500, 0, 99, 100, 499, 500, 501, 5000, 149999, 150000, 150001, math.MaxInt64}
	heights := []int64{math.MinInt64, -10, 0, 9, 10, 11, 299999, 300000, 300001, math.MaxInt64}
	for _, outer := range outers {
		inners := []int64{math.MinInt64, -1, 0, 1, 400, 401, math.MaxInt64, outer - 101, outer - 100, outer - 99, outer, outer + 1}
		for _, inner := range inners {
			for _, height := range heights {
				r := ringWith(outer, inner, height)
				if got := impl.ValidRing(r); got != isRing(r) {
					t.Errorf("ValidRing(%v): got %v", r, got)
				}
			}
		}
	}
}

func TestP6ValidProfile(t *testing.T) {
	for _, p := range goodProfiles() {
		if !impl.ValidProfile(p) {
			t.Errorf("ValidProfile(%v): got false", p)
		}
	}
	for _, p := range badProfiles() {
		if impl.ValidProfile(p) {
			t.Errorf("ValidProfile(%v): got true", p)
		}
	}
}

// TestP6NumberAndLengthOfRings: 32 rings and a length of 300000 are enough, and one more is too much.
func TestP6NumberAndLengthOfRings(t *testing.T) {
	for count := range 70 {
		if got, want := impl.ValidProfile(repeated(ringWith(500, 0, 10), count)), count >= 1 && count <= 32; got != want {
			t.Errorf("ValidProfile of %d rings: got %v", count, got)
		}
	}
	for count := 1; count <= 32; count++ {
		p := repeated(ringWith(500, 0, 10), count)
		for place := range p.Rings {
			for _, more := range []int64{-1, 0, 1} {
				p.Rings[place].Height = 300000 - 10*int64(count-1) + more
				want := more <= 0
				if got := impl.ValidProfile(p); got != want {
					t.Errorf("ValidProfile of %d rings with the length %d: got %v", count, 300000+more, got)
				}
			}
			p.Rings[place].Height = 10
		}
	}
}

// TestP6NeighboursFit: Inner of each is less than Outer of the other, in both orders, and only neighbours are compared.
func TestP6NeighboursFit(t *testing.T) {
	lower := ringWith(2000, 1500, 20)
	for inner := int64(900); inner <= 2100; inner++ {
		for _, outer := range []int64{1400, 1499, 1500, 1501, 1600, 1999, 2000, 2001, 2200} {
			upper := ringWith(outer, inner, 20)
			if !isRing(upper) {
				continue
			}
			want := outer > 1500 && inner < 2000
			if got := impl.ValidProfile(profileWith(lower, upper)); got != want {
				t.Errorf("ValidProfile(%v, %v): got %v", lower, upper, got)
			}
			if got := impl.ValidProfile(profileWith(upper, lower)); got != want {
				t.Errorf("ValidProfile(%v, %v): got %v", upper, lower, got)
			}
		}
	}
	// the first and the last one lie far apart, with one between them that holds both together
	if p := profileWith(ringWith(3000, 2900, 20), ringWith(3000, 0, 20), ringWith(600, 0, 20)); !impl.ValidProfile(p) {
		t.Errorf("ValidProfile(%v): got false", p)
	}
}

func TestP6SameProfile(t *testing.T) {
	all := slices.Concat(goodProfiles(), badProfiles())
	all = append(all, impl.Profile{Name: "small"}, impl.Profile{Name: "Small", Rings: smallProfile().Rings}, impl.Profile{Rings: smallProfile().Rings})
	for k := range smallProfile().Rings {
		for _, change := range []impl.Ring{{Outer: 1}, {Inner: 1}, {Height: 1}, {Outer: -1}, {Inner: -1}, {Height: -1}} {
			p := smallProfile()
			p.Rings[k] = ringWith(p.Rings[k].Outer+change.Outer, p.Rings[k].Inner+change.Inner, p.Rings[k].Height+change.Height)
			all = append(all, p)
		}
	}
	for _, a := range all {
		for _, b := range all {
			if got, want := impl.SameProfile(a, copyOf(b)), sameProfiles(a, b); got != want {
				t.Errorf("SameProfile(%v, %v): got %v", a, b, got)
			}
		}
	}
	if !impl.SameProfile(impl.Profile{Name: "a"}, impl.Profile{Name: "a", Rings: []impl.Ring{}}) {
		t.Error("SameProfile: no rings and nil are not the same")
	}
	small := smallProfile()
	turned := smallProfile()
	slices.Reverse(turned.Rings)
	for _, other := range []impl.Profile{turned, {Name: "small", Rings: small.Rings[:1]}, {Name: "small", Rings: append(copyOf(small).Rings, small.Rings[1])}} {
		if impl.SameProfile(small, other) || impl.SameProfile(other, small) {
			t.Errorf("SameProfile(%v, %v): got true", small, other)
		}
	}
}

// TestP6Example is the example of the chapter.
func TestP6Example(t *testing.T) {
	p, ok := impl.ReadProfile(smallText)
	if !ok || !sameProfiles(p, smallProfile()) {
		t.Fatalf("ReadProfile(%q): got %v %v", smallText, p, ok)
	}
	if got, code := impl.HeightOf(p); got != 1500 || code != codeOK {
		t.Errorf("HeightOf: got %d %d, want 1500", got, code)
	}
	if got, code := impl.LipDiameter(p); got != 10000 || code != codeOK {
		t.Errorf("LipDiameter: got %d %d, want 10000", got, code)
	}
}

func TestP6HeightAndLip(t *testing.T) {
	for _, p := range manyProfiles(21) {
		ends := boundaries(p)
		if got, code := impl.HeightOf(p); got != ends[len(ends)-1] || code != codeOK {
			t.Errorf("HeightOf(%v): got %d %d", p, got, code)
		}
		if got, code := impl.LipDiameter(p); got != p.Rings[0].Outer+p.Rings[0].Outer || code != codeOK {
			t.Errorf("LipDiameter(%v): got %d %d", p, got, code)
		}
	}
	for text, want := range map[string][2]int64{
		"a 500/0/10": {10, 1000}, "a 150000/0/300000": {300000, 300000}, "a 700/0/10 900/0/299990": {300000, 1400}, "a 900/0/11 700/0/12 800/0/13": {36, 1800},
	} {
		p, _ := impl.ReadProfile(text)
		height, _ := impl.HeightOf(p)
		lip, _ := impl.LipDiameter(p)
		if height != want[0] || lip != want[1] {
			t.Errorf("%q: got the height %d and the lip diameter %d, want %v", text, height, lip, want)
		}
	}
}

// TestP6RingAt tries the ends and all boundaries of profiles with one height less and one more.
func TestP6RingAt(t *testing.T) {
	for _, p := range manyProfiles(22) {
		all := ringsAbove(p)
		heights := []int64{math.MinInt64, math.MaxInt64, -1 << 32, 1 << 32}
		for _, h := range boundaries(p) {
			heights = append(heights, h-1, h, h+1)
		}
		for _, h := range heights {
			ring, wall, want := int64(0), int64(0), int64(codeRange)
			if h >= 0 && h < int64(len(all)) {
				ring, want = all[h], codeOK
				wall = p.Rings[ring].Outer - p.Rings[ring].Inner
			}
			if got, code := impl.RingAt(p, h); got != ring || code != want {
				t.Errorf("RingAt(%v, %d): got %d %d, want %d %d", p, h, got, code, ring, want)
			}
			if got, code := impl.WallAt(p, h); got != wall || code != want {
				t.Errorf("WallAt(%v, %d): got %d %d, want %d %d", p, h, got, code, wall, want)
			}
		}
	}
}

func TestP6RingAtSmall(t *testing.T) {
	for _, c := range []struct{ height, ring, wall, code int64 }{
		{0, 0, 500, codeOK}, {1, 0, 500, codeOK}, {599, 0, 500, codeOK}, {600, 1, 400, codeOK}, {1499, 1, 400, codeOK},
		{-1, 0, 0, codeRange}, {1500, 0, 0, codeRange}, {1501, 0, 0, codeRange}, {math.MinInt64, 0, 0, codeRange}, {math.MaxInt64, 0, 0, codeRange},
	} {
		if got, code := impl.RingAt(smallProfile(), c.height); got != c.ring || code != c.code {
			t.Errorf("RingAt(%d): got %d %d, want %d %d", c.height, got, code, c.ring, c.code)
		}
		if got, code := impl.WallAt(smallProfile(), c.height); got != c.wall || code != c.code {
			t.Errorf("WallAt(%d): got %d %d, want %d %d", c.height, got, code, c.wall, c.code)
		}
	}
}

// TestP6ThinnestAndWidest: of several rings with the least wall or the greatest Outer it is the first one.
func TestP6ThinnestAndWidest(t *testing.T) {
	for text, want := range map[string][2]int64{
		smallText: {1, 0}, "a 500/0/10": {0, 0}, "a 500/0/10 500/0/20": {0, 0}, "a 900/500/10 800/400/10 900/600/10 700/400/10 901/600/10": {2, 4},
		"a 800/400/10 900/500/10 900/500/10": {0, 1}, "a 800/300/10 900/500/10 900/500/10": {1, 1}, "a 900/500/10 800/401/10 900/501/10": {1, 0},
	} {
		p, ok := impl.ReadProfile(text)
		thinnest, code := impl.ThinnestRing(p)
		widest, widestCode := impl.WidestRing(p)
		if !ok || thinnest != want[0] || widest != want[1] || code != codeOK || widestCode != codeOK {
			t.Errorf("%q: got %d %d and %d %d, want %v", text, thinnest, code, widest, widestCode, want)
		}
	}
	for _, p := range manyProfiles(23) {
		var walls, outers []int64
		for _, r := range p.Rings {
			walls = append(walls, r.Outer-r.Inner)
			outers = append(outers, r.Outer)
		}
		if got, code := impl.ThinnestRing(p); got != int64(slices.Index(walls, slices.Min(walls))) || code != codeOK {
			t.Errorf("ThinnestRing(%v): got %d %d", p, got, code)
		}
		if got, code := impl.WidestRing(p); got != int64(slices.Index(outers, slices.Max(outers))) || code != codeOK {
			t.Errorf("WidestRing(%v): got %d %d", p, got, code)
		}
	}
}

// profileCodes returns the codes of all functions for a profile with other arguments that would be right; results beside an error must be zero.
func profileCodes(t *testing.T, p impl.Profile, k, height int64, r impl.Ring) []int64 {
	t.Helper()
	var codes []int64
	number := func(n, code int64) {
		if code != codeOK && n != 0 {
			t.Errorf("%v, %d, %d: the result %d comes with the error %d", p, k, height, n, code)
		}
		codes = append(codes, code)
	}
	shape := func(other impl.Profile, code int64) {
		if code != codeOK && !noProfile(other) || code == codeOK && !isProfile(other) {
			t.Errorf("%v, %d, %d: the result %v comes with the code %d", p, k, height, other, code)
		}
		codes = append(codes, code)
	}
	number(impl.HeightOf(p))
	number(impl.LipDiameter(p))
	number(impl.ThinnestRing(p))
	number(impl.WidestRing(p))
	number(impl.RingAt(p, height))
	number(impl.WallAt(p, height))
	shape(impl.InsertRing(p, k, r))
	shape(impl.RemoveRing(p, k))
	shape(impl.SplitRing(p, height))
	return codes
}

// TestP6InvalidProfiles: ErrInvalid comes before all other errors.
func TestP6InvalidProfiles(t *testing.T) {
	for _, p := range badProfiles() {
		for _, k := range []int64{math.MinInt64, -1, 0, 1, 33, 34, math.MaxInt64} {
			for _, r := range []impl.Ring{ringWith(500, 0, 10), ringWith(500, 0, 300000), {}} {
				if codes := profileCodes(t, p, k, k, r); !slices.Equal(codes, slices.Repeat([]int64{codeInvalid}, 9)) {
					t.Errorf("%v, %d, %v: got the codes %v", p, k, r, codes)
				}
			}
		}
	}
}

func TestP6InsertRing(t *testing.T) {
	between := ringWith(4900, 4450, 50)
	for k, want := range []string{
		"small 4900/4450/50 5000/4500/600 4800/4400/900", "small 5000/4500/600 4900/4450/50 4800/4400/900", "small 5000/4500/600 4800/4400/900 4900/4450/50",
	} {
		p, code := impl.InsertRing(smallProfile(), int64(k), between)
		if got := impl.ProfileText(p); got != want || code != codeOK {
			t.Errorf("InsertRing(%d): got %q %d, want %q", k, got, code, want)
		}
	}
	full := repeated(ringWith(500, 0, 50), 32)
	long := profileWith(ringWith(500, 0, 150000), ringWith(500, 0, 149990))
	for _, c := range []struct {
		p    impl.Profile
		k    int64
		r    impl.Ring
		code int64
	}{
		{smallProfile(), -1, between, codeRange}, {smallProfile(), 3, between, codeRange}, {smallProfile(), math.MinInt64, between, codeRange},
		{smallProfile(), math.MaxInt64, between, codeRange}, {smallProfile(), 1 << 32, between, codeRange}, {smallProfile(), 1<<32 + 1, between, codeRange},
		// a ring that is not valid comes first
		{smallProfile(), 1, impl.Ring{}, codeInvalid}, {smallProfile(), 3, impl.Ring{}, codeInvalid}, {smallProfile(), -1, ringWith(500, 401, 10), codeInvalid},
		{full, 0, ringWith(500, 0, 9), codeInvalid}, {full, 33, ringWith(500, 0, 300001), codeInvalid},
		// an index before too many rings, and these before a result that is not valid
		{full, 33, full.Rings[0], codeRange}, {full, -1, full.Rings[0], codeRange}, {full, 0, full.Rings[0], codeFull}, {full, 32, full.Rings[0], codeFull},
		{full, 16, ringWith(500, 0, 300000), codeFull}, {full, 16, ringWith(1000, 900, 10), codeFull}, {full, 33, ringWith(500, 0, 300000), codeRange},
		// a bell that becomes too long, but just so
		{long, 0, ringWith(500, 0, 10), codeOK}, {long, 1, ringWith(500, 0, 10), codeOK}, {long, 2, ringWith(500, 0, 10), codeOK},
		{long, 0, ringWith(500, 0, 11), codeState}, {long, 1, ringWith(500, 0, 11), codeState}, {long, 2, ringWith(500, 0, 11), codeState},
		{long, 2, ringWith(500, 0, 300000), codeState}, {long, 3, ringWith(500, 0, 11), codeRange}, {long, -1, ringWith(500, 0, 11), codeRange},
		// a ring that does not fit beside the one before, or the one after
		{smallProfile(), 1, ringWith(4400, 4300, 50), codeState}, {smallProfile(), 1, ringWith(4500, 4300, 50), codeState}, {smallProfile(), 1, ringWith(4501, 4300, 50), codeOK},
		{smallProfile(), 1, ringWith(5000, 4800, 50), codeState}, {smallProfile(), 1, ringWith(5000, 4799, 50), codeOK}, {smallProfile(), 1, ringWith(5200, 5000, 50), codeState},
		{smallProfile(), 0, ringWith(4500, 4000, 50), codeState}, {smallProfile(), 0, ringWith(4501, 4000, 50), codeOK}, {smallProfile(), 0, ringWith(5100, 5000, 50), codeState},
		{smallProfile(), 0, ringWith(5100, 4999, 50), codeOK}, {smallProfile(), 2, ringWith(4400, 4000, 50), codeState}, {smallProfile(), 2, ringWith(4401, 4000, 50), codeOK},
		{smallProfile(), 2, ringWith(4900, 4800, 50), codeState}, {smallProfile(), 2, ringWith(4900, 4799, 50), codeOK}, {smallProfile(), 3, ringWith(4400, 4000, 50), codeRange},
	} {
		p, code := impl.InsertRing(c.p, c.k, c.r)
		if code != c.code || code != codeOK && !noProfile(p) || code == codeOK && !sameProfiles(p, impl.Profile{Name: c.p.Name, Rings: slices.Insert(slices.Clone(c.p.Rings), int(c.k), c.r)}) {
			t.Errorf("InsertRing(%v, %d, %v): got %v %d, want the code %d", c.p, c.k, c.r, p, code, c.code)
		}
	}
	almost := repeated(ringWith(500, 0, 50), 31)
	if p, code := impl.InsertRing(almost, 31, ringWith(500, 0, 50)); !sameProfiles(p, full) || code != codeOK {
		t.Errorf("InsertRing of the last ring: got %v %d", p, code)
	}
}

func TestP6RemoveRing(t *testing.T) {
	p := profileWith(ringWith(1000, 500, 20), ringWith(700, 300, 30), ringWith(500, 0, 40))
	one := profileWith(ringWith(1000, 500, 20))
	for _, c := range []struct {
		p    impl.Profile
		k    int64
		want string
		code int64
	}{
		{p, 0, "a 700/300/30 500/0/40", codeOK}, {p, 2, "a 1000/500/20 700/300/30", codeOK},
		// Inner of the first one is as great as Outer of the last one
		{p, 1, "", codeState}, {profileWith(p.Rings[2], p.Rings[1], p.Rings[0]), 1, "", codeState},
		{profileWith(p.Rings[0], p.Rings[1], ringWith(501, 0, 40)), 1, "a 1000/500/20 501/0/40", codeOK}, {profileWith(ringWith(501, 0, 40), p.Rings[1], p.Rings[0]), 1, "a 501/0/40 1000/500/20", codeOK},
		{p, -1, "", codeRange}, {p, 3, "", codeRange}, {p, math.MinInt64, "", codeRange}, {p, math.MaxInt64, "", codeRange}, {p, 1 << 32, "", codeRange},
		{one, 0, "", codeState}, {one, 1, "", codeRange}, {one, -1, "", codeRange},
		{smallProfile(), 0, "small 4800/4400/900", codeOK}, {smallProfile(), 1, "small 5000/4500/600", codeOK}, {smallProfile(), 2, "", codeRange},
		{repeated(ringWith(500, 0, 10), 32), 31, impl.ProfileText(repeated(ringWith(500, 0, 10), 31)), codeOK}, {repeated(ringWith(500, 0, 10), 32), 32, "", codeRange},
	} {
		got, code := impl.RemoveRing(c.p, c.k)
		if impl.ProfileText(got) != c.want || code != c.code || code != codeOK && !noProfile(got) {
			t.Errorf("RemoveRing(%v, %d): got %v %d, want %q %d", c.p, c.k, got, code, c.want, c.code)
		}
	}
}

// TestP6RemovingUndoesInserting tries all indexes of profiles with rings of many kinds.
func TestP6RemovingUndoesInserting(t *testing.T) {
	random := rand.New(rand.NewSource(24))
	inserted := 0
	for _, p := range manyProfiles(25) {
		for k := int64(-1); k <= int64(len(p.Rings))+1; k++ {
			near := p.Rings[random.Intn(len(p.Rings))]
			r := ringWith(near.Outer+random.Int63n(801)-400, near.Inner+random.Int63n(801)-400, 1+random.Int63n(100))
			got, code := impl.InsertRing(p, k, r)
			if want := insertCode(p, k, r); code != want {
				t.Errorf("InsertRing(%v, %d, %v): got the code %d, want %d", p, k, r, code, want)
			}
			if code != codeOK {
				continue
			}
			inserted++
			if !isProfile(got) || got.Rings[k] != r || len(got.Rings) != len(p.Rings)+1 {
				t.Errorf("InsertRing(%v, %d, %v): got %v", p, k, r, got)
			}
			if again, code := impl.RemoveRing(got, k); !sameProfiles(again, p) || code != codeOK {
				t.Errorf("RemoveRing(%v, %d): got %v %d, want %v", got, k, again, code, p)
			}
		}
	}
	if inserted < 500 {
		t.Errorf("only %d rings could be inserted", inserted)
	}
}

func insertCode(p impl.Profile, k int64, r impl.Ring) int64 {
	switch {
	case !isRing(r):
		return codeInvalid
	case k < 0 || k > int64(len(p.Rings)):
		return codeRange
	case len(p.Rings) >= maxRings:
		return codeFull
	case !isProfile(impl.Profile{Name: p.Name, Rings: slices.Insert(slices.Clone(p.Rings), int(k), r)}):
		return codeState
	}
	return codeOK
}

// TestP6InsertingUndoesRemoving: the ring that was removed can be inserted again where it was.
func TestP6InsertingUndoesRemoving(t *testing.T) {
	for _, p := range manyProfiles(26) {
		for k, r := range p.Rings {
			left := impl.Profile{Name: p.Name, Rings: slices.Delete(slices.Clone(p.Rings), k, k+1)}
			got, code := impl.RemoveRing(p, int64(k))
			if !isProfile(left) {
				if !noProfile(got) || code != codeState {
					t.Errorf("RemoveRing(%v, %d): got %v %d, want an error", p, k, got, code)
				}
				continue
			}
			if !sameProfiles(got, left) || code != codeOK {
				t.Errorf("RemoveRing(%v, %d): got %v %d, want %v", p, k, got, code, left)
			}
			if again, code := impl.InsertRing(got, int64(k), r); !sameProfiles(again, p) || code != codeOK {
				t.Errorf("InsertRing(%v, %d, %v): got %v %d, want %v", got, k, r, again, code, p)
			}
		}
	}
}

func TestP6SplitRing(t *testing.T) {
	full := repeated(ringWith(500, 0, 50), 32)
	for _, c := range []struct {
		p      impl.Profile
		height int64
		want   string
		code   int64
	}{
		{smallProfile(), 700, "small 5000/4500/600 4800/4400/100 4800/4400/800", codeOK}, {smallProfile(), 300, "small 5000/4500/300 5000/4500/300 4800/4400/900", codeOK},
		// parts of the least height, and of one less
		{smallProfile(), 10, "small 5000/4500/10 5000/4500/590 4800/4400/900", codeOK}, {smallProfile(), 590, "small 5000/4500/590 5000/4500/10 4800/4400/900", codeOK},
		{smallProfile(), 610, "small 5000/4500/600 4800/4400/10 4800/4400/890", codeOK}, {smallProfile(), 1490, "small 5000/4500/600 4800/4400/890 4800/4400/10", codeOK},
		{smallProfile(), 9, "", codeState}, {smallProfile(), 591, "", codeState}, {smallProfile(), 609, "", codeState}, {smallProfile(), 1491, "", codeState},
		{smallProfile(), 0, "", codeState}, {smallProfile(), 1, "", codeState}, {smallProfile(), 599, "", codeState}, {smallProfile(), 600, "", codeState}, {smallProfile(), 1499, "", codeState},
		{smallProfile(), -1, "", codeRange}, {smallProfile(), 1500, "", codeRange}, {smallProfile(), math.MinInt64, "", codeRange}, {smallProfile(), math.MaxInt64, "", codeRange},
		// a ring that is too low for two, and one that is just high enough
		{profileWith(ringWith(500, 0, 19)), 10, "", codeState}, {profileWith(ringWith(500, 0, 19)), 9, "", codeState}, {profileWith(ringWith(500, 0, 20)), 10, "a 500/0/10 500/0/10", codeOK},
		// a height before too many rings, and these before a part that is too low
		{full, 20, "", codeFull}, {full, 5, "", codeFull}, {full, 0, "", codeFull}, {full, 50, "", codeFull}, {full, 1599, "", codeFull}, {full, 1600, "", codeRange}, {full, -1, "", codeRange},
		{profileWith(ringWith(500, 0, 300000)), 150000, "a 500/0/150000 500/0/150000", codeOK}, {profileWith(ringWith(500, 0, 300000)), 299990, "a 500/0/299990 500/0/10", codeOK},
	} {
		got, code := impl.SplitRing(c.p, c.height)
		if impl.ProfileText(got) != c.want || code != c.code || code != codeOK && !noProfile(got) {
			t.Errorf("SplitRing(%v, %d): got %v %d, want %q %d", c.p, c.height, got, code, c.want, c.code)
		}
	}
	almost := repeated(ringWith(500, 0, 50), 31)
	if got, code := impl.SplitRing(almost, 1520); len(got.Rings) != 32 || code != codeOK {
		t.Errorf("SplitRing of the last ring: got %v %d", got, code)
	}
}

// TestP6DividingChangesNoWall: the radii and the wall at each height stay, and a new ring begins at the height.
func TestP6DividingChangesNoWall(t *testing.T) {
	random := rand.New(rand.NewSource(27))
	divided := 0
	for _, p := range manyProfiles(28) {
		all, ends := ringsAbove(p), boundaries(p)
		heights := []int64{-1, int64(len(all)), random.Int63n(int64(len(all)))}
		for _, end := range ends {
			heights = append(heights, end+9, end+10, end+11, end-11, end-10, end-9)
		}
		for _, h := range heights {
			got, code := impl.SplitRing(p, h)
			if want := splitCode(p, all, h); code != want || code != codeOK && !noProfile(got) {
				t.Errorf("SplitRing(%v, %d): got %v %d, want the code %d", p, h, got, code, want)
			}
			if code != codeOK {
				continue
			}
			divided++
			checkDivided(t, p, got, all, h)
		}
	}
	if divided < 500 {
		t.Errorf("only %d rings could be divided", divided)
	}
}

// splitCode returns the code of dividing a profile with the ringsAbove all at a height.
func splitCode(p impl.Profile, all []int64, h int64) int64 {
	ends := boundaries(p)
	switch {
	case h < 0 || h >= int64(len(all)):
		return codeRange
	case len(p.Rings) >= maxRings:
		return codeFull
	case h-ends[all[h]] < minHeight || ends[all[h]+1]-h < minHeight:
		return codeState
	}
	return codeOK
}

func checkDivided(t *testing.T, p, got impl.Profile, before []int64, h int64) {
	t.Helper()
	after := ringsAbove(got)
	if got.Name != p.Name || !isProfile(got) || len(got.Rings) != len(p.Rings)+1 || len(before) != len(after) || !slices.Contains(boundaries(got), h) {
		t.Errorf("SplitRing(%v, %d): got %v", p, h, got)
		return
	}
	for height := range before {
		a, b := p.Rings[before[height]], got.Rings[after[height]]
		if a.Outer != b.Outer || a.Inner != b.Inner {
			t.Errorf("SplitRing(%v, %d): got other radii at the height %d: %v", p, h, height, got)
			return
		}
	}
	for _, height := range append(boundaries(got), h-1, h+1) {
		wall, code := impl.WallAt(p, height)
		if other, otherCode := impl.WallAt(got, height); wall != other || code != otherCode {
			t.Errorf("SplitRing(%v, %d): the wall at %d was %d and is %d", p, h, height, wall, other)
		}
	}
}

var profileTexts = []string{smallText, "a 500/0/10", "a 150000/149900/300000", "abcdefghij 500/400/10", "a123456789 901/800/20 1000/900/20"}

func TestP6ProfileTexts(t *testing.T) {
	for _, text := range profileTexts {
		p, ok := impl.ReadProfile(text)
		if got := impl.ProfileText(p); got != text || !ok {
			t.Errorf("ReadProfile(%q): got %v %v", text, p, ok)
		}
	}
	for _, p := range manyProfiles(29) {
		want := p.Name
		for _, r := range p.Rings {
			want += fmt.Sprintf(" %d/%d/%d", r.Outer, r.Inner, r.Height)
		}
		text := impl.ProfileText(p)
		if text != want {
			t.Errorf("ProfileText(%v): got %q, want %q", p, text, want)
		}
		if got, ok := impl.ReadProfile(text); !sameProfiles(got, p) || !ok {
			t.Errorf("ReadProfile(%q): got %v %v, want %v", text, got, ok, p)
		}
	}
	for _, p := range badProfiles() {
		if got := impl.ProfileText(p); got != "" {
			t.Errorf("ProfileText(%v): got %q, want none", p, got)
		}
	}
}

func TestP6ReadProfile(t *testing.T) {
	ring := " 500/0/10"
	bad := []string{
		"a", "a ", "small", "500/0/10", " 500/0/10", "a/500/0/10", "a 500", "a 500/0", "a 500/0/", "a /0/10", "a 500//10", "a //", "a 500/0/10/", "a /500/0/10", "a 500/0/10/20", "a 500/0//10", "a 500 0 10",
		// blanks
		"a  500/0/10", " a 500/0/10", "a 500/0/10 ", "a 500/0/10  500/0/10", "a 500 /0/10", "a 500/ 0/10", "a 500/0/ 10", "a\t500/0/10", "a 500/0/10\n", "a\u00a0500/0/10", "a b 500/0/10",
		// signs and digits
		"a +500/0/10", "a 500/+0/10", "a 500/-0/10", "a 500/0/+10", "a 0500/0/10", "a 500/00/10", "a 500/0/010", "a -500/0/10", "a 500/0/-10", "a 500.0/0/10", "a 5e2/0/10", "a 500/x/10", "a 500,0,10", "a 500\\0\\10",
		"a 500/0/10x", "a 1_000/0/10", "a 9223372036854775808/0/10", "a 500/0/18446744073709551626",
		// profiles that are not valid
		"a 499/0/10", "a 150001/0/10", "a 500/401/10", "a 500/-1/10", "a 500/0/9", "a 500/0/300001", "a 500/0/10 700/500/10", "a 700/500/10 500/0/10", "a 500/0/150000 500/0/150001", "a 500/0/10 0/0/0",
		"A 500/0/10", "7 500/0/10", "abcdefghijk 500/0/10", "a-b 500/0/10", "é 500/0/10", "\xff 500/0/10", "a" + strings.Repeat(ring, 33), "a" + strings.Repeat(ring, 34), "a" + strings.Repeat(ring, 5000),
		strings.Repeat(" ", 1000), "a" + strings.Repeat(" ", 1000), "a " + strings.Repeat("/", 1000), strings.Repeat(smallText+" ", 3), "a" + strings.Repeat(ring, 32) + " ",
	}
	for _, s := range slices.Concat(bad, edgeTexts, pointedTexts, temperamentTexts, soundTexts) {
		if got, ok := impl.ReadProfile(s); !noProfile(got) || ok {
			t.Errorf("ReadProfile(%q): got %v %v, want none", s, got, ok)
		}
	}
	if got, ok := impl.ReadProfile("a" + strings.Repeat(ring, 32)); !sameProfiles(got, repeated(ringWith(500, 0, 10), 32)) || !ok {
		t.Errorf("ReadProfile of 32 rings: got %v %v", got, ok)
	}
}

// TestP6DamagedTextsAreNotRead: a text that is damaged is that of the profile that is read, or of none.
func TestP6DamagedTextsAreNotRead(t *testing.T) {
	for _, s := range damagedTexts(profileTexts, " 09/-+a") {
		got, ok := impl.ReadProfile(s)
		if ok && (impl.ProfileText(got) != s || !isProfile(got)) || !ok && !noProfile(got) {
			t.Errorf("ReadProfile(%q): got %v %v", s, got, ok)
		}
	}
}

// profilesResults has the results of all functions of the chapter for valid and invalid arguments, as texts.
func profilesResults() []string {
	var all []string
	add := func(results ...any) { all = append(all, fmt.Sprint(results...)) }
	numbers := slices.Concat(edgeNumbers, []int64{9, 10, 31, 32, 33, 590, 600, 610, 1499, 1500, 300000})
	rings := slices.Concat(goodRings(), badRings())
	for _, r := range rings {
		add(impl.ValidRing(r))
	}
	for _, p := range slices.Concat(goodProfiles(), badProfiles()) {
		add(impl.ValidProfile(p), impl.SameProfile(p, p), impl.SameProfile(p, smallProfile()), impl.ProfileText(p))
		add(impl.HeightOf(p))
		add(impl.LipDiameter(p))
		add(impl.ThinnestRing(p))
		add(impl.WidestRing(p))
		for i, n := range numbers {
			add(impl.RingAt(p, n))
			add(impl.WallAt(p, n))
			add(impl.InsertRing(p, n, rings[i%len(rings)]))
			add(impl.InsertRing(p, int64(i%3), rings[i%len(rings)]))
			add(impl.RemoveRing(p, n))
			add(impl.SplitRing(p, n))
		}
	}
	for _, s := range slices.Concat(profileTexts, edgeTexts, pointedTexts) {
		add(impl.ReadProfile(s))
	}
	return all
}

// TestP1ProfilesReturn: every function of chapter 5 returns for all arguments, and the same again.
func TestP1ProfilesReturn(t *testing.T) {
	first := profilesResults()
	if again := profilesResults(); !slices.Equal(first, again) {
		t.Error("other results for equal arguments")
	}
}

// useProfile calls all functions of the chapter with a profile.
func useProfile(p impl.Profile, k, height int64, r impl.Ring) {
	impl.ValidProfile(p)
	impl.SameProfile(p, p)
	impl.HeightOf(p)
	impl.LipDiameter(p)
	impl.RingAt(p, height)
	impl.WallAt(p, height)
	impl.ThinnestRing(p)
	impl.WidestRing(p)
	impl.InsertRing(p, k, r)
	impl.RemoveRing(p, k)
	impl.SplitRing(p, height)
	impl.ProfileText(p)
}

// TestP1ProfilesKeepTheirArguments: neither the rings nor the capacity behind them are modified.
func TestP1ProfilesKeepTheirArguments(t *testing.T) {
	whole := make([]impl.Ring, 40)
	for i := range whole {
		whole[i] = ringWith(5000+int64(i), 4500-int64(i), 40+int64(i))
	}
	before := slices.Clone(whole)
	for size := range len(whole) {
		p := impl.Profile{Name: "a", Rings: whole[:size]}
		for k := int64(-1); k <= int64(size)+1; k++ {
			for _, r := range []impl.Ring{ringWith(4900, 4400, 77), ringWith(600, 0, 77), {}} {
				useProfile(p, k, 50*k+20, r)
				if !slices.Equal(whole, before) {
					t.Fatalf("a profile of %d rings, and %d: the rings are now %v", size, k, whole)
				}
			}
		}
	}
}

// TestP1ProfileResultsAreNew: a result that is overwritten changes neither the argument nor any other result, and the other way round.
func TestP1ProfileResultsAreNew(t *testing.T) {
	mark := ringWith(1, 2, 3)
	for name, change := range map[string]func(impl.Profile) (impl.Profile, int64){
		"InsertRing at the end": func(p impl.Profile) (impl.Profile, int64) {
			return impl.InsertRing(p, int64(len(p.Rings)), ringWith(4900, 4450, 50))
		},
		"InsertRing at 0":      func(p impl.Profile) (impl.Profile, int64) { return impl.InsertRing(p, 0, ringWith(4900, 4450, 50)) },
		"RemoveRing the last":  func(p impl.Profile) (impl.Profile, int64) { return impl.RemoveRing(p, int64(len(p.Rings))-1) },
		"RemoveRing the first": func(p impl.Profile) (impl.Profile, int64) { return impl.RemoveRing(p, 0) },
		"SplitRing the first":  func(p impl.Profile) (impl.Profile, int64) { return impl.SplitRing(p, 300) },
		"SplitRing the last":   func(p impl.Profile) (impl.Profile, int64) { return impl.SplitRing(p, 1000) },
	} {
		roomy := append(slices.Grow(smallProfile().Rings, 10), mark)
		p := impl.Profile{Name: "small", Rings: roomy[:2]}
		want, code := change(p)
		want = copyOf(want)
		overwrite(first(change(p)).Rings, mark)
		if !sameProfiles(p, smallProfile()) || roomy[2] != mark || code != codeOK {
			t.Errorf("%s: the argument is now %v", name, p)
		}
		got, other := first(change(p)), first(change(p))
		overwrite(other.Rings, mark)
		overwrite(p.Rings, mark)
		if !sameProfiles(got, want) {
			t.Errorf("%s: got %v, which has become %v", name, want, got)
		}
	}
	read, _ := impl.ReadProfile(smallText)
	overwrite(read.Rings, mark)
	if again, ok := impl.ReadProfile(smallText); !sameProfiles(again, smallProfile()) || !ok {
		t.Errorf("ReadProfile: got %v", again)
	}
}
