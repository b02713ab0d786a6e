package tests

import (
	"fmt"
	"math"
	"math/big"
	"math/rand"
	"slices"
	"testing"

	"loop.example/g00952/impl"
)

// The constants of chapter 6, written out from the document.
const (
	piMillionths = 3141593
	minDensity   = 1000
	maxDensity   = 20000
	mostMass     = 1000000000
)

var (
	someDensities = []int64{1000, 1001, 2500, 7999, 8000, 8800, 12500, 19999, 20000}
	noDensities   = []int64{math.MinInt64, math.MinInt64 + 1, -8000, -1, 0, 1, 999, 20001, 1<<32 + 8000, math.MaxInt64 - 1, math.MaxInt64}
	noMasses      = []int64{math.MinInt64, math.MinInt64 + 1, -1000000000, -1, 1000000001, 1 << 32, math.MaxInt64 - 1, math.MaxInt64}
)

// productOf returns the product of some numbers, which may be greater than every int64.
func productOf(numbers ...int64) *big.Int {
	product := big.NewInt(1)
	for _, n := range numbers {
		product.Mul(product, big.NewInt(n))
	}
	return product
}

// nearestModel returns the integer nearest to n / d, the one farther from 0 of two, for a positive d.
func nearestModel(n *big.Int, d int64) int64 {
	twice := new(big.Int).Lsh(new(big.Int).Abs(n), 1)
	twice.Add(twice, big.NewInt(d))
	twice.Quo(twice, productOf(2, d))
	return int64(n.Sign()) * twice.Int64()
}

// bodyModel returns the volume of the body of a height whose cut has an area without Pi.
func bodyModel(area, height int64) int64 {
	return nearestModel(productOf(nearestModel(productOf(area, height), 1000000), piMillionths), 1000000)
}

func volumeModel(r impl.Ring) int64 { return bodyModel(r.Outer*r.Outer-r.Inner*r.Inner, r.Height) }

func hollowModel(r impl.Ring) int64 { return bodyModel(r.Inner*r.Inner, r.Height) }

func gramsModel(volume, density int64) int64 {
	return nearestModel(productOf(volume, density), 1000000)
}

// sumModel returns the sum of a number of each ring.
func sumModel(p impl.Profile, number func(impl.Ring) int64) int64 {
	sum := int64(0)
	for _, r := range p.Rings {
		sum += number(r)
	}
	return sum
}

func ringMassesModel(p impl.Profile, density int64) []int64 {
	var masses []int64
	for _, r := range p.Rings {
		masses = append(masses, gramsModel(volumeModel(r), density))
	}
	return masses
}

func centreModel(p impl.Profile) int64 {
	sum, begin := new(big.Int), int64(0)
	for _, r := range p.Rings {
		sum.Add(sum, productOf(volumeModel(r), 2*begin+r.Height))
		begin += r.Height
	}
	return nearestModel(sum, 2*sumModel(p, volumeModel))
}

func momentModel(p impl.Profile, density int64) int64 {
	masses, sum := ringMassesModel(p, density), int64(0)
	for k, r := range p.Rings {
		sum += masses[k] * nearestModel(big.NewInt(r.Outer*r.Outer+r.Inner*r.Inner), 20000)
	}
	return sum
}

// greatestProfiles has the profiles with the greatest products: a solid one of one ring and one of many, and hollow ones.
func greatestProfiles() []impl.Profile {
	return []impl.Profile{
		profileWith(ringWith(150000, 0, 300000)), repeated(ringWith(150000, 0, 9375), 32), profileWith(ringWith(150000, 0, 10), ringWith(150000, 0, 299990)),
		profileWith(ringWith(150000, 149900, 300000)), repeated(ringWith(150000, 149900, 9375), 32), profileWith(ringWith(500, 0, 10), ringWith(150000, 0, 299990)),
	}
}

func weighedProfiles(seed int64) []impl.Profile {
	return slices.Concat(manyProfiles(seed), greatestProfiles())
}

func TestP7Constants(t *testing.T) {
	got := []int64{impl.Pi, impl.MinDensity, impl.MaxDensity}
	if want := []int64{3141593, 1000, 20000}; !slices.Equal(got, want) {
		t.Errorf("constants: got %v, want %v", got, want)
	}
}

// TestP7Example is the example of the chapter.
func TestP7Example(t *testing.T) {
	if got, code := impl.RingVolume(ringWith(10000, 0, 10000)); got != 3141593 || code != codeOK {
		t.Errorf("RingVolume: got %d %d, want 3141593", got, code)
	}
}

func TestP7Rings(t *testing.T) {
	for _, c := range []struct {
		r                    impl.Ring
		area, volume, hollow int64
	}{
		{ringWith(10000, 0, 10000), 31416, 3141593, 0}, {ringWith(5000, 4500, 600), 1492, 8954, 38170}, {ringWith(4800, 4400, 900), 1156, 10405, 54739},
		// the least ones, and one without an inside
		{ringWith(500, 400, 10), 28, 3, 6}, {ringWith(500, 0, 10), 79, 9, 0}, {ringWith(500, 1, 10), 79, 6, 0},
		// the greatest ones
		{ringWith(150000, 0, 300000), 7068584, 21205752750, 0}, {ringWith(150000, 149900, 300000), 9422, 28264912, 21177487838}, {ringWith(150000, 149900, 10), 9422, 942, 705916},
		// areas and volumes exactly between two numbers: 1570796.5, 9.5 and 1570796.5, and 2.5 of the inside
		{ringWith(75000, 25000, 10), 1570797, 157080, 19635}, {ringWith(1000, 900, 50), 60, 31, 129}, {ringWith(10000, 0, 5000), 31416, 1570797, 0}, {ringWith(600, 500, 10), 35, 3, 9},
	} {
		area, areaCode := impl.AreaOf(c.r)
		volume, volumeCode := impl.RingVolume(c.r)
		hollow, hollowCode := impl.HollowOf(profileWith(c.r))
		if area != c.area || volume != c.volume || hollow != c.hollow || areaCode != codeOK || volumeCode != codeOK || hollowCode != codeOK {
			t.Errorf("%v: got the area %d %d, the volume %d %d, and the volume inside %d %d, want %v", c.r, area, areaCode, volume, volumeCode, hollow, hollowCode, c)
		}
	}
	for _, p := range weighedProfiles(61) {
		for _, r := range p.Rings {
			area := nearestModel(productOf(r.Outer*r.Outer-r.Inner*r.Inner, piMillionths), 10000000000)
			if got, code := impl.AreaOf(r); got != area || code != codeOK {
				t.Errorf("AreaOf(%v): got %d %d, want %d", r, got, code, area)
			}
			if got, code := impl.RingVolume(r); got != volumeModel(r) || code != codeOK {
				t.Errorf("RingVolume(%v): got %d %d, want %d", r, got, code, volumeModel(r))
			}
		}
	}
}

// TestP7RingsOfAllSizes tries rings whose radii and heights are anywhere in their ranges.
func TestP7RingsOfAllSizes(t *testing.T) {
	random := rand.New(rand.NewSource(62))
	for range 20000 {
		r := ringWith(minRadius+random.Int63n(maxRadius-minRadius+1), 0, minHeight+random.Int63n(maxLength-minHeight+1))
		r.Inner = random.Int63n(r.Outer - minWall + 1)
		if got, code := impl.RingVolume(r); got != volumeModel(r) || got <= 0 || code != codeOK {
			t.Errorf("RingVolume(%v): got %d %d, want %d", r, got, code, volumeModel(r))
		}
		if got, code := impl.HollowOf(profileWith(r)); got != hollowModel(r) || code != codeOK {
			t.Errorf("HollowOf(%v): got %d %d, want %d", r, got, code, hollowModel(r))
		}
		if got, code := impl.CentreOf(profileWith(r)); got != (r.Height+1)/2 || code != codeOK {
			t.Errorf("CentreOf(%v): got %d %d, want %d", r, got, code, (r.Height+1)/2)
		}
	}
}

func TestP7InvalidRings(t *testing.T) {
	for _, r := range badRings() {
		if got, code := impl.AreaOf(r); got != 0 || code != codeInvalid {
			t.Errorf("AreaOf(%v): got %d %d", r, got, code)
		}
		if got, code := impl.RingVolume(r); got != 0 || code != codeInvalid {
			t.Errorf("RingVolume(%v): got %d %d", r, got, code)
		}
	}
}

func TestP7Volumes(t *testing.T) {
	for text, want := range map[string][2]int64{
		smallText: {8954 + 10405, 38170 + 54739}, "a 10000/0/10000 10000/5000/10000": {5497788, 785398}, "a 500/400/10": {3, 6}, "a 500/0/10": {9, 0},
		"a 500/400/10 500/400/10 500/400/10": {9, 18}, "a 1000/900/50 1000/900/50": {62, 258}, "a 150000/0/150000 150000/0/150000": {21205752750, 0},
	} {
		p, ok := impl.ReadProfile(text)
		volume, code := impl.VolumeOf(p)
		hollow, hollowCode := impl.HollowOf(p)
		if !ok || volume != want[0] || hollow != want[1] || code != codeOK || hollowCode != codeOK {
			t.Errorf("%q: got the volume %d %d and that inside %d %d, want %v", text, volume, code, hollow, hollowCode, want)
		}
	}
	for _, p := range weighedProfiles(63) {
		if got, code := impl.VolumeOf(p); got != sumModel(p, volumeModel) || code != codeOK {
			t.Errorf("VolumeOf(%v): got %d %d, want %d", p, got, code, sumModel(p, volumeModel))
		}
		if got, code := impl.HollowOf(p); got != sumModel(p, hollowModel) || code != codeOK {
			t.Errorf("HollowOf(%v): got %d %d, want %d", p, got, code, sumModel(p, hollowModel))
		}
	}
}

func TestP7MassOf(t *testing.T) {
	for _, c := range []struct {
		p             impl.Profile
		density, mass int64
	}{
		{smallProfile(), 8000, 155}, {smallProfile(), 1000, 19}, {smallProfile(), 20000, 387}, {profileWith(ringWith(500, 400, 10)), 1000, 0}, {profileWith(ringWith(500, 400, 10)), 20000, 0},
		{profileWith(ringWith(10000, 0, 10000)), 1000, 3142}, {profileWith(ringWith(10000, 0, 10000), ringWith(10000, 5000, 10000)), 8000, 43982},
		{profileWith(ringWith(150000, 0, 300000)), 1000, 21205753}, {profileWith(ringWith(150000, 0, 300000)), 20000, 424115055}, {repeated(ringWith(150000, 0, 9375), 32), 20000, 424115055},
		// masses exactly between two numbers: 5.5, 7.5, 52.5, 24.5 and 72.5
		{profileWith(ringWith(959, 0, 190)), 10000, 6}, {profileWith(ringWith(941, 0, 216)), 12500, 8}, {profileWith(ringWith(2703, 0, 183)), 12500, 53},
		{profileWith(ringWith(2150, 0, 135)), 12500, 25}, {profileWith(ringWith(2103, 0, 261)), 20000, 73},
	} {
		if got, code := impl.MassOf(c.p, c.density); got != c.mass || code != codeOK {
			t.Errorf("MassOf(%v, %d): got %d %d, want %d", c.p, c.density, got, code, c.mass)
		}
		if len(c.p.Rings) > 1 {
			continue
		}
		if got, code := impl.RingMasses(c.p, c.density); !slices.Equal(got, []int64{c.mass}) || code != codeOK {
			t.Errorf("RingMasses(%v, %d): got %v %d, want %d", c.p, c.density, got, code, c.mass)
		}
	}
}

// TestP7MassesAddUp: each mass is the nearest number, so that the sum of those of the rings is off by half a gram for each at most.
func TestP7MassesAddUp(t *testing.T) {
	for _, p := range weighedProfiles(64) {
		for _, density := range someDensities {
			masses, code := impl.RingMasses(p, density)
			if want := ringMassesModel(p, density); !slices.Equal(masses, want) || code != codeOK {
				t.Errorf("RingMasses(%v, %d): got %v %d, want %v", p, density, masses, code, want)
				continue
			}
			mass, code := impl.MassOf(p, density)
			if want := gramsModel(sumModel(p, volumeModel), density); mass != want || code != codeOK {
				t.Errorf("MassOf(%v, %d): got %d %d, want %d", p, density, mass, code, want)
			}
			sum := int64(0)
			for _, m := range masses {
				sum += m
			}
			if off := 2 * max(mass-sum, sum-mass); off > int64(len(masses))+1 {
				t.Errorf("%v, %d: the mass is %d, and those of the rings are %v", p, density, mass, masses)
			}
			if whole, code := impl.MassAbove(p, density, 0); whole != sum || code != codeOK {
				t.Errorf("MassAbove(%v, %d, 0): got %d %d, want %d", p, density, whole, code, sum)
			}
		}
	}
}

// TestP7DividingAddsUp: the parts of a divided ring have its volume and mass together, but for rounding.
func TestP7DividingAddsUp(t *testing.T) {
	for _, p := range weighedProfiles(65) {
		middle := p.Rings[0].Height / 2
		parts, code := impl.SplitRing(p, middle)
		if code != codeOK {
			continue
		}
		whole, halves := first(impl.VolumeOf(p)), first(impl.VolumeOf(parts))
		// the inner quotient may be off by one, which Pi makes four
		if off := max(whole-halves, halves-whole); off > 8 {
			t.Errorf("%v, divided at %d: the volume is %d and was %d", p, middle, halves, whole)
		}
		mass, again := first(impl.MassOf(p, 8000)), first(impl.MassOf(parts, 8000))
		if max(mass-again, again-mass) > 1 {
			t.Errorf("%v, divided at %d: the mass is %d and was %d", p, middle, again, mass)
		}
	}
}

func TestP7CentreOf(t *testing.T) {
	for text, want := range map[string]int64{
		"a 500/0/10": 5, "a 500/400/11": 6, "a 500/400/299999": 150000, "a 500/0/300000": 150000, "a 150000/0/300000": 150000, "a 150000/149900/299999": 150000,
		"a 10000/0/10000 10000/5000/10000": 9286, "a 500/0/10 500/0/10": 10, "a 500/0/11 500/0/11": 11, "a 150000/0/150000 150000/0/150000": 150000, smallText: 703,
		// nearly all of the metal is in one of two rings
		"a 150000/0/299990 500/0/10": 149995, "a 500/0/10 150000/0/299990": 150005, "a 150000/0/10 500/0/299990": 37504,
		// both rings have a volume of 9, and the centre is at 10.25 and exactly between 10 and 11
		"a 500/0/10 500/0/11": 10, "a 500/0/10 500/0/12": 11,
	} {
		p, ok := impl.ReadProfile(text)
		if got, code := impl.CentreOf(p); got != want || code != codeOK || !ok {
			t.Errorf("CentreOf(%q): got %d %d, want %d", text, got, code, want)
		}
	}
}

// TestP7CentreLiesBetweenLipAndTop tries profiles and the same ones upside down, whose centre is as far from the top.
func TestP7CentreLiesBetweenLipAndTop(t *testing.T) {
	for _, p := range weighedProfiles(66) {
		ends := boundaries(p)
		top := ends[len(ends)-1]
		centre, code := impl.CentreOf(p)
		if centre != centreModel(p) || code != codeOK {
			t.Errorf("CentreOf(%v): got %d %d, want %d", p, centre, code, centreModel(p))
		}
		if centre <= 0 || centre >= top {
			t.Errorf("CentreOf(%v): %d is not between 0 and %d", p, centre, top)
		}
		turned := copyOf(p)
		slices.Reverse(turned.Rings)
		other, code := impl.CentreOf(turned)
		if sum := centre + other; sum < top || sum > top+1 || code != codeOK {
			t.Errorf("CentreOf(%v): got %d %d, and %d for it upside down", p, centre, code, other)
		}
	}
}

func TestP7MomentOf(t *testing.T) {
	for _, c := range []struct {
		p               impl.Profile
		density, moment int64
	}{
		{profileWith(ringWith(10000, 0, 10000), ringWith(10000, 5000, 10000)), 8000, 25133*5000 + 18850*6250},
		{profileWith(ringWith(150000, 0, 300000)), 20000, 424115055 * 1125000}, {profileWith(ringWith(150000, 149900, 300000)), 20000, 565298 * 2248501}, {profileWith(ringWith(150000, 0, 300000)), 1000, 21205753 * 1125000},
		{profileWith(ringWith(500, 400, 10)), 20000, 0}, {profileWith(ringWith(500, 0, 10)), 1000, 0},
		// 12.5 square millimetres are 13, and the masses are 236 and 4712
		{profileWith(ringWith(500, 0, 300000)), 1000, 236 * 13}, {profileWith(ringWith(500, 0, 300000)), 20000, 4712 * 13},
	} {
		if got, code := impl.MomentOf(c.p, c.density); got != c.moment || code != codeOK {
			t.Errorf("MomentOf(%v, %d): got %d %d, want %d", c.p, c.density, got, code, c.moment)
		}
	}
	for _, p := range weighedProfiles(67) {
		for _, density := range someDensities {
			if got, code := impl.MomentOf(p, density); got != momentModel(p, density) || code != codeOK {
				t.Errorf("MomentOf(%v, %d): got %d %d, want %d", p, density, got, code, momentModel(p, density))
			}
		}
	}
}

func TestP7MassAbove(t *testing.T) {
	p := profileWith(ringWith(10000, 0, 10000), ringWith(10000, 5000, 10000))
	for _, c := range []struct{ height, mass, code int64 }{
		{-1, 0, codeRange}, {0, 43983, codeOK}, {1, 18850, codeOK}, {9999, 18850, codeOK}, {10000, 18850, codeOK}, {10001, 0, codeOK}, {19999, 0, codeOK}, {20000, 0, codeOK}, {20001, 0, codeRange},
		{math.MinInt64, 0, codeRange}, {math.MaxInt64, 0, codeRange}, {1 << 32, 0, codeRange},
	} {
		if got, code := impl.MassAbove(p, 8000, c.height); got != c.mass || code != c.code {
			t.Errorf("MassAbove(%d): got %d %d, want %d %d", c.height, got, code, c.mass, c.code)
		}
	}
	for _, p := range weighedProfiles(68) {
		ends := boundaries(p)
		top := ends[len(ends)-1]
		for _, density := range []int64{1000, 8800, 20000} {
			masses := ringMassesModel(p, density)
			for _, end := range append(ends, math.MinInt64+1, math.MaxInt64-1) {
				for _, height := range []int64{end - 1, end, end + 1} {
					want, wantCode := int64(0), int64(codeOK)
					for k, m := range masses {
						if ends[k] >= height {
							want += m
						}
					}
					if height < 0 || height > top {
						want, wantCode = 0, codeRange
					}
					if got, code := impl.MassAbove(p, density, height); got != want || code != wantCode {
						t.Errorf("MassAbove(%v, %d, %d): got %d %d, want %d %d", p, density, height, got, code, want, wantCode)
					}
				}
			}
		}
	}
}

func TestP7DensityFor(t *testing.T) {
	p := profileWith(ringWith(10000, 0, 10000))
	great := profileWith(ringWith(150000, 0, 300000))
	for _, c := range []struct {
		p                   impl.Profile
		mass, density, code int64
	}{
		{p, 0, 1000, codeOK}, {p, 1, 1000, codeOK}, {p, 3141, 1000, codeOK}, {p, 3142, 1000, codeOK}, {p, 3143, 1001, codeOK}, {p, 3146, 1002, codeOK}, {p, 25133, 8000, codeOK}, {p, 25134, 8001, codeOK},
		{p, 62832, 20000, codeOK}, {p, 62833, 0, codeMissing}, {p, 1000000000, 0, codeMissing}, {p, 1000000001, 0, codeRange}, {p, -1, 0, codeRange},
		{great, 21205753, 1000, codeOK}, {great, 21205754, 1001, codeOK}, {great, 424115055, 20000, codeOK}, {great, 424115056, 0, codeMissing}, {great, 1000000000, 0, codeMissing},
		// a bell of 3 cubic millimetres has no mass, and one of 9 has none either
		{profileWith(ringWith(500, 400, 10)), 0, 1000, codeOK}, {profileWith(ringWith(500, 400, 10)), 1, 0, codeMissing}, {profileWith(ringWith(500, 0, 10)), 1, 0, codeMissing},
		// 28 and 31 cubic millimetres weigh half a gram from 17858 and 16130 on
		{profileWith(ringWith(500, 400, 100)), 1, 17858, codeOK}, {profileWith(ringWith(1000, 900, 50)), 1, 16130, codeOK},
	} {
		if got, code := impl.DensityFor(c.p, c.mass); got != c.density || code != c.code {
			t.Errorf("DensityFor(%v, %d): got %d %d, want %d %d", c.p, c.mass, got, code, c.density, c.code)
		}
	}
	for _, mass := range noMasses {
		if got, code := impl.DensityFor(p, mass); got != 0 || code != codeRange {
			t.Errorf("DensityFor(%d): got %d %d, want an error", mass, got, code)
		}
	}
}

// TestP7TheLeastDensity: with it the mass is enough, and with one less it is not.
func TestP7TheLeastDensity(t *testing.T) {
	random := rand.New(rand.NewSource(69))
	for _, p := range weighedProfiles(70) {
		volume := sumModel(p, volumeModel)
		least, most := gramsModel(volume, minDensity), gramsModel(volume, maxDensity)
		masses := []int64{0, 1, least - 1, least, least + 1, most - 1, most, most + 1, (least + most) / 2, mostMass}
		for range 5 {
			masses = append(masses, gramsModel(volume, minDensity+random.Int63n(maxDensity-minDensity+1)))
		}
		for _, mass := range masses {
			if mass < 0 {
				continue
			}
			density, code := impl.DensityFor(p, mass)
			if mass > most {
				if density != 0 || code != codeMissing {
					t.Errorf("DensityFor(%v, %d): got %d %d, want none", p, mass, density, code)
				}
				continue
			}
			enough := code == codeOK && density >= minDensity && density <= maxDensity && gramsModel(volume, density) >= mass
			if !enough || density > minDensity && gramsModel(volume, density-1) >= mass {
				t.Errorf("DensityFor(%v, %d): got %d %d", p, mass, density, code)
			}
		}
	}
}

// weighingCodes returns the codes of all functions with a density; results beside an error must be zero.
func weighingCodes(t *testing.T, p impl.Profile, density, height int64) []int64 {
	t.Helper()
	mass, massCode := impl.MassOf(p, density)
	masses, massesCode := impl.RingMasses(p, density)
	moment, momentCode := impl.MomentOf(p, density)
	above, aboveCode := impl.MassAbove(p, density, height)
	if massCode != codeOK && mass != 0 || massesCode != codeOK && len(masses) != 0 || momentCode != codeOK && moment != 0 || aboveCode != codeOK && above != 0 {
		t.Errorf("%v, %d, %d: the results %d, %v, %d and %d come with an error", p, density, height, mass, masses, moment, above)
	}
	return []int64{massCode, massesCode, momentCode, aboveCode}
}

func TestP7Densities(t *testing.T) {
	all := []impl.Profile{smallProfile(), profileWith(ringWith(500, 400, 10)), profileWith(ringWith(150000, 0, 300000))}
	for _, p := range all {
		for _, density := range someDensities {
			if codes := weighingCodes(t, p, density, 0); !slices.Equal(codes, []int64{codeOK, codeOK, codeOK, codeOK}) {
				t.Errorf("%v, %d: got the codes %v", p, density, codes)
			}
		}
		for _, density := range noDensities {
			for _, height := range []int64{-1, 0, 10, math.MaxInt64} {
				if codes := weighingCodes(t, p, density, height); !slices.Equal(codes, []int64{codeRange, codeRange, codeRange, codeRange}) {
					t.Errorf("%v, %d, %d: got the codes %v", p, density, height, codes)
				}
			}
		}
	}
}

// TestP7InvalidProfiles: ErrInvalid comes before all other errors.
func TestP7InvalidProfiles(t *testing.T) {
	for _, p := range badProfiles() {
		for _, density := range []int64{8000, 999, 20001, math.MinInt64} {
			for _, height := range []int64{-1, 0, math.MaxInt64} {
				if codes := weighingCodes(t, p, density, height); !slices.Equal(codes, []int64{codeInvalid, codeInvalid, codeInvalid, codeInvalid}) {
					t.Errorf("%v, %d, %d: got the codes %v", p, density, height, codes)
				}
			}
		}
		for _, mass := range []int64{-1, 0, 1000, 1000000001} {
			if got, code := impl.DensityFor(p, mass); got != 0 || code != codeInvalid {
				t.Errorf("DensityFor(%v, %d): got %d %d", p, mass, got, code)
			}
		}
		for name, function := range map[string]func(impl.Profile) (int64, int64){"VolumeOf": impl.VolumeOf, "HollowOf": impl.HollowOf, "CentreOf": impl.CentreOf} {
			if got, code := function(p); got != 0 || code != codeInvalid {
				t.Errorf("%s(%v): got %d %d", name, p, got, code)
			}
		}
	}
}

// massesResults has the results of all functions of the chapter for valid and invalid arguments, as texts.
func massesResults() []string {
	var all []string
	add := func(results ...any) { all = append(all, fmt.Sprint(results...)) }
	for _, r := range slices.Concat(goodRings(), badRings()) {
		add(impl.AreaOf(r))
		add(impl.RingVolume(r))
	}
	for _, p := range slices.Concat(goodProfiles(), badProfiles(), greatestProfiles()) {
		add(impl.VolumeOf(p))
		add(impl.HollowOf(p))
		add(impl.CentreOf(p))
		for i, n := range slices.Concat(edgeNumbers, noDensities, someDensities) {
			add(impl.MassOf(p, n))
			add(impl.RingMasses(p, n))
			add(impl.MomentOf(p, n))
			add(impl.MassAbove(p, n, edgeNumbers[i%len(edgeNumbers)]))
			add(impl.MassAbove(p, 8000, n))
			add(impl.DensityFor(p, n))
		}
	}
	return all
}

// TestP1MassesReturn: every function of chapter 6 returns for all arguments, and the same again.
func TestP1MassesReturn(t *testing.T) {
	first := massesResults()
	if again := massesResults(); !slices.Equal(first, again) {
		t.Error("other results for equal arguments")
	}
}

// TestP1MassesKeepTheirArguments: neither the rings nor the capacity behind them are modified.
func TestP1MassesKeepTheirArguments(t *testing.T) {
	whole := make([]impl.Ring, 40)
	for i := range whole {
		whole[i] = ringWith(5000+int64(i), 4500-int64(i), 40+int64(i))
	}
	before := slices.Clone(whole)
	for size := range len(whole) {
		p := impl.Profile{Name: "a", Rings: whole[:size]}
		for _, n := range []int64{-1, 0, 40, 8000, 20001} {
			impl.VolumeOf(p)
			impl.HollowOf(p)
			impl.CentreOf(p)
			impl.MassOf(p, n)
			impl.RingMasses(p, n)
			impl.MomentOf(p, n)
			impl.MassAbove(p, 8000, n)
			impl.DensityFor(p, n)
			if !slices.Equal(whole, before) {
				t.Fatalf("a profile of %d rings, and %d: the rings are now %v", size, n, whole)
			}
		}
	}
}

// TestP1MassResultsAreNew: masses that are overwritten change no later ones.
func TestP1MassResultsAreNew(t *testing.T) {
	p := smallProfile()
	want := ringMassesModel(p, 8000)
	overwrite(first(impl.RingMasses(p, 8000)), -1)
	got, code := impl.RingMasses(p, 8000)
	overwrite(first(impl.RingMasses(p, 8000)), -1)
	if !slices.Equal(got, want) || code != codeOK || !sameProfiles(p, smallProfile()) {
		t.Errorf("RingMasses: got %v %d, want %v", got, code, want)
	}
}
