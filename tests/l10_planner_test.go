package tests

import (
	"fmt"
	"math"
	"math/rand"
	"slices"
	"strings"
	"testing"

	"loop.example/g00952/impl"
)

// The limits of chapter 10, and that of chapter 1 for budgets, written out from the document.
const (
	mostTolerance = 20000
	maxBudget     = 20000
)

// noBudgets has the numbers nearest to the budgets, and the farthest ones.
var noBudgets = []int64{math.MinInt64, -20000, -1, 0, 20001, 20002, 1 << 32, 1<<32 + 1, math.MaxInt64}

func goalWith(target impl.Sound, tolerance, most int64) impl.Goal {
	return impl.Goal{Target: target, Tolerance: tolerance, Most: most}
}

// goodGoals has valid goals, with each number at its limits.
func goodGoals() []impl.Goal {
	good := []impl.Goal{goalWith(minorSound, 1, 4), goalWith(minorSound, 0, 0), goalWith(minorSound, 20000, 20), goalWith(minorSound, 20000, 0), goalWith(minorSound, 0, 20)}
	for _, s := range goodSounds() {
		good = append(good, goalWith(s, 50, 3))
	}
	return good
}

// badGoals has goals that are not valid, each for one reason or for several.
func badGoals() []impl.Goal {
	bad := []impl.Goal{{}, goalWith(impl.Sound{}, 1, 1), goalWith(minorSound, -1, -1), goalWith(minorSound, 20001, 21), goalWith(minorSound, 1, 21), goalWith(minorSound, 1, 22)}
	for _, n := range []int64{math.MinInt64, math.MinInt64 + 1, -20000, -1, 20001, 1<<32 + 1, math.MaxInt64 - 1, math.MaxInt64} {
		bad = append(bad, goalWith(minorSound, n, 1), goalWith(minorSound, 1, n))
	}
	for _, s := range badSounds() {
		bad = append(bad, goalWith(s, 1, 1))
	}
	return bad
}

func isGoal(g impl.Goal) bool {
	return isSound(g.Target) && g.Tolerance >= 0 && g.Tolerance <= mostTolerance && g.Most >= 0 && g.Most <= maxSteps
}

// bellToTune has the arguments of a search but its budget.
type bellToTune struct {
	m impl.Model
	p impl.Profile
	g impl.Goal
}

// evenBell returns the bell of a model with rings of which each is a zone with a wall of 1000, and the divisor is 100:
// where one zone alone has the weight 1, a partial is ten times its base, and a step takes a hundredth of this away.
func evenBell(model string, g impl.Goal) bellToTune {
	m := readModel(model)
	return bellToTune{m, repeated(ringWith(5000, 4000, 600), len(m.Zones)), g}
}

// after returns the bell with its sound after some steps as its target.
func (b bellToTune) after(steps ...int64) bellToTune {
	b.g.Target = soundOf(b.partials(steps))
	return b
}

// turned returns the bell on which some steps are already made.
func (b bellToTune) turned(steps ...int64) bellToTune {
	for zone, n := range steps {
		b.p = cutModel(b.p, b.m.Zones, zone, n)
	}
	return b
}

// withTarget returns the bell with another sound as its target.
func (b bellToTune) withTarget(target impl.Sound) bellToTune {
	b.g.Target = target
	return b
}

// with returns the bell with other limits of its goal.
func (b bellToTune) with(tolerance, most int64) bellToTune {
	b.g.Tolerance, b.g.Most = tolerance, most
	return b
}

// partials returns the partials after steps of the first zones, which need not be those of a sound.
func (b bellToTune) partials(steps []int64) []int64 {
	b = b.turned(steps...)
	return partialsModel(b.m, b.p)
}

// greatest returns the greatest number of steps of each zone.
func (b bellToTune) greatest() []int64 {
	var most []int64
	for zone := range b.m.Zones {
		most = append(most, min(b.g.Most, roomModel(b.p, b.m.Zones, zone)))
	}
	return most
}

// side returns -1 if a partial from 0 to 4 is too low, 1 if it is too high, and otherwise 0.
func (b bellToTune) side(k int, f int64) int64 {
	if !isFrequency(f) {
		return map[bool]int64{true: -1, false: 1}[f < minHertz]
	}
	off := first(impl.CentsBetween(listOf(b.g.Target)[k], f))
	if max(off, -off) <= b.g.Tolerance {
		return 0
	}
	return off / max(off, -off)
}

// isLow reports whether steps of the first zones make a partial too low.
func (b bellToTune) isLow(steps []int64) bool {
	for k, f := range b.partials(steps) {
		if b.side(k, f) < 0 {
			return true
		}
	}
	return false
}

// deviations returns the deviations after steps; false if there is no sound.
func (b bellToTune) deviations(steps []int64) ([]int64, bool) {
	list := b.partials(steps)
	if !isSound(soundOf(list)) {
		return nil, false
	}
	for k, f := range list {
		list[k] = first(impl.CentsBetween(listOf(b.g.Target)[k], f))
	}
	return list, true
}

// worst returns the greatest absolute value of a deviation after steps; a great number if there is no sound.
func (b bellToTune) worst(steps []int64) int64 {
	list, ok := b.deviations(steps)
	if !ok {
		return math.MaxInt64
	}
	return worstModel(list)
}

func (b bellToTune) isPlan(steps []int64) bool { return b.worst(steps) <= b.g.Tolerance }

// blocked returns the first partial that shows that there is no plan, and why.
func (b bellToTune) blocked() (int64, int64) {
	before, after := b.partials(nil), b.partials(b.greatest())
	for k := range before {
		if b.side(k, before[k]) == -1 {
			return int64(k) + 1, -1
		}
		if b.side(k, after[k]) == 1 {
			return int64(k) + 1, 1
		}
	}
	return 0, 0
}

// greedy returns the steps of a plan that is made of best single steps.
func (b bellToTune) greedy() ([]int64, bool) {
	steps, most := make([]int64, len(b.m.Zones)), b.greatest()
	for !b.isPlan(steps) {
		best := slices.Clone(steps)
		for zone := range steps {
			next := slices.Clone(steps)
			next[zone]++
			if next[zone] <= most[zone] && b.worst(next) < b.worst(best) {
				best = next
			}
		}
		if b.worst(steps) == math.MaxInt64 || slices.Equal(best, steps) {
			return nil, false
		}
		steps = best
	}
	return steps, true
}

// prefixes returns all steps of the first zones, of one zone up to all of them, in the order in which a search comes to them.
func (b bellToTune) prefixes() [][]int64 {
	all, longest := [][]int64{}, [][]int64{nil}
	for _, most := range b.greatest() {
		var longer [][]int64
		for _, steps := range longest {
			for n := range most + 1 {
				longer = append(longer, append(slices.Clone(steps), n))
			}
		}
		all, longest = append(all, longer...), longer
	}
	slices.SortFunc(all, slices.Compare)
	return all
}

// size returns the number of prefixes.
func (b bellToTune) size() int64 {
	sum, longest := int64(0), int64(1)
	for _, most := range b.greatest() {
		longest *= most + 1
		sum += longest
	}
	return sum
}

// nodesModel returns those of all steps of the first zones that a search visits: what they begin with, and what one step
// less of the last zone is, have been visited before, and have made no partial too low. Only some steps are tried.
func nodesModel(all [][]int64, tried, isLow func(steps []int64) bool) [][]int64 {
	var nodes [][]int64
	goesOn := map[string]bool{}
	for _, steps := range all {
		last := len(steps) - 1
		before := slices.Clone(steps)
		before[last]--
		if !tried(steps) || last > 0 && !goesOn[fmt.Sprint(steps[:last])] || before[last] >= 0 && tried(before) && !goesOn[fmt.Sprint(before)] {
			continue
		}
		nodes = append(nodes, steps)
		goesOn[fmt.Sprint(steps)] = !isLow(steps)
	}
	return nodes
}

// outcome is what a search must return, and how many nodes it visits.
type outcome struct {
	cuts  []impl.Cut
	value int64
	code  int64
	nodes int
}

// The searches, by their places in lists of four.
const (
	firstPlan = iota
	shortestPlan
	countPlans
	closestPlan
)

var searchNames = []string{"FirstPlan", "ShortestPlan", "CountPlans", "ClosestPlan"}

// search makes one of the searches; the value is the number of plans, or that of ClosestPlan.
func (b bellToTune) search(which int, budget int64) ([]impl.Cut, int64, int64) {
	switch which {
	case firstPlan:
		cuts, code := impl.FirstPlan(b.m, b.p, b.g, budget)
		return cuts, 0, code
	case shortestPlan:
		cuts, code := impl.ShortestPlan(b.m, b.p, b.g, budget)
		return cuts, 0, code
	case countPlans:
		count, code := impl.CountPlans(b.m, b.p, b.g, budget)
		return nil, count, code
	}
	return impl.ClosestPlan(b.m, b.p, b.g, budget)
}

// cutsAfter returns the cuts for which steps stand.
func cutsAfter(steps []int64) []impl.Cut {
	var cuts []impl.Cut
	for zone, n := range steps {
		if n > 0 {
			cuts = append(cuts, impl.Cut{Zone: int64(zone), Steps: n})
		}
	}
	return cuts
}

func sumOf(steps []int64) int64 {
	sum := int64(0)
	for _, n := range steps {
		sum += n
	}
	return sum
}

// outcomes returns what the four searches must return: the results from all steps there are, and the nodes from nodesModel.
func (b bellToTune) outcomes() []outcome {
	zones := len(b.m.Zones)
	all := b.prefixes()
	var plans [][]int64
	closest, least := []int64(nil), int64(math.MaxInt64)
	low := map[string]bool{}
	for _, steps := range all {
		low[fmt.Sprint(steps)] = b.isLow(steps)
		if len(steps) < zones {
			continue
		}
		worst := b.worst(steps)
		if worst <= b.g.Tolerance {
			plans = append(plans, steps)
		}
		if worst < least {
			closest, least = steps, worst
		}
	}
	isLow := func(steps []int64) bool { return low[fmt.Sprint(steps)] }
	nodes := nodesModel(all, func([]int64) bool { return true }, isLow)
	found := []outcome{{code: codeMissing, nodes: len(nodes)}, {code: codeMissing}, {value: int64(len(plans)), nodes: len(nodes)}, {code: codeMissing, nodes: len(all)}}
	if closest != nil {
		found[closestPlan] = outcome{cutsAfter(closest), least, codeOK, len(all)}
	}
	var shortest []int64
	if len(plans) > 0 {
		shortest = plans[0]
		for _, steps := range plans {
			if sumOf(steps) < sumOf(shortest) {
				shortest = steps
			}
		}
		found[firstPlan] = outcome{cutsAfter(plans[0]), 0, codeOK, 1 + slices.IndexFunc(nodes, func(steps []int64) bool { return slices.Equal(steps, plans[0]) })}
		found[shortestPlan] = outcome{cutsAfter(shortest), 0, codeOK, 0}
	}
	for sum := range sumOf(b.greatest()) + 1 {
		tried := func(steps []int64) bool {
			return sumOf(steps) == sum || sumOf(steps) < sum && len(steps) < zones
		}
		nodes := nodesModel(all, tried, isLow)
		end := slices.IndexFunc(nodes, func(steps []int64) bool { return slices.Equal(steps, shortest) })
		if shortest != nil && end >= 0 {
			found[shortestPlan].nodes += end + 1
			break
		}
		found[shortestPlan].nodes += len(nodes)
	}
	return found
}

// check holds a search against what it must return, with budgets around the number of its nodes.
func (b bellToTune) check(t *testing.T, which int, want outcome) {
	t.Helper()
	for _, budget := range []int64{1, int64(want.nodes) - 1, int64(want.nodes), int64(want.nodes) + 1, maxBudget - 1, maxBudget, 0, maxBudget + 1} {
		wanted := want
		if budget < 1 || budget > maxBudget {
			wanted = outcome{code: codeRange}
		} else if budget < int64(want.nodes) {
			wanted = outcome{code: codeFull}
		}
		cuts, value, code := b.search(which, budget)
		if !slices.Equal(cuts, wanted.cuts) || value != wanted.value || code != wanted.code {
			t.Errorf("%s(%s, %s, %v, %d): got %v %d %d, want %v %d %d", searchNames[which], impl.ModelText(b.m), impl.ProfileText(b.p), b.g, budget, cuts, value, code, wanted.cuts, wanted.value, wanted.code)
		}
	}
}

// Models of evenBell: each zone has partials of its own; a step of the first zone lowers all of them twice as much as one of the second; each lowers them as much as the other one.
const (
	splitText  = "0,1/1,0/0,1/0,1/0,1/0,1/22000,44000,52300,66000,88000"
	doubleText = "0,1/2,1/2,1/2,1/2,1/2,1/7000,14000,17000,21000,28000"
	equalText  = "0,1/1,1/1,1/1,1/1,1/1,1/11000,22000,26000,33000,44000"
	// the hum is higher than the prime before a cut in the first zone
	swappedText = "0,1/1,0/0,1/0,1/0,1/0,1/10100,10000,20000,30000,40000"
	oneText     = "0/1/1/1/1/1/22000,44000,52300,66000,88000"
)

// checkAll holds all searches against what they must return, and the model of this file against this too.
func (b bellToTune) checkAll(t *testing.T, want []outcome) {
	t.Helper()
	for which, o := range b.outcomes() {
		if !slices.Equal(o.cuts, want[which].cuts) || o.value != want[which].value || o.code != want[which].code || o.nodes != want[which].nodes {
			t.Errorf("%s(%s, %s, %v): the model of the tests has %v, and %v is expected", searchNames[which], impl.ModelText(b.m), impl.ProfileText(b.p), b.g, o, want[which])
		}
		b.check(t, which, want[which])
	}
}

// TestP11Example is the example of the chapter: a sound that is the target already needs no cuts.
func TestP11Example(t *testing.T) {
	for _, text := range []string{splitText, doubleText, equalText, oneText} {
		for _, tolerance := range []int64{0, 1, 100, 20000} {
			for _, most := range []int64{0, 1, 5, 20} {
				b := evenBell(text, goalWith(impl.Sound{}, tolerance, most)).after()
				for which := range searchNames {
					cuts, value, code := b.search(which, maxBudget)
					if which != countPlans && (len(cuts) > 0 || value != 0 || code != codeOK) || which == countPlans && (value < 1 || code != codeOK) {
						t.Errorf("%s of %q to its own sound: got %v %d %d", searchNames[which], text, cuts, value, code)
					}
				}
				greedy, code := impl.GreedyPlan(b.m, b.p, b.g)
				checkCuts(t, fmt.Sprintf("GreedyPlan of %q to its own sound", text), greedy, code, nil, codeOK)
				if !impl.IsPlan(b.m, b.p, b.g, nil) {
					t.Errorf("IsPlan of %q, no cuts and its own sound: got false", text)
				}
				deviations, code := impl.DeviationsAfter(b.m, b.p, b.g, nil)
				checkList(t, fmt.Sprintf("DeviationsAfter of %q to its own sound", text), deviations, code, make([]int64, 5), codeOK)
			}
		}
	}
}

func TestP11ValidGoal(t *testing.T) {
	for _, g := range goodGoals() {
		if !impl.ValidGoal(g) || !isGoal(g) {
			t.Errorf("ValidGoal(%v): got false", g)
		}
	}
	for _, g := range badGoals() {
		if impl.ValidGoal(g) || isGoal(g) {
			t.Errorf("ValidGoal(%v): got true", g)
		}
	}
	for n := int64(-2); n <= 20002; n++ {
		if got, want := impl.ValidGoal(goalWith(minorSound, n, 5)), n >= 0 && n <= 20000; got != want {
			t.Errorf("ValidGoal with the tolerance %d: got %v", n, got)
		}
		if got, want := impl.ValidGoal(goalWith(minorSound, 5, n)), n >= 0 && n <= 20; got != want {
			t.Errorf("ValidGoal with at most %d steps: got %v", n, got)
		}
	}
}

// TestP11DeviationsAfter has cases that are written out: a step of a bell of one zone takes a hundredth of each partial.
func TestP11DeviationsAfter(t *testing.T) {
	same := evenBell(oneText, goalWith(soundWith(220000, 440000, 523000, 660000, 880000), 0, 0))
	split := evenBell(splitText, goalWith(soundWith(220000, 440000, 523000, 660000, 880000), 0, 0))
	ends := evenBell("0/1/1/1/1/1/1000,44000,52300,66000,2000000", goalWith(soundWith(10000, 10001, 10002, 10003, 20000000), 0, 0))
	low, high := same, same
	low.g.Target, high.g.Target = soundWith(10000, 10001, 10002, 10003, 10004), soundWith(19999996, 19999997, 19999998, 19999999, 20000000)
	crossing := evenBell("0,1/1,0/0,1/0,1/0,1/0,1/10000,10100,20000,30000,40000", goalWith(minorSound, 0, 0))
	for _, c := range []struct {
		b    bellToTune
		cuts []impl.Cut
		want []int64
		code int64
	}{
		{same, nil, []int64{0, 0, 0, 0, 0}, codeOK}, {same, cutsOf(0, 1), []int64{-174, -174, -174, -174, -174}, codeOK}, {same, cutsOf(0, 20), []int64{-3863, -3863, -3863, -3863, -3863}, codeOK},
		// the number of steps of the goal is no limit here, and entries of one zone add up
		{same, cutsOf(0, 9, 0, 11), []int64{-3863, -3863, -3863, -3863, -3863}, codeOK}, {same, slices.Repeat(cutsOf(0, 1), 20), []int64{-3863, -3863, -3863, -3863, -3863}, codeOK}, {same.with(0, 20), cutsOf(0, 1), []int64{-174, -174, -174, -174, -174}, codeOK},
		{split, cutsOf(0, 1), []int64{-174, 0, 0, 0, 0}, codeOK}, {split, cutsOf(1, 1), []int64{0, -174, -174, -174, -174}, codeOK}, {split, cutsOf(1, 1, 0, 20), []int64{-3863, -174, -174, -174, -174}, codeOK},
		// targets at the ends of the range of frequencies, and partials there
		{ends, nil, []int64{0, 65511, 68501, 72528, 0}, codeOK}, {ends, cutsOf(0, 1), nil, codeState}, {low, nil, []int64{53513, 65511, 68501, 72528, 77506}, codeOK}, {high, nil, []int64{-78076, -66076, -63084, -59056, -54076}, codeOK},
		// the errors of ApplyCuts, in its order, and then of SoundOf
		{same, cutsOf(1, 1), nil, codeRange}, {same, cutsOf(7, 20), nil, codeRange}, {same, cutsOf(0, 20, 0, 1, 1, 1), nil, codeRange}, {split, cutsOf(2, 1), nil, codeRange}, {same, cutsOf(0, 20, 0, 1), nil, codeFull},
		{crossing, nil, []int64{-13650, -25478, -16650, -13630, -13650}, codeOK}, {crossing, cutsOf(1, 1), nil, codeState}, {crossing, cutsOf(1, 1, 0, 1), []int64{-13824, -25652, -16824, -13804, -13824}, codeOK},
		{crossing, cutsOf(1, 1, 7, 1), nil, codeRange}, {crossing, cutsOf(1, 20, 1, 1), nil, codeFull},
	} {
		got, code := impl.DeviationsAfter(c.b.m, c.b.p, c.b.g, c.cuts)
		checkList(t, fmt.Sprintf("DeviationsAfter(%s, %v, %v)", impl.ModelText(c.b.m), c.b.g, c.cuts), got, code, c.want, c.code)
	}
	for steps, want := range []int64{codeOK, codeOK, codeState, codeState} {
		b, cuts := thinBell(), cutsAfter([]int64{int64(steps)})
		if got, code := impl.DeviationsAfter(b.m, b.p, b.g, cuts); code != want || (len(got) == 5) != (want == codeOK) {
			t.Errorf("DeviationsAfter of %v in a thin wall: got %v %d, want %d", cuts, got, code, want)
		}
	}
}

// thinBell returns a bell of one zone, of which a step is a tenth of the wall, and which allows one step.
func thinBell() bellToTune {
	m := withBase(evenModel([]int64{0}, 1, 1), 200000, 400000, 475000, 600000, 800000)
	return bellToTune{m, read("a 5000/4890/10"), goalWith(soundWith(200000, 400000, 475000, 600000, 800000), 20000, 20)}
}

// deviationsModelAfter returns the deviations after cuts, or the error.
func (b bellToTune) deviationsModelAfter(cuts []impl.Cut) ([]int64, int64) {
	if !isModel(b.m) || !isProfile(b.p) || !isGoal(b.g) || !isCuts(cuts) {
		return nil, codeInvalid
	}
	if !areZonesOf(b.p, b.m.Zones) {
		return nil, codeRange
	}
	turned, code := applyModel(b.p, b.m.Zones, cuts)
	if code != codeOK {
		return nil, code
	}
	b.p = turned
	list, ok := b.deviations(nil)
	if !ok {
		return nil, codeState
	}
	return list, codeOK
}

// oneByOne returns the same steps in cuts of one step each.
func oneByOne(cuts []impl.Cut) []impl.Cut {
	var singles []impl.Cut
	for _, c := range cuts {
		singles = append(singles, slices.Repeat(cutsOf(c.Zone, 1), int(c.Steps))...)
	}
	return singles
}

// TestP11AllDeviations holds the deviations after many cuts, valid and invalid ones, and whether they are a plan, against the model.
func TestP11AllDeviations(t *testing.T) {
	codes, plans := map[int64]int{}, 0
	manyBells(111, 300, func(random *rand.Rand, b bellToTune) {
		lists := [][]impl.Cut{nil, randomCuts(random, len(b.m.Zones), 2), randomCuts(random, len(b.m.Zones), maxSteps), randomCuts(random, maxZones, 5), goodCuts()[random.Intn(len(goodCuts()))], badCuts()[random.Intn(len(badCuts()))]}
		if plan, code := impl.FirstPlan(b.m, b.p, b.g, maxBudget); code == codeOK {
			lists = append(lists, plan, oneByOne(plan))
		}
		for _, cuts := range lists {
			want, wantCode := b.deviationsModelAfter(cuts)
			got, code := impl.DeviationsAfter(b.m, b.p, b.g, cuts)
			checkList(t, fmt.Sprintf("DeviationsAfter(%v, %v, %v, %v)", b.m, b.p, b.g, cuts), got, code, want, wantCode)
			codes[code]++
			wantPlan := wantCode == codeOK && worstModel(want) <= b.g.Tolerance
			if wantPlan {
				sums := sumsModel(cuts)
				wantPlan = slices.Max(sums[:]) <= b.g.Most
			}
			if got := impl.IsPlan(b.m, b.p, b.g, cuts); got != wantPlan {
				t.Errorf("IsPlan(%v, %v, %v, %v): got %v", b.m, b.p, b.g, cuts, got)
			}
			if wantPlan {
				plans++
			}
		}
	})
	for _, code := range []int64{codeOK, codeInvalid, codeRange, codeFull, codeState} {
		if codes[code] < 50 {
			t.Errorf("only %d results have the code %d", codes[code], code)
		}
	}
	if plans < 100 {
		t.Errorf("only %d cuts are plans", plans)
	}
}

func TestP11IsPlan(t *testing.T) {
	b := evenBell(splitText, goalWith(impl.Sound{}, 1, 4)).after(2, 1)
	for _, c := range []struct {
		b    bellToTune
		cuts []impl.Cut
		want bool
	}{
		{b, cutsOf(0, 2, 1, 1), true}, {b, cutsOf(1, 1, 0, 2), true}, {b, nil, false}, {b, cutsOf(0, 2), false}, {b, cutsOf(0, 3, 1, 1), false}, {b, cutsOf(0, 2, 1, 2), false},
		// several entries of one zone, and with more than the most steps of one
		{b, cutsOf(0, 1, 1, 1, 0, 1), true}, {b.with(1, 2), cutsOf(0, 1, 1, 1, 0, 1), true}, {b.with(1, 1), cutsOf(0, 1, 1, 1, 0, 1), false}, {b.with(1, 1), cutsOf(0, 2, 1, 1), false}, {b.with(1, 2), cutsOf(0, 2, 1, 1), true}, {b.with(1, 20), cutsOf(0, 2, 1, 1), true},
		{b.with(20000, 0), nil, true}, {b.with(20000, 0), cutsOf(0, 1), false}, {b.with(20000, 5), cutsOf(0, 5, 1, 5), true}, {b.with(20000, 5), cutsOf(0, 6), false}, {b.with(20000, 5), cutsOf(1, 6), false}, {b.with(20000, 5), cutsOf(1, 3, 1, 3), false},
		{b.with(20000, 20), cutsOf(0, 20, 1, 20), true}, {b.with(20000, 20), cutsOf(0, 20, 0, 1), false},
		// cuts of a zone that the model does not have, and cuts that are not valid
		{b.with(20000, 20), cutsOf(0, 2, 1, 1, 2, 1), false}, {b.with(20000, 20), cutsOf(7, 1), false}, {b.with(20000, 20), cutsOf(0, 2, 1, 1, 8, 1), false}, {b.with(20000, 20), cutsOf(0, 0), false}, {b.with(20000, 20), cutsOf(0, -1), false},
		{b.with(20000, 20), slices.Repeat(cutsOf(0, 1), 65), false},
		// goals that are not valid, whatever the deviations are
		{b.with(20001, 4), cutsOf(0, 2, 1, 1), false}, {b.with(-1, 4), cutsOf(0, 2, 1, 1), false}, {b.with(1, 21), cutsOf(0, 2, 1, 1), false}, {b.with(1, -1), nil, false}, {b.with(math.MinInt64, 4), nil, false}, {b.with(math.MaxInt64, 4), nil, false},
	} {
		if got := impl.IsPlan(c.b.m, c.b.p, c.b.g, c.cuts); got != c.want {
			t.Errorf("IsPlan(%v, %v): got %v", c.b.g, c.cuts, got)
		}
	}
	for steps, want := range []bool{true, true, false, false} {
		thin, cuts := thinBell(), cutsAfter([]int64{int64(steps)})
		if got := impl.IsPlan(thin.m, thin.p, thin.g, cuts); got != want {
			t.Errorf("IsPlan of %v in a thin wall: got %v", cuts, got)
		}
	}
	crossing := evenBell("0,1/1,0/0,1/0,1/0,1/0,1/10000,10100,20000,30000,40000", goalWith(soundWith(100000, 101000, 200000, 300000, 400000), 20000, 20))
	for _, c := range []struct {
		cuts []impl.Cut
		want bool
	}{{nil, true}, {cutsOf(1, 1), false}, {cutsOf(0, 1), true}, {cutsOf(0, 1, 1, 1), true}, {cutsOf(0, 1, 1, 2), false}} {
		if got := impl.IsPlan(crossing.m, crossing.p, crossing.g, c.cuts); got != c.want {
			t.Errorf("IsPlan of %v, which may leave no sound: got %v", c.cuts, got)
		}
	}
	other := b
	other.m = evenModel([]int64{0, 2}, 1, 1)
	if impl.IsPlan(other.m, other.p, other.with(20000, 20).g, nil) {
		t.Error("IsPlan of a model that does not fit: got true")
	}
}

// TestP11Tolerance: a deviation may be exactly Tolerance in both directions, and not one tenth more.
func TestP11Tolerance(t *testing.T) {
	for steps := int64(1); steps <= 20; steps++ {
		off := []int64{0, 174, 350, 528}
		b := evenBell(oneText, goalWith(impl.Sound{}, 0, 20))
		deviation := first(impl.DeviationsAfter(b.m, b.p, b.after().g, allZones(1, steps)))
		worst := worstModel(deviation)
		if steps < 4 && worst != off[steps] {
			t.Errorf("%d steps: got %v, want a deviation of %d", steps, deviation, off[steps])
		}
		// too high by these steps before, and nothing may be cut
		for by := int64(-1); by <= 1; by++ {
			high, low := b.after(steps).with(worst+by, 0), b.after().turned(steps).with(worst+by, 20)
			list, ok := high.deviations(nil)
			if !ok || worstModel(list) != worst || slices.Min(list) <= 0 {
				t.Errorf("%d steps before: got the deviations %v, want at most %d", steps, list, worst)
			}
			high.checkReached(t, by >= 0, 1)
			low.checkReached(t, by >= 0, -1)
		}
	}
}

// checkReached holds all functions against whether the uncut bell is a plan; if it is not, there is none, and why.
func (b bellToTune) checkReached(t *testing.T, reached bool, why int64) {
	t.Helper()
	firstCode, greedyCode, plans := int64(codeOK), int64(codeOK), int64(1)
	if reached {
		why = 0
	} else {
		firstCode, greedyCode, plans = codeMissing, codeState, 0
	}
	_, first := impl.FirstPlan(b.m, b.p, b.g, 100)
	_, shortest := impl.ShortestPlan(b.m, b.p, b.g, 100)
	_, greedy := impl.GreedyPlan(b.m, b.p, b.g)
	count, counted := impl.CountPlans(b.m, b.p, b.g, 100)
	_, gotWhy, blocked := impl.BlockedBy(b.m, b.p, b.g)
	if impl.IsPlan(b.m, b.p, b.g, nil) != reached || first != firstCode || shortest != firstCode || greedy != greedyCode || count != plans || counted != codeOK || gotWhy != why || blocked != codeOK {
		t.Errorf("%v: the codes are %d, %d and %d, %d plans %d, blocked %d %d, want %v", b.g, first, shortest, greedy, count, counted, gotWhy, blocked, reached)
	}
}

// TestP11Nodes has searches whose nodes are counted by hand.
func TestP11Nodes(t *testing.T) {
	split := evenBell(splitText, goalWith(impl.Sound{}, 1, 4))
	double := evenBell(doubleText, goalWith(impl.Sound{}, 1, 4))
	equal := evenBell(equalText, goalWith(impl.Sound{}, 1, 4))
	one := evenBell(oneText, goalWith(impl.Sound{}, 1, 5))
	for name, c := range map[string]struct {
		b    bellToTune
		want []outcome
	}{
		// the second zone is left when its partials are too low, and so is the first one
		"two and one": {split.after(2, 1), []outcome{{cutsOf(0, 2, 1, 1), 0, codeOK, 11}, {cutsOf(0, 2, 1, 1), 0, codeOK, 18}, {nil, 1, codeOK, 13}, {cutsOf(0, 2, 1, 1), 0, codeOK, 30}}},
		// a zone of which no more steps may be made is left without a further node
		"at most two": {split.after(2, 1).with(1, 2), []outcome{{cutsOf(0, 2, 1, 1), 0, codeOK, 11}, {cutsOf(0, 2, 1, 1), 0, codeOK, 17}, {nil, 1, codeOK, 12}, {cutsOf(0, 2, 1, 1), 0, codeOK, 12}}},
		// what is too low before all cuts is seen at the first node, once for each of the nine sums
		"too low":         {split.after().turned(2, 1), []outcome{{nil, 0, codeMissing, 1}, {nil, 0, codeMissing, 9}, {nil, 0, codeOK, 1}, {nil, 350, codeOK, 30}}},
		"only one is low": {split.after().turned(0, 1), []outcome{{nil, 0, codeMissing, 1}, {nil, 0, codeMissing, 9}, {nil, 0, codeOK, 1}, {nil, 174, codeOK, 30}}},
		// what stays too high is seen after all steps only
		"too high": {split.after(4, 4).with(1, 2), []outcome{{nil, 0, codeMissing, 12}, {nil, 0, codeMissing, 21}, {nil, 0, codeOK, 12}, {cutsOf(0, 2, 1, 2), 357, codeOK, 12}}},
		// all steps are plans, or there are no steps but 0
		"all":     {split.after().with(20000, 4), []outcome{{nil, 0, codeOK, 2}, {nil, 0, codeOK, 2}, {nil, 25, codeOK, 30}, {nil, 0, codeOK, 30}}},
		"none":    {split.after().with(0, 0), []outcome{{nil, 0, codeOK, 2}, {nil, 0, codeOK, 2}, {nil, 1, codeOK, 2}, {nil, 0, codeOK, 2}}},
		"no plan": {split.after(1, 0).with(0, 0), []outcome{{nil, 0, codeMissing, 2}, {nil, 0, codeMissing, 2}, {nil, 0, codeOK, 2}, {nil, 174, codeOK, 2}}},
		// the first plan is not the shortest one, and is found long before
		"double": {double.after(1, 1), []outcome{{cutsOf(1, 3), 0, codeOK, 5}, {cutsOf(0, 1, 1, 1), 0, codeOK, 10}, {nil, 2, codeOK, 11}, {cutsOf(1, 3), 0, codeOK, 30}}},
		// of several plans with the same sum, the lexicographically least one
		"equal": {equal.after(2, 1), []outcome{{cutsOf(1, 3), 0, codeOK, 5}, {cutsOf(1, 3), 0, codeOK, 14}, {nil, 4, codeOK, 19}, {cutsOf(1, 3), 0, codeOK, 30}}},
		// one zone is the last one at once: one node for each sum
		"one": {one.after(3), []outcome{{cutsOf(0, 3), 0, codeOK, 4}, {cutsOf(0, 3), 0, codeOK, 4}, {nil, 1, codeOK, 5}, {cutsOf(0, 3), 0, codeOK, 6}}}, "one, all": {one.after(3).with(20000, 20), []outcome{{nil, 0, codeOK, 1}, {nil, 0, codeOK, 1}, {nil, 21, codeOK, 21}, {cutsOf(0, 3), 0, codeOK, 21}}},
		"one, too low": {one.after().turned(2), []outcome{{nil, 0, codeMissing, 1}, {nil, 0, codeMissing, 6}, {nil, 0, codeOK, 1}, {nil, 350, codeOK, 6}}}, "one, too high": {one.after(6), []outcome{{nil, 0, codeMissing, 6}, {nil, 0, codeMissing, 6}, {nil, 0, codeOK, 6}, {cutsOf(0, 5), 183, codeOK, 6}}},
		"one, missed": {one.withTarget(soundWith(219000, 438000, 520600, 657000, 876000)), []outcome{{nil, 0, codeMissing, 2}, {nil, 0, codeMissing, 6}, {nil, 0, codeOK, 2}, {nil, 80, codeOK, 6}}},
	} {
		t.Run(name, func(t *testing.T) {
			c.b.checkAll(t, c.want)
		})
	}
}

// manyBells calls a function with many bells that have up to some number of nodes: with sounds in the middle and at both ends of the range, with partials that are near to one another, and with targets that can and cannot be reached.
func manyBells(seed int64, count int, use func(random *rand.Rand, b bellToTune)) {
	random := rand.New(rand.NewSource(seed))
	for range count {
		b := randomBell(random, random.Intn(4) > 0)
		for b.size() > 300 {
			b.g.Most--
		}
		use(random, b)
	}
}

// randomBell returns a bell with walls that allow from none to all steps, with a sound or, if it is so told, without one.
func randomBell(random *rand.Rand, sounds bool) bellToTune {
	for {
		p := impl.Profile{Name: "bell"}
		wall := []int64{1, 200, 500, 2000, 4000}[random.Intn(5)]
		for range 1 + random.Intn(1+random.Intn(10)) {
			outer := 20000 + random.Int63n(100)
			p.Rings = append(p.Rings, ringWith(outer, outer-100-random.Int63n(wall), 100))
		}
		f := randomFrequency(random)
		list := []int64{f / 4, f / 2, f * 3 / 5, f * 3 / 4, f}
		switch random.Intn(4) {
		case 0:
			list = []int64{10000 + f%100, 20000, 25000, 30000, 40000}
		case 1:
			list = []int64{f / 2, f/2 + f/200, f/2 + f/100, f/2 + f/40, f}
		case 2:
			list[4] = 20000000 - f%2000
		}
		m := randomModel(random, len(p.Rings))
		if random.Intn(2) == 0 {
			coarsen(random, m)
		}
		if isSound(soundOf(list)) {
			m, _ = impl.FitBase(m, p, soundOf(list))
		}
		for k := range m.Base {
			m.Base[k] += m.Base[k] * random.Int63n(20) * random.Int63n(2) / 1000
		}
		b := bellToTune{m, p, goalWith(minorSound, []int64{0, 1, 30, 100, 300, 1000, 20000}[random.Intn(7)], random.Int63n(21))}
		if isModel(m) && areZonesOf(p, m.Zones) && b.aim(random) && isSound(soundOf(b.partials(nil))) == sounds {
			return b
		}
	}
}

// coarsen gives a model weights from 0 to 3, often the same for all partials, with which different steps often come to the same.
func coarsen(random *rand.Rand, m impl.Model) {
	for _, row := range m.Weights {
		for z := range row {
			row[z] %= 4
		}
		row[0] = max(row[0], 1)
	}
	if random.Intn(2) == 0 {
		for _, row := range m.Weights {
			copy(row, m.Weights[0])
		}
	}
}

// aim gives the bell a target that is near to a sound after some steps, or to none; false if it is no sound.
func (b *bellToTune) aim(random *rand.Rand) bool {
	steps := b.greatest()
	for zone, most := range steps {
		steps[zone] = random.Int63n(min(most, 4) + 1)
	}
	list := b.partials(steps)
	for k, f := range list {
		if random.Intn(4) == 0 {
			list[k] += random.Int63n(f/500+2) - f/1000
		}
	}
	if random.Intn(3) == 0 {
		k := random.Intn(5)
		list[k] += random.Int63n(list[k]/30+2) - list[k]/60
	}
	for k, f := range list {
		list[k] = min(max(f, minHertz), maxHertz)
	}
	b.g.Target = soundOf(list)
	return isSound(b.g.Target)
}

// TestP11Searches holds the searches of many bells against the model, with the number of their nodes.
func TestP11Searches(t *testing.T) {
	seen := map[string]int{}
	manyBells(112, 800, func(random *rand.Rand, b bellToTune) {
		want := b.outcomes()
		for which := range searchNames {
			b.check(t, which, want[which])
			seen[fmt.Sprint(searchNames[which], want[which].code)]++
		}
		k, why, code := impl.BlockedBy(b.m, b.p, b.g)
		if wantK, wantWhy := b.blocked(); k != wantK || why != wantWhy || code != codeOK {
			t.Errorf("BlockedBy(%v, %v, %v): got %d %d %d, want %d %d", b.m, b.p, b.g, k, why, code, wantK, wantWhy)
		}
		seen[fmt.Sprint("BlockedBy", why)]++
		steps, ok := b.greedy()
		wantCode := map[bool]int64{true: codeOK, false: codeState}[ok]
		cuts, code := impl.GreedyPlan(b.m, b.p, b.g)
		checkCuts(t, fmt.Sprintf("GreedyPlan(%v, %v, %v)", b.m, b.p, b.g), cuts, code, cutsAfter(steps), wantCode)
		seen[fmt.Sprint("GreedyPlan", code)]++
		if want[countPlans].value > 1 {
			seen["several"]++
		}
		if code != codeOK && want[firstPlan].code == codeOK {
			seen["not greedy"]++
		}
		if !slices.Equal(want[firstPlan].cuts, want[shortestPlan].cuts) {
			seen["shorter"]++
		}
		if b.worst(nil) == math.MaxInt64 && want[firstPlan].code == codeOK {
			seen["no uncut sound"]++
		}
	})
	for _, what := range []string{"FirstPlan0", "FirstPlan3", "ShortestPlan0", "ShortestPlan3", "ClosestPlan0", "ClosestPlan3", "BlockedBy0", "BlockedBy-1", "BlockedBy1", "GreedyPlan0", "GreedyPlan6", "several", "not greedy", "shorter", "no uncut sound"} {
		if seen[what] < 10 {
			t.Errorf("only %d bells for %s", seen[what], what)
		}
	}
}

// TestP11BlockedBy has cases that are written out.
func TestP11BlockedBy(t *testing.T) {
	split := evenBell(splitText, goalWith(impl.Sound{}, 1, 4))
	to := func(hum, prime, tierce, quint, nominal int64) bellToTune {
		return split.withTarget(soundWith(hum, prime, tierce, quint, nominal)).with(1, 0)
	}
	// the limits of the range come before the greatest tolerance
	edge := func(base string, target impl.Sound, most int64) bellToTune {
		return evenBell("0/1/1/1/1/1/"+base, goalWith(target, 20000, most))
	}
	lowest, highest := soundWith(10000, 20000, 25000, 30000, 40000), soundWith(220000, 440000, 523000, 660000, 20000000)
	// only the second ring, of some wall, makes the hum
	thin := func(wall, hum int64) bellToTune {
		m := readModel("0,1/0,1/1,0/1,0/1,0/1,0/22000,44000,52300,66000,88000")
		return bellToTune{m, profileWith(ringWith(5000, 4000, 600), ringWith(5000, 5000-wall, 600)), goalWith(soundWith(hum, 440000, 523000, 660000, 880000), 1, 20)}
	}
	for name, c := range map[string]struct {
		b      bellToTune
		k, why int64
	}{
		"own sound": {split.after().with(0, 0), 0, 0}, "reached": {split.after(2, 1), 0, 0}, "hum is low": {split.after().turned(2, 1), 1, -1}, "prime is low": {split.after().turned(0, 1), 2, -1},
		"may be low": {split.after().turned(2, 1).with(350, 4), 0, 0}, "may not be so low": {split.after().turned(2, 1).with(349, 4), 1, -1}, "may be high": {split.after(4, 4).with(357, 2), 0, 0}, "may not be so high": {split.after(4, 4).with(356, 2), 3, 1}, "the first of them": {split.after(4, 4).with(355, 2), 1, 1},
		"all are high": {split.after(4, 4).with(1, 2), 1, 1}, "prime is high": {split.after(2, 4).with(1, 3), 2, 1}, "not too high": {split.after(2, 4).with(1, 4), 0, 0},
		// the first partial of several, whether it is too low or too high
		"low before high": {to(230000, 430000, 500000, 640000, 850000), 1, -1}, "high before low": {to(210000, 450000, 523000, 660000, 880000), 1, 1}, "low, then high": {to(220000, 440000, 530000, 650000, 880000), 3, -1}, "high, then low": {to(220000, 440000, 510000, 670000, 880000), 3, 1},
		"low at the end": {to(220000, 440000, 523000, 660000, 890000), 5, -1}, "high at the end": {to(220000, 440000, 523000, 660000, 870000), 5, 1},
		// partials that are no frequency, before all cuts and after all
		"below the range": {edge("999,2000,2500,3000,4000", lowest, 0), 1, -1}, "below the range, with steps": {edge("999,2000,2500,3000,4000", lowest, 20), 1, -1}, "least frequency": {edge("1000,2000,2500,3000,4000", lowest, 0), 0, 0}, "below only after cuts": {edge("1000,2000,2500,3000,4000", lowest, 20), 0, 0},
		"above the range": {edge("22000,44000,52300,66000,2000001", highest, 0), 5, 1}, "greatest frequency": {edge("22000,44000,52300,66000,2000000", highest, 0), 0, 0}, "above only before cuts": {edge("22000,44000,52300,66000,2000001", highest, 1), 0, 0},
		"above, and then high": {edge("22000,44000,52300,66000,2000001", soundWith(220000, 440000, 523000, 660000, 880000), 1), 5, 1}, "above, and then low": {edge("22000,44000,52300,66000,2000001", soundWith(220000, 440000, 523000, 660000, 19999000), 20).with(1, 20), 0, 0},
		"far above": {edge("1000000000,1000000000,1000000000,1000000000,1000000000", highest, 20), 1, 1}, "far below": {bellToTune{evenModel([]int64{0}, 1, 1), profileWith(ringWith(150000, 149900, 10)), goalWith(lowest, 20000, 20)}, 1, -1},
		// no sound before all cuts, but no partial that shows that there is no plan
		"no sound": {evenBell(swappedText, goalWith(impl.Sound{}, 1, 2)).after(1, 0), 0, 0},
		// zones in which no step or just one can be made
		"no step": {thin(100, 21000), 1, 1}, "no step is needed": {thin(100, 22000), 0, 0}, "one step": {thin(110, 22000), 0, 0}, "one step is too few": {thin(110, 21000), 1, 1}, "as many as are needed": {thin(190, 22000), 0, 0}, "at most eight": {thin(190, 22000).with(1, 8), 1, 1},
	} {
		k, why, code := impl.BlockedBy(c.b.m, c.b.p, c.b.g)
		if wantK, wantWhy := c.b.blocked(); k != c.k || why != c.why || code != codeOK || wantK != c.k || wantWhy != c.why {
			t.Errorf("%s: got %d %d %d, want %d %d, and the model of the tests has %d %d", name, k, why, code, c.k, c.why, wantK, wantWhy)
		}
	}
}

// TestP11NoSounds has searches in which there is no sound, before all cuts or after some.
func TestP11NoSounds(t *testing.T) {
	low := evenBell("0/1/1/1/1/1/1005,2000,2500,3000,4000", goalWith(soundWith(10050, 20000, 25000, 30000, 40000), 20000, 20))
	high := evenBell("0/1/1/1/1/1/22000,44000,52300,66000,2000001", goalWith(impl.Sound{}, 1, 4)).after(1)
	swapped := evenBell(swappedText, goalWith(impl.Sound{}, 1, 2)).after(1, 0)
	for name, c := range map[string]struct {
		b    bellToTune
		want []outcome
	}{
		// the first step leaves no frequency, which is too low for every tolerance, though a search for the closest steps goes on
		"below the range after a step": {low, []outcome{{nil, 0, codeOK, 1}, {nil, 0, codeOK, 1}, {nil, 1, codeOK, 2}, {nil, 0, codeOK, 21}}},
		"below the range":              {low.turned(1).with(20000, 4), []outcome{{nil, 0, codeMissing, 1}, {nil, 0, codeMissing, 5}, {nil, 0, codeOK, 1}, {nil, 0, codeMissing, 5}}},
		// no frequency before all cuts that is not too low
		"above the range before a step": {high, []outcome{{cutsOf(0, 1), 0, codeOK, 2}, {cutsOf(0, 1), 0, codeOK, 2}, {nil, 1, codeOK, 3}, {cutsOf(0, 1), 0, codeOK, 5}}},
		"above the range":               {high.with(20000, 0), []outcome{{nil, 0, codeMissing, 1}, {nil, 0, codeMissing, 1}, {nil, 0, codeOK, 1}, {nil, 0, codeMissing, 1}}},
		// the hum is not lower than the prime before a cut in the first zone
		"swapped": {swapped, []outcome{{cutsOf(0, 1), 0, codeOK, 5}, {cutsOf(0, 1), 0, codeOK, 6}, {nil, 1, codeOK, 7}, {cutsOf(0, 1), 0, codeOK, 12}}}, "swapped, all": {swapped.with(20000, 2), []outcome{{cutsOf(0, 1), 0, codeOK, 6}, {cutsOf(0, 1), 0, codeOK, 6}, {nil, 3, codeOK, 12}, {cutsOf(0, 1), 0, codeOK, 12}}},
		"swapped, none": {swapped.with(20000, 0), []outcome{{nil, 0, codeMissing, 2}, {nil, 0, codeMissing, 2}, {nil, 0, codeOK, 2}, {nil, 0, codeMissing, 2}}},
	} {
		t.Run(name, func(t *testing.T) {
			c.b.checkAll(t, c.want)
			greedy, code := impl.GreedyPlan(c.b.m, c.b.p, c.b.g)
			wantCode := int64(codeState)
			if name == "below the range after a step" {
				wantCode = codeOK
			}
			checkCuts(t, "GreedyPlan", greedy, code, nil, wantCode)
		})
	}
}

// TestP11Greedy has cases that are written out; the first code is that of GreedyPlan, and the other one that of FirstPlan.
func TestP11Greedy(t *testing.T) {
	split, double, equal := evenBell(splitText, goalWith(impl.Sound{}, 1, 4)), evenBell(doubleText, goalWith(impl.Sound{}, 1, 4)), evenBell(equalText, goalWith(impl.Sound{}, 1, 4))
	octaves := evenBell("0,1/1,0/0,1/1,0/0,1/1,0/11000,22000,44000,88000,176000", goalWith(impl.Sound{}, 1, 4))
	three := evenBell("0,1,2/1,0,0/0,1,0/1,0,0/0,1,0/0,0,1/11000,22000,44000,88000,176000", goalWith(impl.Sound{}, 1, 4))
	// a step of the second zone would be the better one, but the prime would be lower than the hum
	falling := evenBell("0,1,2/1,0,0/0,1,0/0,0,1/0,0,1/1,2,0/10000,10100,20000,30000,13000", goalWith(soundWith(99500, 100500, 200000, 300000, 386100), 100, 20))
	for name, c := range map[string]struct {
		b         bellToTune
		want      []impl.Cut
		code, all int64
	}{
		"own sound": {split.after(), nil, codeOK, codeOK}, "both zones": {split.after(2, 1), cutsOf(0, 2, 1, 1), codeOK, codeOK}, "near enough": {split.after(2, 1).with(200, 4), cutsOf(0, 1), codeOK, codeOK}, "just near enough": {split.after(2, 1).with(176, 4), cutsOf(0, 1), codeOK, codeOK},
		"not near enough": {split.after(2, 1).with(175, 4), cutsOf(0, 2), codeOK, codeOK}, "near enough at once": {split.after(2, 1).with(350, 4), nil, codeOK, codeOK}, "the second zone first": {split.after(0, 3), cutsOf(1, 3), codeOK, codeOK},
		"greater steps first": {double.after(1, 1), cutsOf(0, 1, 1, 1), codeOK, codeOK}, "greater steps": {double.after(4, 0), cutsOf(0, 4), codeOK, codeOK},
		// of zones with the same value the first one, up to its greatest number, and then the next one
		"the first of two": {equal.after(1, 2), cutsOf(0, 3), codeOK, codeOK}, "two of the first": {equal.after(1, 2).with(1, 2), cutsOf(0, 2, 1, 1), codeOK, codeOK}, "the greatest numbers": {equal.after(2, 2).with(1, 2), cutsOf(0, 2, 1, 2), codeOK, codeOK},
		"no more steps": {equal.after(3, 2).with(1, 2), nil, codeState, codeMissing}, "no steps": {equal.after(1, 0).with(1, 0), nil, codeState, codeMissing}, "too low": {split.after().turned(1, 0), nil, codeState, codeMissing}, "missed": {equal.withTarget(soundWith(219450, 438900, 518700, 658350, 877800)), nil, codeState, codeMissing},
		"walls that allow two and one": {bellToTune{equal.m, read("a 5000/4880/600 5000/4890/600"), equal.g}.after(2, 1).with(1, 20), cutsOf(0, 2, 1, 1), codeOK, codeOK},
		// no single step makes the greatest deviation less, at once or after some
		"two steps at once": {octaves.after(1, 1), nil, codeState, codeOK}, "two steps at once are not needed": {octaves.after(1, 1).with(174, 4), nil, codeOK, codeOK}, "two steps at once, at last": {three.after(1, 1, 2), nil, codeState, codeOK},
		"near enough before": {three.after(1, 1, 2).with(174, 4), cutsOf(2, 2), codeOK, codeOK},
		// a step after which there is no sound is not made
		"no sound after a step": {falling, cutsOf(0, 1, 1, 1), codeOK, codeOK}, "no sound": {evenBell(swappedText, goalWith(impl.Sound{}, 1, 2)).after(1, 0), nil, codeState, codeOK},
	} {
		got, code := impl.GreedyPlan(c.b.m, c.b.p, c.b.g)
		checkCuts(t, name+": GreedyPlan", got, code, c.want, c.code)
		if _, code := impl.FirstPlan(c.b.m, c.b.p, c.b.g, maxBudget); code != c.all {
			t.Errorf("%s: FirstPlan: got %d, want %d", name, code, c.all)
		}
		steps, ok := c.b.greedy()
		if want := cutsAfter(steps); !slices.Equal(want, c.want) || ok != (c.code == codeOK) {
			t.Errorf("%s: the model of the tests has %v %v, want %v %d", name, want, ok, c.want, c.code)
		}
	}
}

// TestP11Zones has bells of one zone up to as many as there may be, some of which allow no step.
func TestP11Zones(t *testing.T) {
	for count := 1; count <= 8; count++ {
		p := impl.Profile{Name: "a"}
		for zone := range count {
			p.Rings = append(p.Rings, ringWith(5000, []int64{4900, 4880, 4890}[zone%3], 600))
		}
		var zones []int64
		for zone := range count {
			zones = append(zones, int64(zone))
		}
		m := first(impl.FitBase(evenModel(zones, 1, 1), p, minorSound))
		for _, most := range []int64{0, 1, 2, 20} {
			b := bellToTune{m, p, goalWith(minorSound, 1, most)}
			// no cuts, the greatest steps of all zones, and one step of the last zone
			last := make([]int64, count)
			last[count-1] = b.greatest()[count-1]
			for _, steps := range [][]int64{nil, b.greatest(), last} {
				b := b.after(steps...)
				for which, want := range b.outcomes() {
					b.check(t, which, want)
				}
				cuts, code := impl.ShortestPlan(b.m, b.p, b.g, maxBudget)
				total, _ := impl.TotalSteps(cuts)
				if total != sumOf(steps) || code != codeOK || !impl.IsPlan(b.m, b.p, b.g, cuts) {
					t.Errorf("ShortestPlan of %d zones with at most %d steps: got %v %d for %v", count, most, cuts, code, steps)
				}
			}
		}
	}
}

// wideBell returns a bell with zones that allow some numbers of steps, all of which are plans.
func wideBell(room ...int64) bellToTune {
	p := impl.Profile{Name: "a"}
	var zones []int64
	for zone, steps := range room {
		p.Rings = append(p.Rings, ringWith(5000, 5000-100-10*steps, 600))
		zones = append(zones, int64(zone))
	}
	m := first(impl.FitBase(evenModel(zones, 1, 1), p, minorSound))
	return bellToTune{m, p, goalWith(minorSound, 20000, 20)}.after()
}

// TestP11GreatestBudget has searches that visit exactly as many nodes as the greatest budget, one more, and very many.
func TestP11GreatestBudget(t *testing.T) {
	b := wideBell(19, 8, 9, 9)
	if b.size() != maxBudget {
		t.Fatalf("%d nodes, want %d", b.size(), maxBudget)
	}
	b.check(t, countPlans, outcome{nil, 20 * 9 * 10 * 10, codeOK, maxBudget})
	b.check(t, closestPlan, outcome{nil, 0, codeOK, maxBudget})
	b.check(t, firstPlan, outcome{nil, 0, codeOK, 4})
	b.check(t, shortestPlan, outcome{nil, 0, codeOK, 4})
	// nothing is found by any node, and the last zone has one step more
	missed := b.withTarget(soundWith(10000, 10001, 10002, 10003, 10004)).with(1, 20)
	missed.check(t, firstPlan, outcome{nil, 0, codeMissing, maxBudget})
	missed.check(t, countPlans, outcome{nil, 0, codeOK, maxBudget})
	for _, b := range []bellToTune{wideBell(19, 8, 9, 10), wideBell(20, 20, 20, 20, 20, 20, 20, 20)} {
		missed := b.withTarget(soundWith(10000, 10001, 10002, 10003, 10004)).with(1, 20)
		for which := range searchNames {
			for _, budget := range []int64{1, 100, maxBudget} {
				cuts, value, code := missed.search(which, budget)
				if len(cuts) > 0 || value != 0 || code != codeFull {
					t.Errorf("%s of %d nodes with the budget %d: got %v %d %d", searchNames[which], b.size(), budget, cuts, value, code)
				}
			}
		}
		b.check(t, firstPlan, outcome{nil, 0, codeOK, len(b.m.Zones)})
		b.check(t, shortestPlan, outcome{nil, 0, codeOK, len(b.m.Zones)})
	}
}

// TestP11PlansEndWithinTheirTolerances holds the functions against each other: what is found is a plan with the metal that there is, nothing is shorter or closer, and a blocked partial means that nothing is found.
func TestP11PlansEndWithinTheirTolerances(t *testing.T) {
	manyBells(113, 400, func(_ *rand.Rand, b bellToTune) {
		firstCuts, firstCode := impl.FirstPlan(b.m, b.p, b.g, maxBudget)
		shortest, shortestCode := impl.ShortestPlan(b.m, b.p, b.g, maxBudget)
		closest, value, closestCode := impl.ClosestPlan(b.m, b.p, b.g, maxBudget)
		greedy, greedyCode := impl.GreedyPlan(b.m, b.p, b.g)
		count, _ := impl.CountPlans(b.m, b.p, b.g, maxBudget)
		_, why, _ := impl.BlockedBy(b.m, b.p, b.g)
		room := first(impl.RoomOf(b.p, b.m.Zones))
		found := firstCode == codeOK
		if (shortestCode == codeOK) != found || (count > 0) != found || (closestCode == codeOK && value <= b.g.Tolerance) != found || greedyCode == codeOK && !found || why != 0 && found {
			t.Errorf("%v, %v, %v: the codes are %d, %d, %d and %d, the value %d, %d plans, blocked %d", b.m, b.p, b.g, firstCode, shortestCode, closestCode, greedyCode, value, count, why)
		}
		for i, cuts := range [][]impl.Cut{firstCuts, shortest, closest, greedy} {
			if []int64{firstCode, shortestCode, closestCode, greedyCode}[i] != codeOK || i == 2 && value > b.g.Tolerance {
				continue
			}
			if !impl.IsPlan(b.m, b.p, b.g, cuts) || !slices.Equal(cuts, sortedModel(cuts)) {
				t.Errorf("%v, %v, %v: %v is no plan", b.m, b.p, b.g, cuts)
			}
			for _, c := range cuts {
				if c.Steps > room[c.Zone] || c.Steps > b.g.Most {
					t.Errorf("%v, %v, %v: %v asks for more metal than there is", b.m, b.p, b.g, cuts)
				}
			}
			total, shortestTotal := first(impl.TotalSteps(cuts)), first(impl.TotalSteps(shortest))
			deviations := first(impl.DeviationsAfter(b.m, b.p, b.g, cuts))
			if total < shortestTotal || worstModel(deviations) < value {
				t.Errorf("%v, %v, %v: %v is shorter than %v, or closer than %v", b.m, b.p, b.g, cuts, shortest, closest)
			}
		}
	})
}

// plannerCodes returns the codes of all functions with a goal but IsPlan; with an error no other result may come.
func (b bellToTune) plannerCodes(t *testing.T, cuts []impl.Cut, budget int64) []int64 {
	t.Helper()
	deviations, code := impl.DeviationsAfter(b.m, b.p, b.g, cuts)
	k, why, blockedCode := impl.BlockedBy(b.m, b.p, b.g)
	greedy, greedyCode := impl.GreedyPlan(b.m, b.p, b.g)
	codes := []int64{code, blockedCode, greedyCode}
	if code != codeOK && (len(deviations) > 0 || impl.IsPlan(b.m, b.p, b.g, cuts)) || blockedCode != codeOK && (k != 0 || why != 0) || greedyCode != codeOK && len(greedy) > 0 {
		t.Errorf("%v, %v, %v, %v: got a result and an error: %v %d, %d %d %d, %v %d", b.m, b.p, b.g, cuts, deviations, code, k, why, blockedCode, greedy, greedyCode)
	}
	for which := range searchNames {
		found, value, code := b.search(which, budget)
		if code != codeOK && (len(found) > 0 || value != 0) {
			t.Errorf("%s(%v, %v, %v, %d): got a result and an error: %v %d %d", searchNames[which], b.m, b.p, b.g, budget, found, value, code)
		}
		codes = append(codes, code)
	}
	return codes
}

// TestP11InvalidArguments: ErrInvalid comes before all other errors, whatever the others are.
func TestP11InvalidArguments(t *testing.T) {
	invalid := slices.Repeat([]int64{codeInvalid}, 7)
	good := evenBell(splitText, goalWith(impl.Sound{}, 1, 4)).after()
	other := good
	other.m = readModel("0,31/1,0/0,1/0,1/0,1/0,1/22000,44000,52300,66000,88000")
	lists := [][]impl.Cut{nil, cutsOf(0, 1), cutsOf(7, 20), cutsOf(0, 20, 0, 1), cutsOf(8, 0)}
	budgets := []int64{1, maxBudget, 0, -1, maxBudget + 1, math.MinInt64, math.MaxInt64}
	try := func(i int, b bellToTune) {
		t.Helper()
		cuts, budget := lists[i%len(lists)], budgets[i%len(budgets)]
		if got := b.plannerCodes(t, cuts, budget); !slices.Equal(got, invalid) {
			t.Errorf("%v, %v, %v, %v, %d: got the codes %v", b.m, b.p, b.g, cuts, budget, got)
		}
	}
	for i, m := range badModels() {
		try(i, bellToTune{m, good.p, good.g})
		try(i+1, bellToTune{m, repeated(ringWith(5000, 4000, 10), 32), good.g})
		try(i+2, bellToTune{m, impl.Profile{}, impl.Goal{}})
	}
	for i, p := range badProfiles() {
		try(i, bellToTune{good.m, p, good.g})
		try(i+1, bellToTune{other.m, p, good.g})
	}
	for i, g := range badGoals() {
		try(i, bellToTune{good.m, good.p, g})
		try(i+1, bellToTune{other.m, good.p, g})
		if impl.IsPlan(good.m, good.p, g, nil) {
			t.Errorf("IsPlan of %v: got true", g)
		}
	}
	// cuts are an argument of two functions only
	for _, cuts := range badCuts() {
		for _, b := range []bellToTune{good, other} {
			got, code := impl.DeviationsAfter(b.m, b.p, b.g, cuts)
			checkList(t, fmt.Sprintf("DeviationsAfter of %v", cuts), got, code, nil, codeInvalid)
			if impl.IsPlan(b.m, b.p, b.with(20000, 20).g, cuts) {
				t.Errorf("IsPlan of %v: got true", cuts)
			}
		}
	}
}

// TestP11OtherErrors: a model that does not fit comes before the errors of cuts and of sounds, and so does a budget that is none.
func TestP11OtherErrors(t *testing.T) {
	good := evenBell(splitText, goalWith(impl.Sound{}, 1, 4)).after()
	silent := good
	silent.m = withBase(good.m, 1, 1, 1, 1, 1)
	for _, c := range []struct {
		b     bellToTune
		cuts  []impl.Cut
		codes []int64 // of DeviationsAfter, BlockedBy, GreedyPlan, and the four searches with a great budget
	}{
		{good, nil, []int64{codeOK, codeOK, codeOK, codeOK, codeOK, codeOK, codeOK}}, {good, cutsOf(2, 1), []int64{codeRange, codeOK, codeOK, codeOK, codeOK, codeOK, codeOK}}, {good, cutsOf(0, 20, 0, 1, 2, 1), []int64{codeRange, codeOK, codeOK, codeOK, codeOK, codeOK, codeOK}},
		{good, cutsOf(0, 20, 0, 1), []int64{codeFull, codeOK, codeOK, codeOK, codeOK, codeOK, codeOK}}, {silent, nil, []int64{codeState, codeOK, codeState, codeMissing, codeMissing, codeOK, codeMissing}}, {silent, cutsOf(2, 1), []int64{codeRange, codeOK, codeState, codeMissing, codeMissing, codeOK, codeMissing}},
		{silent, cutsOf(0, 20, 0, 1), []int64{codeFull, codeOK, codeState, codeMissing, codeMissing, codeOK, codeMissing}},
	} {
		for _, budget := range []int64{30, 31, maxBudget - 1, maxBudget} {
			if got := c.b.plannerCodes(t, c.cuts, budget); !slices.Equal(got, c.codes) {
				t.Errorf("the base %v, %v, the budget %d: got the codes %v, want %v", c.b.m.Base, c.cuts, budget, got, c.codes)
			}
		}
		for _, budget := range noBudgets {
			want := slices.Concat(c.codes[:3], slices.Repeat([]int64{codeRange}, 4))
			if got := c.b.plannerCodes(t, c.cuts, budget); !slices.Equal(got, want) {
				t.Errorf("the base %v, %v, the budget %d: got the codes %v, want %v", c.b.m.Base, c.cuts, budget, got, want)
			}
		}
		for _, last := range []int64{2, 3, 31} {
			b := c.b
			b.m = cloneModel(b.m)
			b.m.Zones[1] = last
			for _, budget := range []int64{-1, 0, 1, maxBudget, maxBudget + 1} {
				if got := b.plannerCodes(t, c.cuts, budget); !slices.Equal(got, slices.Repeat([]int64{codeRange}, 7)) {
					t.Errorf("zones up to %d, %v, the budget %d: got the codes %v", last, c.cuts, budget, got)
				}
			}
		}
	}
}

var goalTexts = []string{
	"220.000 440.000 523.252 659.256 880.000 1 4", "220.000 440.000 523.252 659.256 880.000 0 0", "220.000 440.000 523.252 659.256 880.000 20000 20",
	"10.000 10.001 10.002 10.003 10.004 50 3", "19999.996 19999.997 19999.998 19999.999 20000.000 9 10",
}

func TestP11GoalTexts(t *testing.T) {
	for _, text := range goalTexts {
		g, ok := impl.ReadGoal(text)
		if got := impl.GoalText(g); got != text || !ok {
			t.Errorf("ReadGoal(%q): got %v %v, with the text %q", text, g, ok, got)
		}
	}
	random := rand.New(rand.NewSource(114))
	goals := goodGoals()
	for range 500 {
		goals = append(goals, goalWith(randomSound(random), random.Int63n(20001), random.Int63n(21)))
	}
	for _, g := range goals {
		text := impl.GoalText(g)
		if want := fmt.Sprintf("%s %d %d", impl.SoundText(g.Target), g.Tolerance, g.Most); text != want {
			t.Errorf("GoalText(%v): got %q, want %q", g, text, want)
		}
		if got, ok := impl.ReadGoal(text); got != g || !ok {
			t.Errorf("ReadGoal(%q): got %v %v", text, got, ok)
		}
	}
	for _, g := range badGoals() {
		if got := impl.GoalText(g); got != "" {
			t.Errorf("GoalText(%v): got %q, want none", g, got)
		}
	}
}

func TestP11ReadGoal(t *testing.T) {
	sound := "220.000 440.000 523.252 659.256 880.000"
	bad := []string{
		// missing, superfluous and empty parts
		sound, sound + " ", sound + " 1", sound + " 1 ", sound + " 1 4 ", sound + " 1 4 1", sound + "  1 4", sound + " 1  4", sound + "  ", sound + " 1 4  ", " " + sound + " 1 4", sound + " 1 4 " + sound, "220.000 440.000 523.252 659.256 1 4", "1 4 " + sound, "1 " + sound + " 4", "1 4", " 1 4", "     1 4", "      ",
		"220.000 440.000 523.252 659.256 880.000 990.000 1 4", "220.000  523.252 659.256 880.000 1 4", " 440.000 523.252 659.256 880.000 1 4", strings.ReplaceAll(sound, " ", "  ") + " 1 4",
		// leading zeros, signs, points, other blanks and other digits
		sound + " 01 4", sound + " 1 04", sound + " 00 4", sound + " 1 00", sound + " +1 4", sound + " 1 +4", sound + " -0 4", sound + " 1 -0", sound + " -1 4", sound + " 1 -1", sound + " 1.0 4", sound + " 1 4.0", sound + " .1 4", sound + " 1e1 4", sound + " 0x1 4", sound + " 1 x", sound + " x 4", sound + " - 4", sound + " 1 -",
		sound + "\t1 4", sound + " 1\t4", sound + " 1 4\n", sound + "\n1 4", "\t" + sound + " 1 4", sound + ",1,4", sound + " 1,4", sound + "/1/4", sound + " 1 4\x00", sound + " ١ 4", sound + " 1 ٤", sound + "\u00a01 4", sound + " 1_0 4", "0" + sound + " 1 4", "+" + sound + " 1 4",
		// goals that are not valid
		sound + " 20001 4", sound + " 1 21", sound + " 100000 4", sound + " 1 100", sound + " 4294967297 4", sound + " 1 4294967300", sound + " 18446744073709551617 4", sound + " 1 18446744073709551620", sound + " 9223372036854775808 4", sound + " 1 -9223372036854775808",
		"220.000 440.000 523.252 880.000 659.256 1 4", "220.000 220.000 523.252 659.256 880.000 1 4", "9.999 440.000 523.252 659.256 880.000 1 4", "220.000 440.000 523.252 659.256 20000.001 1 4", "220 440.000 523.252 659.256 880.000 1 4", "0.000 0.000 0.000 0.000 0.000 0 0", "0 0 0 0 0 0 0",
		strings.Repeat(" ", 1000), strings.Repeat("1 ", 1000), sound + " 1 " + strings.Repeat("4", 1000), sound + " " + strings.Repeat("0", 1000) + "1 4", strings.Repeat(sound+" ", 100) + "1 4",
	}
	for _, s := range slices.Concat(bad, edgeTexts, pointedTexts, temperamentTexts, soundTexts, profileTexts, modelTexts, cutsTexts) {
		if got, ok := impl.ReadGoal(s); got != (impl.Goal{}) || ok {
			t.Errorf("ReadGoal(%q): got %v %v, want none", s, got, ok)
		}
	}
}

// TestP11DamagedTextsAreNotRead: a text that is damaged is that of the goal that is read, or of none.
func TestP11DamagedTextsAreNotRead(t *testing.T) {
	for _, s := range damagedTexts(goalTexts, " 012.-+a") {
		got, ok := impl.ReadGoal(s)
		if ok && (impl.GoalText(got) != s || !isGoal(got)) || !ok && got != (impl.Goal{}) {
			t.Errorf("ReadGoal(%q): got %v %v", s, got, ok)
		}
	}
}

// plannerResults has the results of all functions of the chapter for valid and invalid arguments, as texts.
func plannerResults() []string {
	var all []string
	add := func(results ...any) { all = append(all, fmt.Sprint(results...)) }
	lists, budgets := slices.Concat(goodCuts(), badCuts()), append(slices.Clone(noBudgets), 1, 2, 30, 200, 1000)
	use := func(i int, b bellToTune) {
		cuts, budget := lists[i%len(lists)], budgets[i%len(budgets)]
		add(impl.ValidGoal(b.g), impl.IsPlan(b.m, b.p, b.g, cuts), impl.GoalText(b.g))
		add(impl.DeviationsAfter(b.m, b.p, b.g, cuts))
		add(impl.BlockedBy(b.m, b.p, b.g))
		add(impl.GreedyPlan(b.m, b.p, b.g))
		for which := range searchNames {
			add(b.search(which, budget))
		}
	}
	goals := slices.Concat(goodGoals(), badGoals())
	profiles := slices.Concat(goodProfiles(), badProfiles(), greatestProfiles())
	for i, m := range slices.Concat(goodModels(), badModels()) {
		for j := range 5 {
			use(i+j, bellToTune{m, profiles[(i*5+j)%len(profiles)], goals[(i*3+j)%len(goals)]})
		}
	}
	for i, p := range profiles {
		use(i, bellToTune{bellModel(), p, goals[i%len(goals)]})
		use(i+1, bellToTune{evenModel([]int64{0}, 1, 220000), p, goals[(i+7)%len(goals)]})
	}
	for i, g := range goals {
		use(i, evenBell(splitText, g))
	}
	i := 0
	manyBells(115, 100, func(_ *rand.Rand, b bellToTune) {
		use(i, b)
		i++
	})
	use(len(budgets)-1, wideBell(20, 20, 20, 20, 20, 20, 20, 20))
	for _, s := range slices.Concat(goalTexts, edgeTexts, pointedTexts, soundTexts) {
		add(impl.ReadGoal(s))
	}
	return all
}

// TestP1PlannerReturns: every function of chapter 10 returns for all arguments, and the same again.
func TestP1PlannerReturns(t *testing.T) {
	first := plannerResults()
	for range 2 {
		if again := plannerResults(); !slices.Equal(first, again) {
			t.Error("other results for equal arguments")
		}
	}
}

// roomyBell returns a bell whose lists are parts of longer ones, as the cuts are, and these longer lists.
func roomyBell(plain bellToTune, plainCuts []impl.Cut) (bellToTune, []impl.Cut, [][]int64, []impl.Ring) {
	m, lists := roomyModel(plain.m)
	rings := append(slices.Grow(slices.Clone(plain.p.Rings), 12), ringWith(1, 2, 3), ringWith(5000, 4000, 600))
	cuts := append(slices.Grow(slices.Clone(plainCuts), 12), cutsOf(9, 99, 0, 1)...)
	b := bellToTune{m, impl.Profile{Name: plain.p.Name, Rings: rings[:len(plain.p.Rings)]}, plain.g}
	return b, cuts[:len(plainCuts)], lists, rings
}

// TestP1PlannerKeepsItsArguments: neither the lists of a model, nor rings, nor cuts, nor the capacity behind them are modified.
func TestP1PlannerKeepsItsArguments(t *testing.T) {
	split := evenBell(splitText, goalWith(impl.Sound{}, 1, 4))
	for _, plain := range []bellToTune{split.after(2, 1), split.after().turned(1), split.after(4, 4).with(1, 2), split.after().with(20000, 20), evenBell(doubleText, goalWith(impl.Sound{}, 1, 4)).after(1, 1), evenBell(swappedText, goalWith(impl.Sound{}, 1, 2)).after(1, 0)} {
		for _, plainCuts := range [][]impl.Cut{nil, cutsOf(1, 1, 0, 2), cutsOf(0, 1, 1, 1, 0, 1), cutsOf(0, 20, 0, 1), cutsOf(2, 1), cutsOf(8, 0)} {
			b, cuts, lists, rings := roomyBell(plain, plainCuts)
			wantLists, wantRings, wantCuts := cloneLists(lists), slices.Clone(rings[:cap(rings)]), slices.Clone(cuts[:cap(cuts)])
			for _, budget := range []int64{0, 1, 5, maxBudget} {
				impl.ValidGoal(b.g)
				impl.GoalText(b.g)
				impl.IsPlan(b.m, b.p, b.g, cuts)
				b.plannerCodes(t, cuts, budget)
				if !slices.EqualFunc(lists, wantLists, slices.Equal[[]int64]) || !sameModels(b.m, plain.m) || !slices.Equal(rings[:cap(rings)], wantRings) || !slices.Equal(cuts[:cap(cuts)], wantCuts) || !slices.Equal(b.m.Weights[:6][5], []int64{81, 82}) {
					t.Fatalf("%v, %v: the lists are now %v, the rings %v, and the cuts %v", plain, plainCuts, lists, rings, cuts)
				}
			}
		}
	}
}

// TestP1PlansAreNew: a list that is overwritten, with the capacity behind it, changes neither an argument nor another result, and the other way round.
func TestP1PlansAreNew(t *testing.T) {
	plain := evenBell(splitText, goalWith(impl.Sound{}, 1, 4)).after(2, 1)
	mark := impl.Cut{Zone: 66, Steps: 99}
	for name, list := range map[string]func(b bellToTune, cuts []impl.Cut) []impl.Cut{
		"FirstPlan": func(b bellToTune, _ []impl.Cut) []impl.Cut { return first(impl.FirstPlan(b.m, b.p, b.g, 100)) },
		"ShortestPlan": func(b bellToTune, _ []impl.Cut) []impl.Cut {
			return first(impl.ShortestPlan(b.m, b.p, b.g, 100))
		},
		"ClosestPlan": func(b bellToTune, _ []impl.Cut) []impl.Cut {
			cuts, _, _ := impl.ClosestPlan(b.m, b.p, b.g, 100)
			return cuts
		},
		"GreedyPlan": func(b bellToTune, _ []impl.Cut) []impl.Cut { return first(impl.GreedyPlan(b.m, b.p, b.g)) },
		"DeviationsAfter": func(b bellToTune, cuts []impl.Cut) []impl.Cut {
			return cutsOf(first(impl.DeviationsAfter(b.m, b.p, b.g, cuts[:1]))[:4]...)
		},
	} {
		b, cuts, lists, rings := roomyBell(plain, cutsOf(0, 2, 1, 1))
		wantLists, wantRings, wantCuts := cloneLists(lists), slices.Clone(rings), slices.Clone(cuts)
		got, want := list(b, cuts), slices.Clone(list(b, cuts))
		overwrite(list(b, cuts), mark)
		if !slices.EqualFunc(lists, wantLists, slices.Equal[[]int64]) || !slices.Equal(rings, wantRings) || !slices.Equal(cuts, wantCuts) || !slices.Equal(got, want) || len(want) != 2 {
			t.Errorf("%s: the arguments are now %v, %v and %v, and %v has become %v", name, lists, rings, cuts, want, got)
		}
		for _, l := range lists {
			overwrite(l, -7)
		}
		overwrite(rings, ringWith(1, 2, 3))
		overwrite(cuts, mark)
		if !slices.Equal(got, want) {
			t.Errorf("%s: got %v, which has become %v", name, want, got)
		}
	}
	got, other := first(impl.DeviationsAfter(plain.m, plain.p, plain.g, nil)), first(impl.DeviationsAfter(plain.m, plain.p, plain.g, nil))
	want := slices.Clone(got)
	overwrite(other, 99)
	if !slices.Equal(got, want) || len(want) != 5 {
		t.Errorf("DeviationsAfter: got %v, which has become %v", want, got)
	}
}
