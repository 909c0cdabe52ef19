package tests

import (
	"math"
	"math/rand"
	"slices"
	"testing"

	"loop.example/g01215/impl"
)

// Other tubes are held against a model on the texts of tubes (see l2_racks_test.go) and on their
// depths, which reads the table of the rules anew and makes each list of pours on its own.

var allRules = []int{impl.RulePour, impl.RuleDrop, impl.RuleStrict, impl.RuleLoose}

var outerRules = []int{0, 5, -1, 6, 256, math.MaxInt, math.MinInt, 1<<32 + 1}

var plainDepths = [6]int{4, 4, 4, 4, 4, 4}

// movedBy returns how many layers a rule moves from a tube onto one of some depth.
func movedBy(rule int, from string, to string, depth int) int {
	room := depth - len(to)
	if from == "" || room <= 0 {
		return 0
	}
	size := topSize(from)
	if rule == impl.RuleLoose {
		return 1
	}
	if to != "" && to[len(to)-1] != from[len(from)-1] {
		return 0
	}
	switch {
	case rule == impl.RuleDrop:
		return 1
	case rule == impl.RulePour:
		return min(size, room)
	case size <= room:
		return size
	}
	return 0
}

// modelBy returns all pours that are possible by a rule, with what is behind them.
func modelBy(tubes [6]string, depths [6]int, rule int) []modelSource {
	var all []modelSource
	for i, from := range tubes {
		for j, to := range tubes {
			moved := movedBy(rule, from, to, depths[j])
			if i == j || moved == 0 {
				continue
			}
			behind := tubes
			behind[i], behind[j] = from[:len(from)-moved], to+from[len(from)-moved:]
			all = append(all, modelSource{impl.Source{From: i, To: j, Moved: moved}, behind})
		}
	}
	return all
}

func fitsModel(tubes [6]string, depths [6]int) bool {
	for i, tube := range tubes {
		if len(tube) > depths[i] {
			return false
		}
	}
	return true
}

// tightDepths are as many as there are layers, but 1 for empty tubes.
func tightDepths(tubes [6]string) [6]int {
	depths := [6]int{}
	for i, tube := range tubes {
		depths[i] = max(len(tube), 1)
	}
	return depths
}

// someDepths returns depths for which tubes are valid: the least and the greatest ones, and some.
func someDepths(source *rand.Rand, tubes [6]string) [][6]int {
	all := [][6]int{plainDepths, tightDepths(tubes)}
	for range 2 {
		depths := tightDepths(tubes)
		for i := range depths {
			depths[i] += source.Intn(5 - depths[i])
		}
		all = append(all, depths)
	}
	return all
}

// unfitDepths returns depths for which tubes are not valid, in one tube each.
func unfitDepths(tubes [6]string) [][6]int {
	var all [][6]int
	for i, tube := range tubes {
		if len(tube) > 1 {
			unfit := plainDepths
			unfit[i] = len(tube) - 1
			tight := tightDepths(tubes)
			tight[i]--
			all = append(all, unfit, tight)
		}
	}
	return all
}

// badDepths returns arrays that are no depths, each of them at one of the places.
func badDepths() [][6]int {
	var all [][6]int
	for i := range impl.Tubes {
		for _, depth := range []int{0, 5, -1, -4, 6, 8, 256, 257, 1<<32 + 4, math.MaxInt, math.MinInt} {
			alone, among := [6]int{1, 1, 1, 1, 1, 1}, plainDepths
			alone[i], among[i] = depth, depth
			all = append(all, alone, among)
		}
	}
	return append(all, [6]int{}, [6]int{5, 5, 5, 5, 5, 5}, [6]int{-1, -1, -1, -1, -1, -1}, [6]int{0, 5, 4, 4, 4, 4})
}

func TestOtherConstants(t *testing.T) {
	if !slices.Equal(allRules, []int{1, 2, 3, 4}) || impl.MaxFew != 3 {
		t.Error(allRules, impl.MaxFew)
	}
}

func TestIsDepths(t *testing.T) {
	for code := range 7 * 7 * 7 * 7 * 7 * 7 {
		depths, want := [6]int{}, true
		for i := range depths {
			depths[i] = code%7 - 1
			code /= 7
			want = want && depths[i] > 0 && depths[i] < 5
		}
		if impl.IsDepths(depths) != want {
			t.Fatalf("IsDepths(%v) is not %v", depths, want)
		}
	}
	for _, depths := range badDepths() {
		if impl.IsDepths(depths) {
			t.Errorf("IsDepths(%v)", depths)
		}
	}
}

func TestFitsDepths(t *testing.T) {
	source := rand.New(rand.NewSource(81))
	for _, tubes := range boundTubes(t) {
		r := rackOf(tubes)
		for _, depths := range someDepths(source, tubes) {
			if fits, ok := impl.FitsDepths(r, depths); !ok || !fits {
				t.Fatalf("FitsDepths(%s, %v) = %v, %v", textOf(tubes), depths, fits, ok)
			}
		}
		for _, depths := range unfitDepths(tubes) {
			if fits, ok := impl.FitsDepths(r, depths); ok != impl.IsDepths(depths) || fits {
				t.Fatalf("FitsDepths(%s, %v) = %v, %v", textOf(tubes), depths, fits, ok)
			}
		}
		depths := [6]int{}
		for i := range depths {
			depths[i] = 1 + source.Intn(4)
		}
		if fits, ok := impl.FitsDepths(r, depths); !ok || fits != fitsModel(tubes, depths) {
			t.Fatalf("FitsDepths(%s, %v) = %v, %v", textOf(tubes), depths, fits, ok)
		}
	}
}

func TestFitsDepthsExamples(t *testing.T) {
	for _, c := range []struct {
		text   string
		depths [6]int
		want   bool
	}{
		{"..../..../..../..../..../....", [6]int{1, 1, 1, 1, 1, 1}, true},
		{"a.../..../..../..../..../b...", [6]int{1, 1, 1, 1, 1, 1}, true},
		{"aa../..../..../..../..../b...", [6]int{1, 4, 4, 4, 4, 4}, false},
		{"a.../..../..../..../..../bb..", [6]int{4, 4, 4, 4, 4, 1}, false},
		{"abaa/b.../aa../..../..../....", [6]int{4, 4, 2, 4, 4, 4}, true},
		{"abaa/b.../aa../..../..../....", [6]int{4, 1, 2, 1, 1, 1}, true},
		{"abaa/b.../aa../..../..../....", [6]int{3, 4, 4, 4, 4, 4}, false},
		{"abaa/b.../aa../..../..../....", [6]int{4, 4, 1, 4, 4, 4}, false},
		{"aaaa/abcd/eeee/cccc/dddd/bbbb", [6]int{4, 4, 4, 4, 4, 4}, true},
		{"aaaa/abcd/eeee/cccc/dddd/bbbb", [6]int{4, 4, 4, 3, 4, 4}, false},
	} {
		if fits, ok := impl.FitsDepths(rackOf(tubesOf(t, c.text)), c.depths); !ok || fits != c.want {
			t.Errorf("FitsDepths(%s, %v) = %v, %v", c.text, c.depths, fits, ok)
		}
	}
}

// checkPourBy holds one pour by a rule against the model; the tubes are valid for the depths.
func checkPourBy(t *testing.T, tubes [6]string, depths [6]int, rule int, i int, j int) {
	t.Helper()
	r := rackOf(tubes)
	behind, moved, ok := impl.PourBy(r, depths, rule, i, j)
	want := movedBy(rule, tubes[i], tubes[j], depths[j])
	if want == 0 || i == j {
		if ok || moved != 0 || behind != (impl.Rack{}) {
			t.Fatalf("PourBy(%s, %v, %d, %d, %d) = %v, %d, %v", textOf(tubes), depths, rule, i, j, behind, moved, ok)
		}
		return
	}
	cut := len(tubes[i]) - want
	next := tubes
	next[i], next[j] = tubes[i][:cut], tubes[j]+tubes[i][cut:]
	if !ok || moved != want || behind != rackOf(next) || !impl.IsRack(behind) {
		t.Fatalf("PourBy(%s, %v, %d, %d, %d) = %v, %d, %v", textOf(tubes), depths, rule, i, j, behind, moved, ok)
	}
	if fits, fine := impl.FitsDepths(behind, depths); !fine || !fits {
		t.Fatalf("PourBy(%s, %v, %d, %d, %d) = %v, for which the depths are not valid", textOf(tubes), depths, rule, i, j, behind)
	}
}

func TestPourByOfEachTwoTubes(t *testing.T) {
	texts := textsOver("ab", 4)
	places := [][2]int{{0, 1}, {1, 0}, {0, 5}, {5, 0}, {2, 4}, {4, 3}, {3, 5}}
	for m, from := range texts {
		for n, to := range texts {
			p := places[(m+n)%len(places)]
			tubes := [6]string{"aabb", "", "c", "dddd", "ab", "e"}
			tubes[p[0]], tubes[p[1]] = from, to
			for depth := max(len(to), 1); depth <= 4; depth++ {
				for _, rule := range allRules {
					depths := tightDepths(tubes)
					depths[p[1]] = depth
					checkPourBy(t, tubes, depths, rule, p[0], p[1])
					depths[p[0]] = 4
					checkPourBy(t, tubes, depths, rule, p[0], p[1])
				}
			}
		}
	}
}

func TestPourByOfEachTwoPlaces(t *testing.T) {
	source := rand.New(rand.NewSource(82))
	for _, tubes := range someTubes(150) {
		for _, depths := range someDepths(source, tubes) {
			for _, rule := range allRules {
				for i := range impl.Tubes {
					for j := range impl.Tubes {
						checkPourBy(t, tubes, depths, rule, i, j)
					}
				}
			}
		}
	}
}

func TestPourByExamples(t *testing.T) {
	deep := func(i int, depth int) [6]int {
		depths := plainDepths
		depths[i] = depth
		return depths
	}
	for _, c := range []struct {
		name, text string
		depths     [6]int
		moved      [5]int
	}{
		{"onto the same color", "baa./a.../..../..../..../....", plainDepths, [5]int{0, 2, 1, 2, 1}},
		{"a top that fits just", "baa./a.../..../..../..../....", deep(1, 3), [5]int{0, 2, 1, 2, 1}},
		{"a top that fits in part", "baa./a.../..../..../..../....", deep(1, 2), [5]int{0, 1, 1, 0, 1}},
		{"onto a full tube", "baa./a.../..../..../..../....", deep(1, 1), [5]int{}},
		{"onto another color", "baa./b.../..../..../..../....", plainDepths, [5]int{4: 1}},
		{"onto another color with little room", "baa./b.../..../..../..../....", deep(1, 2), [5]int{4: 1}},
		{"onto another color and full", "baa./b.../..../..../..../....", deep(1, 1), [5]int{}},
		{"onto an empty tube", "baaa/..../..../..../..../....", plainDepths, [5]int{0, 3, 1, 3, 1}},
		{"onto an empty tube of little depth", "baaa/..../..../..../..../....", deep(1, 2), [5]int{0, 2, 1, 0, 1}},
		{"onto an empty tube of the least depth", "baaa/..../..../..../..../....", deep(1, 1), [5]int{0, 1, 1, 0, 1}},
		{"one layer into the least depth", "ba../..../..../..../..../....", deep(1, 1), [5]int{0, 1, 1, 1, 1}},
		{"one color onto an empty tube", "aaaa/..../..../..../..../....", plainDepths, [5]int{0, 4, 1, 4, 1}},
		{"one color into the least depth", "aaaa/..../..../..../..../....", deep(1, 1), [5]int{0, 1, 1, 0, 1}},
		{"from an empty tube", "..../a.../..../..../..../....", plainDepths, [5]int{}},
		{"both empty", "..../..../..../..../..../....", plainDepths, [5]int{}},
		{"both full", "aaaa/aaaa/..../..../..../....", plainDepths, [5]int{}},
		{"from a tube of the least depth", "a.../ba../..../..../..../....", deep(0, 1), [5]int{0, 1, 1, 1, 1}},
	} {
		for _, rule := range allRules {
			_, moved, ok := impl.PourBy(rackOf(tubesOf(t, c.text)), c.depths, rule, 0, 1)
			if ok != (c.moved[rule] > 0) || moved != c.moved[rule] {
				t.Error(c.name, "by the rule", rule, moved, ok)
			}
			checkPourBy(t, tubesOf(t, c.text), c.depths, rule, 0, 1)
		}
	}
}

// With all depths Depth the first rule is that of chapter 2.
func TestRulePourIsPour(t *testing.T) {
	for _, tubes := range boundTubes(t) {
		r := rackOf(tubes)
		for i := -1; i <= impl.Tubes; i++ {
			for j := -1; j <= impl.Tubes; j++ {
				next, moved, ok := impl.Pour(r, i, j)
				by, many, fine := impl.PourBy(r, plainDepths, impl.RulePour, i, j)
				if next != by || moved != many || ok != fine {
					t.Fatalf("PourBy(%s, %d, %d) = %v, %d, %v, not %v, %d, %v", textOf(tubes), i, j, by, many, fine, next, moved, ok)
				}
			}
		}
		all, _ := impl.PoursOf(r)
		if pours, ok := impl.PoursBy(r, plainDepths, impl.RulePour); !ok || !slices.Equal(pours, all) {
			t.Fatalf("PoursBy(%s) = %v, %v, not %v", textOf(tubes), pours, ok, all)
		}
	}
}

// checkLists holds all lists of pours against the model.
func checkLists(t *testing.T, tubes [6]string, depths [6]int) {
	t.Helper()
	r := rackOf(tubes)
	var by [5][][2]int
	counts := [5]int{}
	for _, rule := range allRules {
		by[rule] = poursOf(modelBy(tubes, depths, rule))
		counts[rule] = len(by[rule])
		if got, ok := impl.PoursBy(r, depths, rule); !ok || !slices.Equal(got, by[rule]) {
			t.Fatalf("PoursBy(%s, %v, %d) = %v, %v, not %v", textOf(tubes), depths, rule, got, ok, by[rule])
		}
	}
	if got, ok := impl.CountRules(r, depths); !ok || got != counts {
		t.Fatalf("CountRules(%s, %v) = %v, %v, not %v", textOf(tubes), depths, got, ok, counts)
	}
	var common, same [][2]int
	for _, p := range by[impl.RulePour] {
		if slices.Contains(by[impl.RuleDrop], p) && slices.Contains(by[impl.RuleStrict], p) && slices.Contains(by[impl.RuleLoose], p) {
			common = append(common, p)
		}
		if topSize(tubes[p[0]]) == 1 {
			same = append(same, p)
		}
	}
	if got, ok := impl.CommonPours(r, depths); !ok || !slices.Equal(got, common) {
		t.Fatalf("CommonPours(%s, %v) = %v, %v, not %v", textOf(tubes), depths, got, ok, common)
	}
	if got, ok := impl.SamePours(r, depths); !ok || !slices.Equal(got, same) {
		t.Fatalf("SamePours(%s, %v) = %v, %v, not %v", textOf(tubes), depths, got, ok, same)
	}
}

func TestListsOfPours(t *testing.T) {
	source := rand.New(rand.NewSource(83))
	for _, tubes := range boundTubes(t) {
		for _, depths := range someDepths(source, tubes) {
			checkLists(t, tubes, depths)
		}
	}
}

// What is possible by one rule is so by others, as the guarantee of the chapter says.
func TestRulesAgainstEachOther(t *testing.T) {
	source := rand.New(rand.NewSource(84))
	strict, part := 0, 0
	for _, tubes := range boundTubes(t) {
		r := rackOf(tubes)
		for _, depths := range someDepths(source, tubes) {
			var by [5][][2]int
			for _, rule := range allRules {
				by[rule], _ = impl.PoursBy(r, depths, rule)
			}
			if !slices.Equal(by[impl.RuleDrop], by[impl.RulePour]) {
				t.Fatalf("%s, %v: %v by the first rule, %v by the second one", textOf(tubes), depths, by[impl.RulePour], by[impl.RuleDrop])
			}
			for _, p := range by[impl.RuleStrict] {
				if !slices.Contains(by[impl.RulePour], p) {
					t.Fatalf("%s, %v: %v by the third rule only", textOf(tubes), depths, p)
				}
			}
			for _, p := range by[impl.RulePour] {
				if !slices.Contains(by[impl.RuleLoose], p) {
					t.Fatalf("%s, %v: %v by the first rule, but not by the fourth one", textOf(tubes), depths, p)
				}
			}
			strict += len(by[impl.RuleStrict])
			part += len(by[impl.RulePour]) - len(by[impl.RuleStrict])
		}
	}
	if strict < 1000 || part < 1000 {
		t.Error("too few pours of whole tops and of tops in part:", strict, part)
	}
}

func TestListsOfPoursExamples(t *testing.T) {
	ones := [6]int{1, 1, 1, 1, 1, 1}
	for _, c := range []struct {
		text         string
		depths       [6]int
		counts       [5]int
		common, same [][2]int
	}{
		{"..../..../..../..../..../....", plainDepths, [5]int{}, nil, nil},
		{"..../..../..../..../..../....", ones, [5]int{}, nil, nil},
		{"a.../b.../c.../d.../e.../a...", ones, [5]int{}, nil, nil},
		{"a.../b.../c.../d.../e.../a...", [6]int{1, 1, 1, 1, 1, 2}, [5]int{0, 1, 1, 1, 5}, [][2]int{{0, 5}}, [][2]int{{0, 5}}},
		{"a.../b.../c.../d.../..../a...", ones, [5]int{0, 5, 5, 5, 5}, [][2]int{{0, 4}, {1, 4}, {2, 4}, {3, 4}, {5, 4}}, [][2]int{{0, 4}, {1, 4}, {2, 4}, {3, 4}, {5, 4}}},
		{"aa../..../b.../bb../bbbb/bbbb", [6]int{4, 1, 2, 2, 4, 4}, [5]int{0, 8, 8, 1, 13}, [][2]int{{2, 1}}, [][2]int{{2, 1}}},
		{"aaaa/bbbb/cccc/dddd/eeee/abcd", plainDepths, [5]int{}, nil, nil},
	} {
		tubes := tubesOf(t, c.text)
		checkLists(t, tubes, c.depths)
		r := rackOf(tubes)
		counts, one := impl.CountRules(r, c.depths)
		common, two := impl.CommonPours(r, c.depths)
		same, three := impl.SamePours(r, c.depths)
		if !one || !two || !three || counts != c.counts || !slices.Equal(common, c.common) || !slices.Equal(same, c.same) {
			t.Errorf("%s, %v: %v, %v, %v", c.text, c.depths, counts, common, same)
		}
	}
}

// SamePours compares Racks; here they are compared by their pours.
func TestSamePoursLeadToTheSameRack(t *testing.T) {
	source := rand.New(rand.NewSource(85))
	for _, tubes := range boundTubes(t) {
		r := rackOf(tubes)
		for _, depths := range someDepths(source, tubes) {
			same, _ := impl.SamePours(r, depths)
			pours, _ := impl.PoursBy(r, depths, impl.RulePour)
			for _, p := range pours {
				first, _, one := impl.PourBy(r, depths, impl.RulePour, p[0], p[1])
				second, _, two := impl.PourBy(r, depths, impl.RuleDrop, p[0], p[1])
				third, _, three := impl.PourBy(r, depths, impl.RuleStrict, p[0], p[1])
				if is := one && two && three && first == second && first == third; is != slices.Contains(same, p) {
					t.Fatalf("SamePours(%s, %v) = %v, and %v is %v", textOf(tubes), depths, same, p, is)
				}
			}
		}
	}
}

// levelsBy returns for 0, 1, .. most pours by a rule all tubes that so many lead to, whether or not
// fewer do.
func levelsBy(tubes [6]string, depths [6]int, rule int, most int) []map[[6]string]bool {
	levels := []map[[6]string]bool{{tubes: true}}
	for n := range most {
		next := map[[6]string]bool{}
		for at := range levels[n] {
			for _, p := range modelBy(at, depths, rule) {
				next[p.tubes] = true
			}
		}
		levels = append(levels, next)
	}
	return levels
}

// checkFewestBy holds FewestBy and ReachBy against the model, and returns what is the fewest, -1 if
// 3 pours are not enough.
func checkFewestBy(t *testing.T, tubes [6]string, depths [6]int, rule int) int {
	t.Helper()
	r := rackOf(tubes)
	fewest := -1
	seen := map[[6]string]bool{}
	for n, level := range levelsBy(tubes, depths, rule, 3) {
		for at := range level {
			seen[at] = true
			if fewest < 0 && isSortedModel(at) {
				fewest = n
			}
		}
		if n > 2 {
			break
		}
		if got, ok := impl.ReachBy(r, depths, rule, n); !ok || got != len(seen) {
			t.Fatalf("ReachBy(%s, %v, %d, %d) = %d, %v, not %d", textOf(tubes), depths, rule, n, got, ok, len(seen))
		}
	}
	got, ok := impl.FewestBy(r, depths, rule)
	if ok != (fewest >= 0) || got != max(fewest, 0) {
		t.Fatalf("FewestBy(%s, %v, %d) = %d, %v, not %d", textOf(tubes), depths, rule, got, ok, fewest)
	}
	return fewest
}

func TestFewestByAndReachBy(t *testing.T) {
	source := rand.New(rand.NewSource(86))
	all := slices.Concat(specialTubes(t), smallTubes(), someTubes(40), dealtTubes(60))
	var found [5][5]int
	for k, tubes := range all {
		depths := someDepths(source, tubes)
		rule := allRules[k%4]
		found[rule][checkFewestBy(t, tubes, depths[k/4%4], rule)+1]++
	}
	for _, rule := range allRules {
		if slices.Min(found[rule][:]) == 0 {
			t.Error("not each number of pours by each rule:", found)
		}
	}
}

func TestFewestByExamples(t *testing.T) {
	for _, c := range []struct {
		name, text string
		depths     [6]int
		fewest     [5]int // -1 if 3 pours are not enough
	}{
		{"the empty Rack", "..../..../..../..../..../....", plainDepths, [5]int{}},
		{"the empty Rack in the least depths", "..../..../..../..../..../....", [6]int{1, 1, 1, 1, 1, 1}, [5]int{}},
		{"sorted", "aaaa/bbb./..../c.../..../....", plainDepths, [5]int{}},
		{"sorted and full", "aaaa/bbb./..../c.../..../....", [6]int{4, 3, 1, 1, 1, 1}, [5]int{}},
		{"one pour", "ab../b.../..../..../..../....", plainDepths, [5]int{0, 1, 1, 1, 1}},
		{"two layers", "abb./b.../..../..../..../....", plainDepths, [5]int{0, 1, 2, 1, 2}},
		{"two layers and little room", "abb./b.../..../..../..../....", [6]int{4, 2, 4, 4, 4, 4}, [5]int{0, 2, 3, 2, 3}},
		{"two layers and room for one", "abb./b.../..../..../..../....", [6]int{4, 2, 1, 1, 1, 1}, [5]int{0, -1, -1, -1, -1}},
		{"three layers", "abbb/b.../..../..../..../....", plainDepths, [5]int{0, 1, 3, 1, 3}},
		{"the same color below", "ab../b.../a.../..../..../....", plainDepths, [5]int{0, 2, 2, 2, 2}},
		{"only idle pours help", "aa../aa../..../..../..../....", [6]int{2, 2, 4, 1, 1, 1}, [5]int{0, 2, -1, 2, -1}},
		{"nothing helps", "aa../aa../..../..../..../....", [6]int{2, 2, 3, 3, 3, 3}, [5]int{0, -1, -1, -1, -1}},
		{"nothing can be poured", "a.../a.../b.../c.../d.../e...", [6]int{1, 1, 1, 1, 1, 1}, [5]int{0, -1, -1, -1, -1}},
		{"three pours", "ab../ba../..../..../..../....", plainDepths, [5]int{0, 3, 3, 3, 3}},
		{"four pours", "ab../bc../ca../..../..../....", plainDepths, [5]int{0, -1, -1, -1, -1}},
		{"two colors in two tubes each", "ab../b.../c.../c.../..../....", plainDepths, [5]int{0, 2, 2, 2, 2}},
		{"any color onto another one", "a.../ba../b.../c.../d.../e...", [6]int{1, 2, 2, 1, 1, 1}, [5]int{0, -1, -1, -1, -1}},
	} {
		for _, rule := range allRules {
			got := checkFewestBy(t, tubesOf(t, c.text), c.depths, rule)
			if got != c.fewest[rule] {
				t.Error(c.name, "by the rule", rule, got)
			}
		}
	}
}

func TestReachByExamples(t *testing.T) {
	ones := [6]int{1, 1, 1, 1, 1, 1}
	for _, c := range []struct {
		name, text string
		depths     [6]int
		rule       int
		reach      [3]int
	}{
		{"the empty Rack", "..../..../..../..../..../....", plainDepths, impl.RuleLoose, [3]int{1, 1, 1}},
		{"one layer, back and on", "a.../..../..../..../..../....", plainDepths, impl.RulePour, [3]int{1, 6, 6}},
		{"one layer in the least depths", "a.../..../..../..../..../....", ones, impl.RuleStrict, [3]int{1, 6, 6}},
		{"two layers dropped", "aa../..../..../..../..../....", plainDepths, impl.RuleDrop, [3]int{1, 6, 21}},
		{"two layers loose", "ab../..../..../..../..../....", plainDepths, impl.RuleLoose, [3]int{1, 6, 31}},
		{"two layers poured", "ab../..../..../..../..../....", plainDepths, impl.RulePour, [3]int{1, 6, 26}},
		{"two layers that do not fit", "aa../..../..../..../..../....", [6]int{2, 1, 1, 1, 1, 1}, impl.RuleStrict, [3]int{1, 1, 1}},
		{"all full", "a.../b.../c.../d.../e.../a...", ones, impl.RuleLoose, [3]int{1, 1, 1}},
	} {
		for n, want := range c.reach {
			if got, ok := impl.ReachBy(rackOf(tubesOf(t, c.text)), c.depths, c.rule, n); !ok || got != want {
				t.Error(c.name, n, got, ok)
			}
		}
		checkFewestBy(t, tubesOf(t, c.text), c.depths, c.rule)
	}
}

func TestReachByFailsForOtherNumbers(t *testing.T) {
	for _, text := range []string{"..../..../..../..../..../....", "ab../b.../a.../..../..../...."} {
		for _, rule := range allRules {
			for _, n := range []int{-1, 3, 4, 256, math.MaxInt, math.MinInt, 1 << 32} {
				if got, ok := impl.ReachBy(rackOf(tubesOf(t, text)), plainDepths, rule, n); ok || got != 0 {
					t.Errorf("ReachBy(%s, %d, %d) = %d, %v", text, rule, n, got, ok)
				}
			}
		}
	}
}

// dropsUntil pours by the second rule until there is a Rack, at most 4 times.
func dropsUntil(r impl.Rack, depths [6]int, i int, j int, goal impl.Rack) int {
	for n := range 5 {
		if r == goal {
			return n
		}
		r, _, _ = impl.PourBy(r, depths, impl.RuleDrop, i, j)
	}
	return -1
}

func TestDropsForAndTurnBack(t *testing.T) {
	source := rand.New(rand.NewSource(87))
	var many [5]int
	for _, tubes := range boundTubes(t) {
		r := rackOf(tubes)
		for _, depths := range someDepths(source, tubes) {
			for i := range impl.Tubes {
				for j := range impl.Tubes {
					goal, moved, ok := impl.PourBy(r, depths, impl.RulePour, i, j)
					drops, fine := impl.DropsFor(r, depths, i, j)
					if fine != ok || drops != moved || ok && drops != dropsUntil(r, depths, i, j, goal) {
						t.Fatalf("DropsFor(%s, %v, %d, %d) = %d, %v", textOf(tubes), depths, i, j, drops, fine)
					}
					many[drops]++
					_, _, loose := impl.PourBy(r, depths, impl.RuleLoose, i, j)
					back, turned := impl.TurnBack(r, depths, i, j)
					if turned != loose || turned && back != r || !turned && back != (impl.Rack{}) {
						t.Fatalf("TurnBack(%s, %v, %d, %d) = %v, %v", textOf(tubes), depths, i, j, back, turned)
					}
				}
			}
		}
	}
	if slices.Min(many[:]) == 0 {
		t.Error("not each number of drops:", many)
	}
}

func TestDropsForAndTurnBackExamples(t *testing.T) {
	for _, c := range []struct {
		name, text string
		depths     [6]int
		drops      int
		loose      bool
	}{
		{"a whole top", "baaa/a.../..../..../..../....", plainDepths, 3, true},
		{"a top in part", "baaa/a.../..../..../..../....", [6]int{4, 3, 1, 1, 1, 1}, 2, true},
		{"idle", "aaaa/..../..../..../..../....", plainDepths, 4, true},
		{"into the least depth", "aaaa/..../..../..../..../....", [6]int{4, 1, 1, 1, 1, 1}, 1, true},
		{"onto another color", "baaa/b.../..../..../..../....", plainDepths, 0, true},
		{"no room", "baaa/a.../..../..../..../....", [6]int{4, 1, 4, 4, 4, 4}, 0, false},
		{"from an empty tube", "..../a.../..../..../..../....", plainDepths, 0, false},
	} {
		tubes := tubesOf(t, c.text)
		r := rackOf(tubes)
		drops, ok := impl.DropsFor(r, c.depths, 0, 1)
		if ok != (c.drops > 0) || drops != c.drops {
			t.Error(c.name, drops, ok)
		}
		want := impl.Rack{}
		if c.loose {
			want = r
		}
		if back, ok := impl.TurnBack(r, c.depths, 0, 1); ok != c.loose || back != want {
			t.Error(c.name, back, ok)
		}
	}
}

func callsOfDepths(r impl.Rack, depths [6]int) []rackCall {
	common, ok1 := impl.CommonPours(r, depths)
	same, ok2 := impl.SamePours(r, depths)
	counts, ok3 := impl.CountRules(r, depths)
	return []rackCall{
		{"CommonPours", ok1, len(common) == 0}, {"SamePours", ok2, len(same) == 0}, {"CountRules", ok3, counts == [5]int{}},
	}
}

func callsOfRule(r impl.Rack, depths [6]int, rule int) []rackCall {
	pours, ok1 := impl.PoursBy(r, depths, rule)
	fewest, ok2 := impl.FewestBy(r, depths, rule)
	calls := []rackCall{{"PoursBy", ok1, len(pours) == 0}, {"FewestBy", ok2, fewest == 0}}
	for n := -1; n <= 3; n++ {
		reach, ok := impl.ReachBy(r, depths, rule, n)
		calls = append(calls, rackCall{"ReachBy", ok, reach == 0})
	}
	return calls
}

func callsOfRulePour(r impl.Rack, depths [6]int, rule int, i int, j int) []rackCall {
	behind, moved, ok := impl.PourBy(r, depths, rule, i, j)
	return []rackCall{{"PourBy", ok, behind == impl.Rack{} && moved == 0}}
}

func callsOfDepthPour(r impl.Rack, depths [6]int, i int, j int) []rackCall {
	drops, ok1 := impl.DropsFor(r, depths, i, j)
	back, ok2 := impl.TurnBack(r, depths, i, j)
	return []rackCall{{"DropsFor", ok1, drops == 0}, {"TurnBack", ok2, back == impl.Rack{}}}
}

// allOtherCalls makes all calls that there are of a Rack, depths and a pour.
func allOtherCalls(r impl.Rack, depths [6]int, i int, j int) []rackCall {
	calls := slices.Concat(callsOfDepths(r, depths), callsOfDepthPour(r, depths, i, j))
	for _, rule := range allRules {
		calls = slices.Concat(calls, callsOfRule(r, depths, rule), callsOfRulePour(r, depths, rule, i, j))
	}
	return calls
}

func TestOtherFunctionsFailForBadRacks(t *testing.T) {
	for _, r := range badRacks() {
		for _, depths := range [][6]int{plainDepths, {1, 1, 1, 1, 1, 1}, {4, 3, 4, 4, 2, 4}} {
			fits, ok := impl.FitsDepths(r, depths)
			wantFailed(t, append(allOtherCalls(r, depths, 1, 4), rackCall{"FitsDepths", ok, !fits}), r, depths)
		}
	}
}

func TestOtherFunctionsFailForBadDepths(t *testing.T) {
	for _, tubes := range [][6]string{{}, {"a", "", "b"}, {"abaa", "b", "aa"}, {"aaaa", "aaaa", "aaaa", "aaaa", "aaaa", "aa"}} {
		r := rackOf(tubes)
		for _, depths := range badDepths() {
			fits, ok := impl.FitsDepths(r, depths)
			wantFailed(t, append(allOtherCalls(r, depths, 0, 5), rackCall{"FitsDepths", ok, !fits}), textOf(tubes), depths)
		}
	}
}

func TestOtherFunctionsFailForRacksThatDoNotFit(t *testing.T) {
	for _, tubes := range someTubes(30) {
		for _, depths := range unfitDepths(tubes) {
			wantFailed(t, allOtherCalls(rackOf(tubes), depths, 3, 2), textOf(tubes), depths)
		}
	}
	// The tubes of these pours fit, and another one does not.
	wantFailed(t, allOtherCalls(rackOf([6]string{"a", "", "bb"}), [6]int{1, 1, 1, 4, 4, 4}, 0, 1))
}

func TestOtherFunctionsFailForOuterRules(t *testing.T) {
	for _, tubes := range someTubes(10) {
		r := rackOf(tubes)
		for _, rule := range outerRules {
			wantFailed(t, callsOfRule(r, plainDepths, rule), textOf(tubes), rule)
			for i := range impl.Tubes {
				for j := range impl.Tubes {
					wantFailed(t, callsOfRulePour(r, plainDepths, rule, i, j), textOf(tubes), rule, i, j)
				}
			}
		}
	}
}

func TestOtherPoursFailForOuterPlaces(t *testing.T) {
	for _, tubes := range someTubes(50) {
		r := rackOf(tubes)
		for _, depths := range [][6]int{plainDepths, tightDepths(tubes)} {
			for _, p := range outerPours() {
				wantFailed(t, callsOfDepthPour(r, depths, p[0], p[1]), textOf(tubes), depths, p)
				for _, rule := range slices.Concat(allRules, outerRules) {
					wantFailed(t, callsOfRulePour(r, depths, rule, p[0], p[1]), textOf(tubes), depths, rule, p)
				}
			}
		}
	}
}

func TestOtherFunctionsKeepTheirArguments(t *testing.T) {
	source := rand.New(rand.NewSource(88))
	for _, tubes := range someTubes(30) {
		for _, depths := range someDepths(source, tubes) {
			r, kept := rackOf(tubes), depths
			first := allOtherCalls(r, depths, 0, 3)
			if r != rackOf(tubes) || depths != kept {
				t.Fatalf("%s, %v is now %v, %v", textOf(tubes), kept, r, depths)
			}
			if again := allOtherCalls(r, depths, 0, 3); !slices.Equal(again, first) {
				t.Fatalf("%s, %v: %v, and then %v", textOf(tubes), depths, first, again)
			}
		}
	}
}

func TestOtherResultsShareNoMemory(t *testing.T) {
	r := rackOf(tubesOf(t, "abaa/b.../aa../..../..../...."))
	other := [2]int{-7, -7}
	for _, rule := range allRules {
		checkOwnMemory(t, "PoursBy", other, func() ([][2]int, bool) { return impl.PoursBy(r, plainDepths, rule) })
	}
	checkOwnMemory(t, "CommonPours", other, func() ([][2]int, bool) { return impl.CommonPours(r, plainDepths) })
	checkOwnMemory(t, "SamePours", other, func() ([][2]int, bool) { return impl.SamePours(r, plainDepths) })
}

// Where all tubes have layers and room, loose pours lead to the most Racks.
func TestSearchesOfManyRacks(t *testing.T) {
	for _, text := range []string{"ab../bc../cd../de../ea../ac..", "abc./abd./ace./b.../cd../be.."} {
		for _, rule := range allRules {
			checkFewestBy(t, tubesOf(t, text), plainDepths, rule)
		}
	}
}
