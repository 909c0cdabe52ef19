package tests

import (
	"math"
	"math/rand"
	"slices"
	"strings"
	"testing"

	"loop.example/g01215/impl"
)

// The ways are held against a model on the texts of tubes (see l2_racks_test.go), which counts the
// lists of pours of some length that end sorted, and knows nothing of searches from their end.

type modelStep struct {
	pour  [2]int
	tubes [6]string
}

// modelSteps returns all useful pours and the tubes behind them.
func modelSteps(tubes [6]string) []modelStep {
	var steps []modelStep
	for i := range tubes {
		for j := range tubes {
			from, to, moved := poured(tubes[i], tubes[j])
			if i == j || moved == 0 || isPlainTube(tubes[i]) && tubes[j] == "" {
				continue
			}
			next := tubes
			next[i], next[j] = from, to
			steps = append(steps, modelStep{[2]int{i, j}, next})
		}
	}
	return steps
}

func modelForm(tubes [6]string) [6]string {
	slices.Sort(tubes[:])
	return tubes
}

// modelLevels returns for 0, 1, 2, .. pours all forms that are not reached by fewer of them, up to
// the first level with which they are more than 600.
func modelLevels(tubes [6]string) [][][6]string {
	first := modelForm(tubes)
	seen := map[[6]string]bool{first: true}
	levels := [][][6]string{{first}}
	for len(seen) <= 600 {
		var next [][6]string
		for _, f := range levels[len(levels)-1] {
			for _, s := range modelSteps(f) {
				if g := modelForm(s.tubes); !seen[g] {
					seen[g] = true
					next = append(next, g)
				}
			}
		}
		if len(next) == 0 {
			break
		}
		levels = append(levels, next)
	}
	return levels
}

// modelUpTo counts the forms up to n.
func modelUpTo(levels [][][6]string, n int) int {
	sum := 0
	for _, level := range levels[:min(n+1, len(levels))] {
		sum += len(level)
	}
	return sum
}

// modelSearch returns the level with a wanted form, or -1, and whether a search for it succeeds.
func modelSearch(levels [][][6]string, wanted func([6]string) bool) (int, bool) {
	for n, level := range levels {
		if slices.ContainsFunc(level, wanted) {
			return n, modelUpTo(levels, n) <= 600
		}
	}
	return -1, modelUpTo(levels, len(levels)) <= 600
}

// wayCounter counts lists of pours; what it has counted it knows for all Racks of a form.
type wayCounter map[wayKey]int

type wayKey struct {
	form [6]string
	n    int
}

// count returns the number of lists of n pours that end sorted.
func (c wayCounter) count(tubes [6]string, n int) int {
	if n == 0 {
		if isSortedModel(tubes) {
			return 1
		}
		return 0
	}
	key := wayKey{modelForm(tubes), n}
	sum, known := c[key]
	if !known {
		for _, s := range modelSteps(key.form) {
			sum += c.count(s.tubes, n-1)
		}
		c[key] = sum
	}
	return sum
}

// best returns the pours with which lists of n pours that end sorted begin.
func (c wayCounter) best(tubes [6]string, n int) []modelStep {
	var best []modelStep
	for _, s := range modelSteps(tubes) {
		if n > 0 && c.count(s.tubes, n-1) > 0 {
			best = append(best, s)
		}
	}
	return best
}

func poursOfSteps(steps []modelStep) [][2]int {
	var pours [][2]int
	for _, s := range steps {
		pours = append(pours, s.pour)
	}
	return pours
}

// dealtTubes returns the same tubes in each run: at most four layers of each color, shuffled, so
// that there mostly is a way. A third of them has four of each of many colors in full tubes.
func dealtTubes(n int) [][6]string {
	source := rand.New(rand.NewSource(3))
	var all [][6]string
	for len(all) < n {
		full := source.Intn(3) == 0
		colors := 1 + source.Intn(5)
		if full {
			colors = 4 + source.Intn(2)
		}
		var layers []byte
		for c := range colors {
			many := 1 + source.Intn(4)
			if full {
				many = 4
			}
			layers = append(layers, strings.Repeat(modelColors[c:c+1], many)...)
		}
		source.Shuffle(len(layers), func(i, j int) { layers[i], layers[j] = layers[j], layers[i] })
		depth := 1 + source.Intn(4)
		if full || len(layers) > 6*depth {
			depth = 4
		}
		tubes := [6]string{}
		for k, c := range layers {
			tubes[k/depth] += string(c)
		}
		source.Shuffle(6, func(i, j int) { tubes[i], tubes[j] = tubes[j], tubes[i] })
		all = append(all, tubes)
	}
	return all
}

func tubesOf(t *testing.T, text string) [6]string {
	t.Helper()
	parts := strings.Split(strings.ReplaceAll(text, ".", ""), "/")
	if len(parts) != 6 || !impl.IsRack(rackOf([6]string(parts))) {
		t.Fatalf("%q is no Rack", text)
	}
	return [6]string(parts)
}

// smallTubes returns all three tubes of at most two layers of two colors, among empty ones.
func smallTubes() [][6]string {
	var all [][6]string
	texts := textsOver("ab", 2)
	for _, x := range texts {
		for _, y := range texts {
			for _, z := range texts {
				all = append(all, [6]string{"", x, y, "", z})
			}
		}
	}
	return all
}

func TestWayConstants(t *testing.T) {
	if impl.MaxReach != 600 {
		t.Error(impl.MaxReach)
	}
}

func TestFormOf(t *testing.T) {
	for n, tubes := range someTubes(3000) {
		r := rackOf(tubes)
		got, ok := impl.FormOf(r)
		if !ok || got != rackOf(modelForm(tubes)) {
			t.Fatalf("FormOf(%s) = %v, %v", textOf(tubes), got, ok)
		}
		swapped, _ := impl.SwapTubes(r, n%6, n/6%6)
		if other, ok := impl.FormOf(swapped); !ok || other != got {
			t.Fatalf("FormOf(%s) = %v, %v with two tubes exchanged, not %v", textOf(tubes), other, ok, got)
		}
		if again, ok := impl.FormOf(got); !ok || again != got {
			t.Fatalf("FormOf(%v) = %v, %v", got, again, ok)
		}
	}
}

func TestFormOfExamples(t *testing.T) {
	for _, c := range [][2]string{
		{"..../..../..../..../..../....", "..../..../..../..../..../...."},
		{"b.../..../ab../a.../..../aba.", "..../..../a.../ab../aba./b..."},
		{"eeee/dddd/cccc/bbbb/aaaa/....", "..../aaaa/bbbb/cccc/dddd/eeee"},
		{"abcd/abcc/abbe/aaee/aeee/a...", "a.../aaee/abbe/abcc/abcd/aeee"},
		{"a.../b.../a.../b.../a.../b...", "a.../a.../a.../b.../b.../b..."},
	} {
		r, _ := impl.ParseRack(c[0])
		form, ok := impl.FormOf(r)
		if text, _ := impl.RackText(form); !ok || text != c[1] {
			t.Errorf("FormOf(%s) = %s, %v", c[0], text, ok)
		}
	}
}

// checkReached holds CountReached and ReachedAll against what the model has reached.
func checkReached(t *testing.T, tubes [6]string, levels [][][6]string) {
	t.Helper()
	r := rackOf(tubes)
	last := 0
	for n := range 10 {
		want := modelUpTo(levels, n)
		fine := want <= 600
		if !fine {
			want = 0
		}
		got, ok := impl.CountReached(r, n)
		if ok != fine || got != want {
			t.Fatalf("CountReached(%s, %d) = %d, %v, not %d, %v", textOf(tubes), n, got, ok, want, fine)
		}
		if ok && got < last {
			t.Fatalf("CountReached(%s, %d) = %d, but %d for one pour less", textOf(tubes), n, got, last)
		}
		last = got
	}
	want := modelUpTo(levels, len(levels))
	fine := want <= 600
	if !fine {
		want = 0
	}
	all, ok := impl.ReachedAll(r)
	if ok != fine || all != want {
		t.Fatalf("ReachedAll(%s) = %d, %v, not %d, %v", textOf(tubes), all, ok, want, fine)
	}
	if ok && last > all {
		t.Fatalf("ReachedAll(%s) = %d, but CountReached is %d", textOf(tubes), all, last)
	}
}

func TestReachedAgainstTheModel(t *testing.T) {
	for _, tubes := range slices.Concat(someTubes(250), dealtTubes(250)) {
		checkReached(t, tubes, modelLevels(tubes))
	}
}

// racksReached returns for 0, 1, 2, .. pours the forms of all Racks that are reached by at most as
// many, told from the Racks themselves, and not from forms.
func racksReached(tubes [6]string, pours int) []map[[6]string]bool {
	forms := []map[[6]string]bool{{modelForm(tubes): true}}
	racks := map[[6]string]bool{tubes: true}
	last := [][6]string{tubes}
	for range pours {
		up := map[[6]string]bool{}
		for f := range forms[len(forms)-1] {
			up[f] = true
		}
		var next [][6]string
		for _, r := range last {
			for _, s := range modelSteps(r) {
				up[modelForm(s.tubes)] = true
				if !racks[s.tubes] {
					racks[s.tubes] = true
					next = append(next, s.tubes)
				}
			}
		}
		last = next
		forms = append(forms, up)
	}
	return forms
}

func TestReachedOfSmallRacks(t *testing.T) {
	for _, tubes := range append(smallTubes(), dealtTubes(20)...) {
		for n, forms := range racksReached(tubes, 4) {
			if len(forms) > 600 {
				break
			}
			if got, ok := impl.CountReached(rackOf(tubes), n); !ok || got != len(forms) {
				t.Fatalf("CountReached(%s, %d) = %d, %v, not %d", textOf(tubes), n, got, ok, len(forms))
			}
		}
	}
}

// waysOfLength returns all lists of n pours that end sorted, in order.
func waysOfLength(tubes [6]string, n int) [][][2]int {
	if n == 0 {
		if isSortedModel(tubes) {
			return [][][2]int{nil}
		}
		return nil
	}
	var all [][][2]int
	for _, s := range modelSteps(tubes) {
		for _, rest := range waysOfLength(s.tubes, n-1) {
			all = append(all, append([][2]int{s.pour}, rest...))
		}
	}
	return all
}

func TestWaysOfSmallRacks(t *testing.T) {
	found, several := 0, 0
	for _, tubes := range append(smallTubes(), dealtTubes(200)...) {
		var ways [][][2]int
		n := 0
		for ; n <= 4 && len(ways) == 0; n++ {
			ways = waysOfLength(tubes, n)
		}
		if len(ways) == 0 {
			continue
		}
		found++
		var best [][2]int
		for _, way := range ways {
			if len(way) > 0 && !slices.Contains(best, way[0]) {
				best = append(best, way[0])
			}
		}
		if len(best) > 1 {
			several++
		}
		checkWays(t, tubes, n-1, len(ways), ways[0], best)
	}
	if found < 300 || several < 100 {
		t.Error("too few ways:", found, several)
	}
}

// checkWays holds the functions for shortest ways against what they have to return.
func checkWays(t *testing.T, tubes [6]string, fewest int, ways int, first [][2]int, best [][2]int) {
	t.Helper()
	r := rackOf(tubes)
	if can, ok := impl.CanBeSorted(r); !ok || !can {
		t.Fatalf("CanBeSorted(%s) = %v, %v", textOf(tubes), can, ok)
	}
	if n, ok := impl.FewestPours(r); !ok || n != fewest {
		t.Fatalf("FewestPours(%s) = %d, %v, not %d", textOf(tubes), n, ok, fewest)
	}
	if n, ok := impl.CountWays(r); !ok || n != ways {
		t.Fatalf("CountWays(%s) = %d, %v, not %d", textOf(tubes), n, ok, ways)
	}
	way, ok := impl.FirstWay(r)
	if !ok || !slices.Equal(way, first) {
		t.Fatalf("FirstWay(%s) = %v, %v, not %v", textOf(tubes), way, ok, first)
	}
	pours, ok := impl.BestPours(r)
	if !ok || !slices.Equal(pours, best) {
		t.Fatalf("BestPours(%s) = %v, %v, not %v", textOf(tubes), pours, ok, best)
	}
	if len(way) != fewest || fewest > 0 && way[0] != pours[0] {
		t.Fatalf("FirstWay(%s) = %v, with the BestPours %v", textOf(tubes), way, pours)
	}
	end, _, ok := impl.DoPours(r, way)
	if sorted, fine := impl.IsSorted(end); !ok || !fine || !sorted {
		t.Fatalf("DoPours(%s, %v) = %v, %v", textOf(tubes), way, end, ok)
	}
}

// checkSearches holds all functions for shortest ways against the model.
func checkSearches(t *testing.T, tubes [6]string, levels [][][6]string) {
	t.Helper()
	fewest, fits := modelSearch(levels, isSortedModel)
	if !fits || fewest < 0 {
		checkNoWay(t, tubes, fits)
		return
	}
	counter := wayCounter{}
	var first [][2]int
	at := tubes
	for left := fewest; left > 0; left-- {
		s := counter.best(at, left)[0]
		first = append(first, s.pour)
		at = s.tubes
	}
	best := poursOfSteps(counter.best(tubes, fewest))
	checkWays(t, tubes, fewest, counter.count(tubes, fewest), first, best)
}

// checkNoWay looks for the failures of a Rack without a way, or with too many forms.
func checkNoWay(t *testing.T, tubes [6]string, fits bool) {
	t.Helper()
	r := rackOf(tubes)
	if can, ok := impl.CanBeSorted(r); ok != fits || can {
		t.Fatalf("CanBeSorted(%s) = %v, %v", textOf(tubes), can, ok)
	}
	wantFailed(t, callsOfWays(r), textOf(tubes))
	if t.Failed() {
		t.FailNow()
	}
}

// callsOfWays are those that fail without a way.
func callsOfWays(r impl.Rack) []rackCall {
	fewest, ok1 := impl.FewestPours(r)
	way, ok2 := impl.FirstWay(r)
	ways, ok3 := impl.CountWays(r)
	best, ok4 := impl.BestPours(r)
	losing, ok5 := impl.LosingPours(r)
	return []rackCall{
		{"FewestPours", ok1, fewest == 0}, {"FirstWay", ok2, len(way) == 0}, {"CountWays", ok3, ways == 0},
		{"BestPours", ok4, len(best) == 0}, {"LosingPours", ok5, len(losing) == 0},
	}
}

func TestSearchesAgainstTheModel(t *testing.T) {
	without, beyond, most := 0, 0, 0
	for _, tubes := range slices.Concat(someTubes(250), dealtTubes(250)) {
		levels := modelLevels(tubes)
		checkSearches(t, tubes, levels)
		fewest, fits := modelSearch(levels, isSortedModel)
		switch {
		case !fits:
			beyond++
		case fewest < 0:
			without++
		}
		most = max(most, fewest)
	}
	if without < 20 || beyond < 2 || most < 10 {
		t.Error("too few cases:", without, beyond, most)
	}
}

// losingModel returns the pours behind which no sorted form is reached.
func losingModel(tubes [6]string) [][2]int {
	var losing [][2]int
	for _, s := range modelSteps(tubes) {
		if n, _ := modelSearch(modelLevels(s.tubes), isSortedModel); n < 0 {
			losing = append(losing, s.pour)
		}
	}
	return losing
}

func TestLosingPours(t *testing.T) {
	some, none := 0, 0
	for _, tubes := range append(smallTubes(), dealtTubes(400)...) {
		levels := modelLevels(tubes)
		if modelUpTo(levels, len(levels)) > 150 {
			continue
		}
		if n, _ := modelSearch(levels, isSortedModel); n < 0 {
			continue
		}
		want := losingModel(tubes)
		losing, ok := impl.LosingPours(rackOf(tubes))
		if !ok || !slices.Equal(losing, want) {
			t.Fatalf("LosingPours(%s) = %v, %v, not %v", textOf(tubes), losing, ok, want)
		}
		for _, p := range losing {
			next, _, _ := impl.Pour(rackOf(tubes), p[0], p[1])
			if can, ok := impl.CanBeSorted(next); !ok || can {
				t.Fatalf("CanBeSorted(%v) = %v, %v behind the losing pour %v", next, can, ok, p)
			}
		}
		if len(want) > 0 {
			some++
		} else {
			none++
		}
	}
	if some < 10 || none < 100 {
		t.Error("too few losing pours:", some, none)
	}
}

func TestWaysOfSortedRacks(t *testing.T) {
	for _, text := range []string{
		"..../..../..../..../..../....", "aaaa/bbbb/cccc/dddd/eeee/....", "..../e.../..../aa../..../bbb.", "dddd/..../..../..../..../....",
	} {
		tubes := tubesOf(t, text)
		r := rackOf(tubes)
		checkWays(t, tubes, 0, 1, nil, nil)
		checkReached(t, tubes, [][][6]string{{modelForm(tubes)}})
		if losing, ok := impl.LosingPours(r); !ok || len(losing) != 0 {
			t.Errorf("LosingPours(%s) = %v, %v", text, losing, ok)
		}
		if stuck, ok := impl.IsStuck(r); !ok || stuck {
			t.Errorf("IsStuck(%s) = %v, %v", text, stuck, ok)
		}
		if n, ok := impl.FewestTo(r, r); !ok || n != 0 {
			t.Errorf("FewestTo(%s) itself = %d, %v", text, n, ok)
		}
	}
}

func TestStuckRacks(t *testing.T) {
	for _, text := range []string{
		"abcd/bcde/cdea/deab/eabc/abcd", "abab/cdeb/c.../d.../e.../a...", "aaaa/aaaa/..../..../..../....", "..../aaaa/b.../c.../..../aaaa",
		"eeee/eeee/eeee/eeee/eeee/eeee", "abbb/ba../bc../cd../de../abbb",
	} {
		tubes := tubesOf(t, text)
		if stuck, ok := impl.IsStuck(rackOf(tubes)); !ok || !stuck {
			t.Errorf("IsStuck(%s) = %v, %v", text, stuck, ok)
		}
		checkNoWay(t, tubes, true)
		checkReached(t, tubes, [][][6]string{{modelForm(tubes)}})
	}
}

func TestRacksWithoutAWayThatAreNotStuck(t *testing.T) {
	for _, c := range []struct {
		text string
		all  int
	}{
		{"aaa./aa../..../..../..../....", 2},
		{"aaaa/a.../bb../b.../..../....", 2},
		{"aaaa/aaaa/b.../b.../c.../c...", 4},
	} {
		tubes := tubesOf(t, c.text)
		if stuck, ok := impl.IsStuck(rackOf(tubes)); !ok || stuck {
			t.Errorf("IsStuck(%s) = %v, %v", c.text, stuck, ok)
		}
		if all, ok := impl.ReachedAll(rackOf(tubes)); !ok || all != c.all {
			t.Errorf("ReachedAll(%s) = %d, %v", c.text, all, ok)
		}
		checkNoWay(t, tubes, true)
	}
}

func TestIsStuckAgainstTheModel(t *testing.T) {
	many := 0
	for _, tubes := range slices.Concat(someTubes(20000), dealtTubes(1000)) {
		want := !isSortedModel(tubes) && len(modelSteps(tubes)) == 0
		if got, ok := impl.IsStuck(rackOf(tubes)); !ok || got != want {
			t.Fatalf("IsStuck(%s) = %v, %v", textOf(tubes), got, ok)
		}
		if want {
			many++
		}
	}
	if many < 5 {
		t.Error("too few stuck Racks:", many)
	}
}

// What these Racks reach is known: all forms, those up to a shortest way, and its number of pours,
// -1 if there is none. 601 stands for more than 600.
func TestSearchesAtTheGreatestReach(t *testing.T) {
	for _, c := range []struct {
		name, text       string
		all, upTo, pours int
	}{
		{"600 forms", "ddcb/adca/abcb/cadb/..../....", 600, 600, 13},
		{"600 forms without a way", "a.../abab/ba../bbab/aaa./b...", 600, 0, -1},
		{"601 forms without a way", "abba/baba/bbba/b.../aab./aab.", 601, 0, -1},
		{"601 forms, a way among 600", "adcb/dcab/addb/cba./..../....", 601, 600, 11},
		{"601 forms, a way among 600, no empty tube", "bbc./baa./cad./adc./dbd./c...", 601, 600, 10},
		{"more forms, a way among 599", "bdc./aad./bad./cbc./bac./d...", 601, 599, 11},
		{"601 forms, the way with the last one", "badc/adcc/cdbb/daba/..../....", 601, 601, 12},
		{"601 forms, the way not with the last one", "bab./aca./ccb./bac./..../....", 601, 601, 8},
		{"600 forms up to 9", "acad/bbab/dadc/dcbc/..../....", 601, 601, 11},
	} {
		tubes := tubesOf(t, c.text)
		levels := modelLevels(tubes)
		pours, fits := modelSearch(levels, isSortedModel)
		if all := modelUpTo(levels, len(levels)); min(all, 601) != c.all {
			t.Fatal(c.name, "has", all)
		}
		if fits != (c.all <= 600 || c.upTo > 0 && c.upTo <= 600) || fits && pours != c.pours {
			t.Fatal(c.name, "has a way of", pours, fits)
		}
		if pours >= 0 && min(modelUpTo(levels, pours), 601) != c.upTo {
			t.Fatal(c.name, "has up to it", modelUpTo(levels, pours))
		}
		checkReached(t, tubes, levels)
		r := rackOf(tubes)
		losing, ok := impl.LosingPours(r)
		if want := c.all <= 600 && c.pours >= 0; ok != want || !ok && len(losing) != 0 {
			t.Error(c.name, "LosingPours", losing, ok)
		}
		checkSearches(t, tubes, levels)
	}
}

func TestCountReachedAtTheGreatestReach(t *testing.T) {
	for _, c := range []struct {
		text    string
		n, want int
		ok      bool
	}{
		{"acad/bbab/dadc/dcbc/..../....", 9, 600, true},
		{"bdca/dacc/babd/badc/..../....", 9, 600, true},
		{"bab./aca./ccb./bac./..../....", 8, 0, false},
		{"bab./aca./ccb./bac./..../....", 9, 0, false},
	} {
		r := rackOf(tubesOf(t, c.text))
		if got, ok := impl.CountReached(r, c.n); ok != c.ok || got != c.want {
			t.Errorf("CountReached(%s, %d) = %d, %v", c.text, c.n, got, ok)
		}
	}
	r := rackOf(tubesOf(t, "bab./aca./ccb./bac./..../...."))
	if got, ok := impl.CountReached(r, 7); !ok || got > 600 {
		t.Error("one pour less", got, ok)
	}
}

func TestCountReachedFailsForOtherNumbers(t *testing.T) {
	for _, text := range []string{"..../..../..../..../..../....", "ab../b.../a.../..../..../....", "ddcb/adca/abcb/cadb/..../...."} {
		r := rackOf(tubesOf(t, text))
		for _, n := range []int{-1, 10, 11, 600, 1 << 32, math.MaxInt, math.MinInt} {
			if got, ok := impl.CountReached(r, n); ok || got != 0 {
				t.Errorf("CountReached(%s, %d) = %d, %v", text, n, got, ok)
			}
		}
		if got, ok := impl.CountReached(r, 0); !ok || got != 1 {
			t.Errorf("CountReached(%s, 0) = %d, %v", text, got, ok)
		}
		if _, ok := impl.CountReached(r, 9); !ok {
			t.Errorf("CountReached(%s, 9) fails", text)
		}
	}
}

func TestWaysExamples(t *testing.T) {
	for _, c := range []struct {
		text         string
		fewest, ways int
		first        [][2]int
		best, losing [][2]int
	}{
		{"a.../a.../..../..../..../....", 1, 2, [][2]int{{0, 1}}, [][2]int{{0, 1}, {1, 0}}, nil},
		{"ab../..../..../..../..../....", 1, 5, [][2]int{{0, 1}}, [][2]int{{0, 1}, {0, 2}, {0, 3}, {0, 4}, {0, 5}}, nil},
		{"..../ab../b.../..../..../....", 1, 1, [][2]int{{1, 2}}, [][2]int{{1, 2}}, nil},
		{"..../..../..../..../aaa./a...", 1, 2, [][2]int{{4, 5}}, [][2]int{{4, 5}, {5, 4}}, nil},
		{"aa../..../..../ba../bb../....", 2, 2, [][2]int{{3, 0}, {3, 4}}, [][2]int{{3, 0}}, nil},
		{"a.../a.../aa../..../..../....", 2, 12, [][2]int{{0, 1}, {1, 2}}, [][2]int{{0, 1}, {0, 2}, {1, 0}, {1, 2}, {2, 0}, {2, 1}}, nil},
	} {
		checkWays(t, tubesOf(t, c.text), c.fewest, c.ways, c.first, c.best)
		losing, ok := impl.LosingPours(rackOf(tubesOf(t, c.text)))
		if !ok || !slices.Equal(losing, c.losing) {
			t.Errorf("LosingPours(%s) = %v, %v", c.text, losing, ok)
		}
	}
}

func TestLosingPoursExample(t *testing.T) {
	tubes := tubesOf(t, "aecb/adcd/eeba/..../bdae/dbcc")
	best, ok1 := impl.BestPours(rackOf(tubes))
	losing, ok2 := impl.LosingPours(rackOf(tubes))
	if !ok1 || !ok2 || !slices.Equal(best, [][2]int{{5, 3}}) || !slices.Equal(losing, [][2]int{{0, 3}, {1, 3}, {2, 3}, {4, 3}}) {
		t.Error(best, losing, ok1, ok2)
	}
	checkSearches(t, tubes, modelLevels(tubes))
}

func TestARackAndItsFormHaveTheSameWays(t *testing.T) {
	for _, tubes := range slices.Concat(someTubes(150), dealtTubes(150)) {
		r := rackOf(tubes)
		form, _ := impl.FormOf(r)
		fewest, ok1 := impl.FewestPours(r)
		ways, ok2 := impl.CountWays(r)
		other, ok3 := impl.FewestPours(form)
		others, ok4 := impl.CountWays(form)
		if ok1 != ok2 || ok1 != ok3 || ok1 != ok4 || fewest != other || ways != others {
			t.Fatalf("%s has %d pours and %d ways, its form %d and %d: %v, %v, %v, %v", textOf(tubes), fewest, ways, other, others, ok1, ok2, ok3, ok4)
		}
	}
}

// checkFewestTo holds one call against the model.
func checkFewestTo(t *testing.T, a [6]string, levels [][][6]string, b [6]string) {
	t.Helper()
	goal := modelForm(b)
	want, fits := modelSearch(levels, func(f [6]string) bool { return f == goal })
	fine := fits && want >= 0
	if !fine {
		want = 0
	}
	if got, ok := impl.FewestTo(rackOf(a), rackOf(b)); ok != fine || got != want {
		t.Fatalf("FewestTo(%s, %s) = %d, %v, not %d, %v", textOf(a), textOf(b), got, ok, want, fine)
	}
}

func TestFewestTo(t *testing.T) {
	source := rand.New(rand.NewSource(4))
	all := append(someTubes(100), dealtTubes(100)...)
	for _, a := range all {
		levels := modelLevels(a)
		checkFewestTo(t, a, levels, a)
		checkFewestTo(t, a, levels, modelForm(a))
		for _, level := range levels {
			b := level[source.Intn(len(level))]
			source.Shuffle(6, func(i, j int) { b[i], b[j] = b[j], b[i] })
			checkFewestTo(t, a, levels, b)
		}
		for range 3 {
			checkFewestTo(t, a, levels, all[source.Intn(len(all))])
		}
	}
}

func TestFewestToExamples(t *testing.T) {
	for _, c := range []struct {
		name, a, b string
		want       int
		ok         bool
	}{
		{"itself", "ab../b.../a.../..../..../....", "ab../b.../a.../..../..../....", 0, true},
		{"its form", "ab../b.../a.../..../..../....", "..../..../..../a.../ab../b...", 0, true},
		{"an idle pour", "aaaa/b.../..../..../..../....", "..../b.../..../aaaa/..../....", 0, true},
		{"one pour, and another order", "ab../..../..../..../..../....", "b.../a.../..../..../..../....", 1, true},
		{"two pours", "ab../b.../a.../..../..../....", "..../..../..../bb../..../aa..", 2, true},
		{"there and back", "baaa/aaa./..../..../..../....", "baa./aaaa/..../..../..../....", 1, true},
		{"back", "baa./aaaa/..../..../..../....", "baaa/aaa./..../..../..../....", 1, true},
		{"never again", "aa../bb../..../..../..../....", "ab../b.../a.../..../..../....", 0, false},
		{"other colors", "ab../..../..../..../..../....", "cb../..../..../..../..../....", 0, false},
		{"fewer layers", "ab../..../..../..../..../....", "a.../..../..../..../..../....", 0, false},
		{"not by pours", "ab../..../..../..../..../....", "ba../..../..../..../..../....", 0, false},
	} {
		got, ok := impl.FewestTo(rackOf(tubesOf(t, c.a)), rackOf(tubesOf(t, c.b)))
		if ok != c.ok || got != c.want {
			t.Error(c.name, got, ok)
		}
	}
}

func TestFewestToAtTheGreatestReach(t *testing.T) {
	for _, text := range []string{"acad/bbab/dadc/dcbc/..../....", "bab./aca./ccb./bac./..../....", "badc/adcc/cdbb/daba/..../...."} {
		a := tubesOf(t, text)
		levels := modelLevels(a)
		last := levels[len(levels)-1]
		for _, b := range [][6]string{last[0], last[len(last)-1], levels[len(levels)-2][0], {"abcd"}, {}} {
			checkFewestTo(t, a, levels, b)
		}
		if _, ok := impl.FewestTo(rackOf(a), rackOf(last[0])); ok {
			t.Error(text, "has more forms up to this one than a search looks at")
		}
	}
}

func TestFewestToFailsForBadRacks(t *testing.T) {
	good := rackOf([6]string{"ab", "b"})
	for _, bad := range badRacks() {
		for _, pair := range [][2]impl.Rack{{bad, good}, {good, bad}, {bad, bad}, {impl.Rack{}, bad}, {bad, impl.Rack{}}} {
			if n, ok := impl.FewestTo(pair[0], pair[1]); ok || n != 0 {
				t.Fatalf("FewestTo(%v) = %d, %v", pair, n, ok)
			}
		}
	}
}

// walk returns a list of pours that are possible one after the other, idle or not, the tubes behind
// them, and how many layers they move.
func walk(source *rand.Rand, tubes [6]string, steps int) ([][2]int, [6]string, int) {
	var list [][2]int
	total := 0
	for range steps {
		i, j := source.Intn(6), source.Intn(6)
		from, to, moved := poured(tubes[i], tubes[j])
		if i == j || moved == 0 {
			continue
		}
		tubes[i], tubes[j] = from, to
		list = append(list, [2]int{i, j})
		total += moved
	}
	return list, tubes, total
}

func TestDoPours(t *testing.T) {
	source := rand.New(rand.NewSource(5))
	wrong := [][2]int{{0, 0}, {5, 5}, {-1, 0}, {0, -1}, {6, 0}, {0, 6}, {math.MaxInt, 0}, {0, math.MinInt}, {-1, -1}, {6, 6}}
	for n, tubes := range append(someTubes(400), dealtTubes(400)...) {
		list, end, total := walk(source, tubes, 100)
		got, moved, ok := impl.DoPours(rackOf(tubes), list)
		if !ok || got != rackOf(end) || moved != total {
			t.Fatalf("DoPours(%s, %v) = %v, %d, %v, not %s, %d", textOf(tubes), list, got, moved, ok, textOf(end), total)
		}
		at := source.Intn(len(list) + 1)
		bad := slices.Insert(slices.Clone(list), at, wrong[n%len(wrong)])
		if got, moved, ok := impl.DoPours(rackOf(tubes), bad); ok || got != (impl.Rack{}) || moved != 0 {
			t.Fatalf("DoPours(%s, %v) = %v, %d, %v", textOf(tubes), bad, got, moved, ok)
		}
	}
}

func TestDoPoursExamples(t *testing.T) {
	for _, c := range []struct {
		name, before, behind string
		list                 [][2]int
		moved                int
	}{
		{"no pours", "ab../b.../a.../..../..../....", "ab../b.../a.../..../..../....", nil, 0},
		{"an empty list", "..../..../..../..../..../....", "..../..../..../..../..../....", [][2]int{}, 0},
		{"a way", "ab../b.../a.../..../..../....", "..../bb../aa../..../..../....", [][2]int{{0, 1}, {0, 2}}, 2},
		{"idle pours", "aaa./..../..../..../..../b...", "..../aaa./..../b.../..../....", [][2]int{{0, 1}, {5, 2}, {2, 3}}, 5},
		{"idle there and back", "eeee/..../..../..../..../....", "eeee/..../..../..../..../....", [][2]int{{0, 5}, {5, 0}}, 8},
		{"a top in part", "baaa/aaa./..../..../..../....", "b.../aaaa/aa../..../..../....", [][2]int{{0, 1}, {0, 2}}, 3},
		{"the second one not possible", "ab../b.../a.../..../..../....", "", [][2]int{{0, 1}, {0, 1}}, 0},
		{"the last one not possible", "a.../..../..../..../..../....", "", [][2]int{{0, 1}, {1, 2}, {1, 2}}, 0},
		{"from an empty tube", "a.../..../..../..../..../....", "", [][2]int{{1, 0}}, 0},
		{"no room", "aaaa/a.../..../..../..../....", "", [][2]int{{1, 0}}, 0},
		{"another color", "a.../b.../..../..../..../....", "", [][2]int{{0, 1}}, 0},
		{"the same tube", "a.../..../..../..../..../....", "", [][2]int{{0, 0}}, 0},
		{"places below", "a.../..../..../..../..../....", "", [][2]int{{0, -1}}, 0},
		{"places above", "a.../..../..../..../..../....", "", [][2]int{{0, 1}, {1, 6}}, 0},
	} {
		got, moved, ok := impl.DoPours(rackOf(tubesOf(t, c.before)), c.list)
		want := impl.Rack{}
		if c.behind != "" {
			want = rackOf(tubesOf(t, c.behind))
		}
		if ok != (c.behind != "") || got != want || moved != c.moved {
			t.Error(c.name, got, moved, ok)
		}
	}
}

func TestDoPoursOfALongList(t *testing.T) {
	list := slices.Repeat([][2]int{{0, 5}, {5, 0}}, 50000)
	r := rackOf([6]string{"eeee", "ab"})
	if got, moved, ok := impl.DoPours(r, list); !ok || got != r || moved != 400000 {
		t.Error(got, moved, ok)
	}
	if got, moved, ok := impl.DoPours(r, append(list, [2]int{5, 0})); ok || got != (impl.Rack{}) || moved != 0 {
		t.Error("one pour more", got, moved, ok)
	}
}

func TestWayFunctionsFailForBadRacks(t *testing.T) {
	for _, r := range badRacks() {
		form, ok1 := impl.FormOf(r)
		all, ok2 := impl.ReachedAll(r)
		stuck, ok3 := impl.IsStuck(r)
		can, ok4 := impl.CanBeSorted(r)
		calls := []rackCall{{"FormOf", ok1, form == impl.Rack{}}, {"ReachedAll", ok2, all == 0}, {"IsStuck", ok3, !stuck}, {"CanBeSorted", ok4, !can}}
		for _, n := range []int{-1, 0, 1, 9, 10} {
			many, ok := impl.CountReached(r, n)
			calls = append(calls, rackCall{"CountReached", ok, many == 0})
		}
		for _, list := range [][][2]int{nil, {}, {{0, 1}}, {{1, 0}, {0, 1}}, {{-1, 6}}} {
			end, moved, ok := impl.DoPours(r, list)
			calls = append(calls, rackCall{"DoPours", ok, end == impl.Rack{} && moved == 0})
		}
		wantFailed(t, slices.Concat(calls, callsOfWays(r)), r)
	}
}

func TestWayFunctionsKeepTheirArguments(t *testing.T) {
	r := rackOf([6]string{"ab", "b", "a"})
	list := [][2]int{{0, 1}, {0, 2}, {9, 9}, {0, 1}}
	kept := slices.Clone(list)
	for n := range list {
		impl.DoPours(r, list[:n])
	}
	if !slices.Equal(list, kept) {
		t.Error("DoPours has changed its list to", list)
	}
	before := r
	form, _ := impl.FormOf(r)
	callsOfWays(r)
	impl.FewestTo(r, form)
	impl.FewestTo(form, r)
	if r != before {
		t.Error("the Rack is now", r)
	}
}

func TestWayResultsShareNoMemory(t *testing.T) {
	r := rackOf(tubesOf(t, "aecb/adcd/eeba/..../bdae/dbcc"))
	for name, call := range map[string]func(impl.Rack) ([][2]int, bool){
		"FirstWay": impl.FirstWay, "BestPours": impl.BestPours, "LosingPours": impl.LosingPours,
	} {
		first, _ := call(r)
		kept := slices.Clone(first)
		second, _ := call(r)
		for k := range second[:cap(second)] {
			second[:cap(second)][k] = [2]int{-7, -7}
		}
		third, ok := call(r)
		if !ok || len(kept) == 0 || !slices.Equal(first, kept) || !slices.Equal(third, kept) {
			t.Errorf("%s returns %v and %v, not %v", name, first, third, kept)
		}
	}
}
