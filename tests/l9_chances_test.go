package tests

import (
	"math"
	"math/big"
	"math/rand"
	"slices"
	"strings"
	"testing"

	"loop.example/g01215/impl"
)

// Plays are held against a model on the texts of tubes (see l2_racks_test.go) that follows each play
// by itself to its end; deals against lists of all orders, or, where there are too many of them,
// against chances that are multiplied.

type modelPlay struct {
	tubes  [6]string
	chance *big.Rat
	pours  int
}

// modelPlays returns all plays up to n pours, also those that have come to the same tubes.
func modelPlays(tubes [6]string, n int) []modelPlay {
	steps := modelSteps(tubes)
	if n == 0 || isSortedModel(tubes) || len(steps) == 0 {
		return []modelPlay{{tubes, big.NewRat(1, 1), 0}}
	}
	var all []modelPlay
	share := big.NewRat(1, int64(len(steps)))
	for _, s := range steps {
		for _, p := range modelPlays(s.tubes, n-1) {
			all = append(all, modelPlay{p.tubes, new(big.Rat).Mul(share, p.chance), p.pours + 1})
		}
	}
	return all
}

func isStuckModel(tubes [6]string) bool { return !isSortedModel(tubes) && len(modelSteps(tubes)) == 0 }

func oneForModel(isSo func([6]string) bool) func([6]string) int {
	return func(tubes [6]string) int {
		if isSo(tubes) {
			return 1
		}
		return 0
	}
}

func meanOfPlays(plays []modelPlay, asked func([6]string) int) *big.Rat {
	sum := new(big.Rat)
	for _, p := range plays {
		if n := asked(p.tubes); n != 0 {
			sum.Add(sum, new(big.Rat).Mul(p.chance, big.NewRat(int64(n), 1)))
		}
	}
	return sum
}

// answers are what is said of plays behind n pours.
type answers struct {
	sorted, stuck, mean [2]int
	ends                int
}

func modelAnswers(tubes [6]string, n int) answers {
	plays := modelPlays(tubes, n)
	ends := map[[6]string]bool{}
	for _, p := range plays {
		ends[p.tubes] = true
	}
	sorted, stuck := oneForModel(isSortedModel), oneForModel(isStuckModel)
	return answers{
		pairOf(meanOfPlays(plays, sorted)), pairOf(meanOfPlays(plays, stuck)), pairOf(meanOfPlays(plays, modelRuns)), len(ends),
	}
}

// answersOf makes all calls, which have to succeed.
func answersOf(t *testing.T, r impl.Rack, n int) answers {
	t.Helper()
	sorted, ok1 := impl.ChanceSortedBy(r, n)
	stuck, ok2 := impl.ChanceStuckBy(r, n)
	mean, ok3 := impl.MeanRunsBehind(r, n)
	ends, ok4 := impl.CountEnds(r, n)
	if !ok1 || !ok2 || !ok3 || !ok4 {
		t.Fatalf("%v behind %d pours: %v, %v, %v, %v", r, n, ok1, ok2, ok3, ok4)
	}
	return answers{sorted, stuck, mean, ends}
}

func isLess(a [2]int, b [2]int) bool { return ratOf(a).Cmp(ratOf(b)) < 0 }

// checkGrowth holds the guarantee for what is said behind 0, 1 and 2 pours.
func checkGrowth(t *testing.T, tubes [6]string, behind [3]answers) {
	t.Helper()
	for n, a := range behind {
		for _, f := range [][2]int{a.sorted, a.stuck, a.mean} {
			if f[0] < 0 || f[1] < 1 || pairOf(ratOf(f)) != f {
				t.Fatalf("%s: the fraction %v behind %d pours", textOf(tubes), f, n)
			}
		}
		if sum := new(big.Rat).Add(ratOf(a.sorted), ratOf(a.stuck)); sum.Cmp(big.NewRat(1, 1)) > 0 {
			t.Fatalf("%s: %v and %v are more than 1 behind %d pours", textOf(tubes), a.sorted, a.stuck, n)
		}
		if n == 0 {
			continue
		}
		before := behind[n-1]
		if isLess(a.sorted, before.sorted) || isLess(a.stuck, before.stuck) || isLess(before.mean, a.mean) {
			t.Fatalf("%s: %v behind %d pours, and %v one before", textOf(tubes), a, n, before)
		}
	}
	if useful, _ := impl.UsefulPours(rackOf(tubes)); behind[1].ends > max(len(useful), 1) {
		t.Fatalf("%s: %d ends of %d pours", textOf(tubes), behind[1].ends, len(useful))
	}
}

func TestPlays(t *testing.T) {
	kinds := map[string]int{}
	for _, tubes := range boundTubes(t) {
		var behind [3]answers
		for n := range behind {
			got, want := answersOf(t, rackOf(tubes), n), modelAnswers(tubes, n)
			if got != want {
				t.Fatalf("%s behind %d pours: %v, not %v", textOf(tubes), n, got, want)
			}
			behind[n] = got
		}
		checkGrowth(t, tubes, behind)
		last := behind[2]
		for name, is := range map[string]bool{
			"sorted by chance":    last.sorted[0] > 0 && last.sorted[1] > 1,
			"always sorted":       behind[0].sorted[0] == 0 && last.sorted[0] == last.sorted[1],
			"later sorted":        isLess(behind[1].sorted, last.sorted) && behind[1].sorted[0] > 0,
			"stuck by chance":     last.stuck[0] > 0 && last.stuck[1] > 1,
			"later stuck":         isLess(behind[1].stuck, last.stuck) && behind[1].stuck[0] > 0,
			"ends of two plays":   last.ends < len(modelPlays(tubes, 2)),
			"ends before its two": endsEarly(tubes),
			"a mean in 12ths":     last.mean[1]%12 == 0,
		} {
			if is {
				kinds[name]++
			}
		}
	}
	if len(kinds) != 8 {
		t.Error("not all kinds of plays:", kinds)
	}
}

// endsEarly tells whether some plays have fewer than two pours, and others have two.
func endsEarly(tubes [6]string) bool {
	one, two := false, false
	for _, p := range modelPlays(tubes, 2) {
		one = one || p.pours < 2
		two = two || p.pours == 2
	}
	return one && two
}

func TestPlaysExamples(t *testing.T) {
	no, half, yes := [2]int{0, 1}, [2]int{1, 2}, [2]int{1, 1}
	for _, c := range []struct {
		name, text string
		behind     [3]answers
	}{
		{"empty", "..../..../..../..../..../....", [3]answers{{yes, no, no, 1}, {yes, no, no, 1}, {yes, no, no, 1}}},
		{"sorted", "..../eee./..../a.../bbbb/....", [3]answers{
			{yes, no, [2]int{3, 1}, 1}, {yes, no, [2]int{3, 1}, 1}, {yes, no, [2]int{3, 1}, 1},
		}},
		{"no pours", "aaaa/bbbb/cccc/dddd/eeee/aaaa", [3]answers{
			{no, yes, [2]int{6, 1}, 1}, {no, yes, [2]int{6, 1}, 1}, {no, yes, [2]int{6, 1}, 1},
		}},
		{"idle pours alone", "aaaa/..../aaaa/..../..../....", [3]answers{
			{no, yes, [2]int{2, 1}, 1}, {no, yes, [2]int{2, 1}, 1}, {no, yes, [2]int{2, 1}, 1},
		}},
		{"one pour, there or back", "a.../..../..../..../..../a...", [3]answers{
			{no, no, [2]int{2, 1}, 1}, {yes, no, [2]int{1, 1}, 2}, {yes, no, [2]int{1, 1}, 2},
		}},
		{"two orders of two pours", "a.../a.../b.../b.../..../....", [3]answers{
			{no, no, [2]int{4, 1}, 1}, {no, no, [2]int{3, 1}, 4}, {yes, no, [2]int{2, 1}, 4},
		}},
		{"one pour or two", "ab../b.../..../..../..../....", [3]answers{
			{no, no, [2]int{3, 1}, 1}, {[2]int{1, 6}, no, [2]int{8, 3}, 6}, {yes, no, [2]int{2, 1}, 5},
		}},
		{"stuck by and by", "a.../..../..../aaaa/..../aaa.", [3]answers{
			{no, no, [2]int{3, 1}, 1}, {no, half, [2]int{5, 2}, 4}, {no, [2]int{3, 4}, [2]int{9, 4}, 6},
		}},
		{"the most pours", "a.../a.../a.../a.../a.../a...", [3]answers{
			{no, no, [2]int{6, 1}, 1}, {no, no, [2]int{5, 1}, 30}, {no, no, [2]int{4, 1}, 150},
		}},
		{"one of five", "ab../b.../a.../..../..../....", [3]answers{
			{no, no, [2]int{4, 1}, 1}, {no, no, [2]int{18, 5}, 5}, {[2]int{1, 5}, no, [2]int{14, 5}, 12},
		}},
	} {
		for n, want := range c.behind {
			if got := answersOf(t, rackOf(tubesOf(t, c.text)), n); got != want {
				t.Error(c.name, "behind", n, "pours:", got, "not", want)
			}
		}
	}
}

// Pours of different tubes lead to the same Rack in both orders.
func TestChancesOfPlaysAreAdded(t *testing.T) {
	tubes := tubesOf(t, "a.../a.../b.../b.../..../....")
	plays := modelPlays(tubes, 2)
	if ends, _ := impl.CountEnds(rackOf(tubes), 2); len(plays) != 8 || ends != 4 {
		t.Error(len(plays), "plays with", ends, "ends")
	}
	if sorted, ok := impl.ChanceSortedBy(rackOf(tubes), 2); !ok || sorted != [2]int{1, 1} {
		t.Error(sorted, ok)
	}
}

func TestPoursMakeRunsNoGreater(t *testing.T) {
	less, same := 0, 0
	for _, tubes := range boundTubes(t) {
		runs, _ := impl.CountRuns(rackOf(tubes))
		useful, _ := impl.UsefulPours(rackOf(tubes))
		for _, p := range useful {
			behind, _, _ := impl.Pour(rackOf(tubes), p[0], p[1])
			n, ok := impl.CountRuns(behind)
			if !ok || n > runs {
				t.Fatalf("%s has %d runs, and %d behind %v", textOf(tubes), runs, n, p)
			}
			if n < runs {
				less++
			} else {
				same++
			}
		}
	}
	if less < 500 || same < 500 {
		t.Error("only", less, "pours with fewer runs, and", same, "with as many")
	}
}

// checkBest holds BestChance of n against the model.
func checkBest(t *testing.T, tubes [6]string, n int) (first bool, unique bool) {
	t.Helper()
	best, most, ok := impl.BestChance(rackOf(tubes), n)
	steps := modelSteps(tubes)
	if isSortedModel(tubes) || len(steps) == 0 {
		if ok || best != [2]int{} || most != [2]int{} {
			t.Fatalf("BestChance(%s, %d) = %v, %v, %v", textOf(tubes), n, best, most, ok)
		}
		return true, true
	}
	var chances []*big.Rat
	for _, s := range steps {
		chances = append(chances, meanOfPlays(modelPlays(s.tubes, n), oneForModel(isSortedModel)))
	}
	k, equal := 0, 0
	for i, c := range chances {
		if c.Cmp(chances[k]) > 0 {
			k = i
		}
	}
	for _, c := range chances {
		if c.Cmp(chances[k]) == 0 {
			equal++
		}
	}
	if !ok || best != steps[k].pour || most != pairOf(chances[k]) {
		t.Fatalf("BestChance(%s, %d) = %v, %v, %v, not %v, %v", textOf(tubes), n, best, most, ok, steps[k].pour, chances[k])
	}
	return k == 0, equal == 1
}

func TestBestChance(t *testing.T) {
	later, several := 0, 0
	for _, tubes := range boundTubes(t) {
		for n := range 2 {
			first, unique := checkBest(t, tubes, n)
			if !first && !unique {
				several++
			} else if !first {
				later++
			}
		}
	}
	if later < 50 || several < 20 {
		t.Error("only", later, "later ones that are best alone, and", several, "with others behind them")
	}
}

func TestBestChanceExamples(t *testing.T) {
	for _, c := range []struct {
		name, text string
		n          int
		best, most [2]int
	}{
		{"both sort", "..../a.../..../..../a.../....", 0, [2]int{1, 4}, [2]int{1, 1}},
		{"sorted by one, and ended", "..../a.../..../..../a.../....", 1, [2]int{1, 4}, [2]int{1, 1}},
		{"none sorts, so the first", "a.../a.../b.../b.../..../....", 0, [2]int{0, 1}, [2]int{0, 1}},
		{"all sort by one more", "a.../a.../b.../b.../..../....", 1, [2]int{0, 1}, [2]int{1, 1}},
		{"a later one sorts by one more", "b.../ab../a.../..../..../....", 1, [2]int{1, 0}, [2]int{1, 1}},
		{"not yet", "b.../ab../a.../..../..../....", 0, [2]int{0, 1}, [2]int{0, 1}},
		{"the last of them sorts", "..../..../..../..../b.../ab..", 0, [2]int{5, 4}, [2]int{1, 1}},
	} {
		best, most, ok := impl.BestChance(rackOf(tubesOf(t, c.text)), c.n)
		if !ok || best != c.best || most != c.most {
			t.Error(c.name, best, most, ok)
		}
		checkBest(t, tubesOf(t, c.text), c.n)
	}
	for _, text := range []string{
		"..../..../..../..../..../....", "..../eee./..../a.../bbbb/....", "aaaa/bbbb/cccc/dddd/eeee/aaaa", "aaaa/..../aaaa/..../..../....",
	} {
		for n := range 2 {
			best, most, ok := impl.BestChance(rackOf(tubesOf(t, text)), n)
			wantFailed(t, []rackCall{{"BestChance", ok, best == [2]int{} && most == [2]int{}}}, text, n)
		}
	}
}

func callsOfPlays(r impl.Rack, n int) []rackCall {
	sorted, ok1 := impl.ChanceSortedBy(r, n)
	stuck, ok2 := impl.ChanceStuckBy(r, n)
	mean, ok3 := impl.MeanRunsBehind(r, n)
	ends, ok4 := impl.CountEnds(r, n)
	return append(callsOfBest(r, n),
		rackCall{"ChanceSortedBy", ok1, sorted == [2]int{}}, rackCall{"ChanceStuckBy", ok2, stuck == [2]int{}},
		rackCall{"MeanRunsBehind", ok3, mean == [2]int{}}, rackCall{"CountEnds", ok4, ends == 0},
	)
}

func callsOfBest(r impl.Rack, n int) []rackCall {
	best, most, ok := impl.BestChance(r, n)
	return []rackCall{{"BestChance", ok, best == [2]int{} && most == [2]int{}}}
}

func TestPlaysFailForBadRacks(t *testing.T) {
	for _, r := range badRacks() {
		for n := -1; n <= 3; n++ {
			wantFailed(t, callsOfPlays(r, n), r, n)
		}
	}
}

func TestPlaysFailForOuterNumbers(t *testing.T) {
	for _, tubes := range append(someTubes(50), smallTubes()...) {
		r := rackOf(tubes)
		for _, n := range []int{-1, -2, 3, 4, 256, 1 << 32, math.MaxInt, math.MinInt} {
			wantFailed(t, callsOfPlays(r, n), textOf(tubes), n)
		}
		wantFailed(t, callsOfBest(r, 2), textOf(tubes), 2)
	}
}

// All calls are made again and again, as maps are not always looked at in the same order.
func TestPlaysKeepTheirArguments(t *testing.T) {
	for _, tubes := range someTubes(60) {
		r := rackOf(tubes)
		for n := range 3 {
			first := answersOf(t, r, n)
			best, most, ok := impl.BestChance(r, n)
			for range 5 {
				again := answersOf(t, r, n)
				best2, most2, ok2 := impl.BestChance(r, n)
				if r != rackOf(tubes) || again != first || best2 != best || most2 != most || ok2 != ok {
					t.Fatalf("%s is now %v; %v, and then %v", textOf(tubes), r, first, again)
				}
			}
		}
	}
}

// A modelDeal is what tubes are filled with: a text of all colors in ascending order.
type modelDeal struct {
	many   [6]int
	colors string
}

func (d modelDeal) counts() [6]int {
	counts := [6]int{}
	for k := range len(d.colors) {
		counts[d.colors[k]-'a'+1]++
	}
	return counts
}

func (d modelDeal) fill(order string) [6]string {
	tubes := [6]string{}
	for i, n := range d.many {
		tubes[i], order = order[:n], order[n:]
	}
	return tubes
}

// manyOrders returns how many different orders there are.
func (d modelDeal) manyOrders() *big.Int {
	many := new(big.Int).MulRange(1, int64(len(d.colors)))
	for _, n := range d.counts() {
		many.Div(many, new(big.Int).MulRange(1, int64(n)))
	}
	return many
}

// all returns the tubes of all different orders.
func (d modelDeal) all() [][6]string {
	var all [][6]string
	for _, order := range shuffles(d.colors) {
		all = append(all, d.fill(order))
	}
	return all
}

// toldApart returns the tubes of all orders, also of those that differ in layers of one color alone.
func (d modelDeal) toldApart() [][6]string {
	var all [][6]string
	var put func(order string, left string)
	put = func(order string, left string) {
		if left == "" {
			all = append(all, d.fill(order))
		}
		for k := range len(left) {
			put(order+left[k:k+1], left[:k]+left[k+1:])
		}
	}
	put("", d.colors)
	return all
}

func dealOf(many [6]int, counts [6]int) modelDeal {
	colors := ""
	for c := 1; c <= 5; c++ {
		colors += strings.Repeat(modelColors[c-1:c], counts[c])
	}
	return modelDeal{many, colors}
}

// someDeals returns deals of all kinds: of few and of many layers and colors.
func someDeals() []modelDeal {
	source := rand.New(rand.NewSource(91))
	deals := []modelDeal{
		{}, {many: [6]int{1}, colors: "a"}, {many: [6]int{5: 1}, colors: "e"}, {many: [6]int{0, 0, 4}, colors: "cccc"},
		{[6]int{1, 1, 1, 1, 1, 1}, "aaaaaa"}, {[6]int{4, 4, 4, 4, 4, 4}, strings.Repeat("b", 24)}, {[6]int{4, 4}, "aaaaabcd"},
		{[6]int{2, 0, 0, 2, 0, 2}, "aabbcc"}, {[6]int{4, 4, 4, 4, 4, 4}, "aaaabbbbbcccccdddddeeeee"}, {[6]int{4, 0, 0, 0, 0, 1}, "abcde"},
		{[6]int{4, 4, 4, 4, 4, 4}, "aaaaaaaabbbbccccddddeeee"}, {[6]int{4, 4, 4, 4, 4, 0}, "aaaabbbbccccddddeeee"},
		{[6]int{4, 4, 4, 4, 4, 4}, "aaaaaaaaaaaaaaaaaaaaabbb"}, {[6]int{1, 2, 3, 4}, "aaaabbbccd"}, {[6]int{1, 2, 3, 4}, "aaaaaaacdd"},
	}
	for len(deals) < 700 {
		d := modelDeal{}
		most := 1 + source.Intn(4)
		for i := range d.many {
			d.many[i] = source.Intn(most+1) * min(source.Intn(3), 1)
		}
		colors := 1 + source.Intn(5)
		counts := [6]int{}
		for _, n := range d.many {
			for range n {
				counts[1+source.Intn(colors)]++
			}
		}
		deals = append(deals, dealOf(d.many, counts))
	}
	return deals
}

// meanRunsOf asks the program itself for the runs of each Rack.
func meanRunsOf(t *testing.T, all [][6]string) [2]int {
	t.Helper()
	sum := 0
	for _, tubes := range all {
		runs, ok := impl.CountRuns(rackOf(tubes))
		if !ok || runs != modelRuns(tubes) {
			t.Fatalf("CountRuns(%s) = %d, %v", textOf(tubes), runs, ok)
		}
		sum += runs
	}
	return lowest(sum, len(all))
}

func hasPlainTubes(tubes [6]string) bool {
	for _, tube := range tubes {
		if !isPlainTube(tube) {
			return false
		}
	}
	return true
}

// checkDeals holds all that is said of deals against all of their Racks, which may be there several
// times if they all are equally often.
func checkDeals(t *testing.T, d modelDeal, all [][6]string) {
	t.Helper()
	different := map[[6]string]bool{}
	for _, tubes := range all {
		different[tubes] = true
	}
	counts := d.counts()
	if n, ok := impl.CountDeals(d.many, counts); !ok || n != len(different) {
		t.Fatalf("CountDeals(%v) = %d, %v, not %d", d, n, ok, len(different))
	}
	if mean, ok := impl.DealRuns(d.many, counts); !ok || mean != meanRunsOf(t, all) {
		t.Fatalf("DealRuns(%v) = %v, %v, not %v", d, mean, ok, meanRunsOf(t, all))
	}
	if same, ok := impl.DealSame(d.many, counts); !ok || same != shareOf(all, hasPlainTubes) {
		t.Fatalf("DealSame(%v) = %v, %v, not %v", d, same, ok, shareOf(all, hasPlainTubes))
	}
	for i := range impl.Tubes {
		for color := 1; color <= 5; color++ {
			want := shareOf(all, func(tubes [6]string) bool { return strings.HasSuffix(tubes[i], modelColors[color-1:color]) })
			if got, ok := impl.DealTop(d.many, counts, i, color); !ok || got != want {
				t.Fatalf("DealTop(%v, %d, %d) = %v, %v, not %v", d, i, color, got, ok, want)
			}
		}
		for j := range impl.Tubes {
			checkAlikeTops(t, d, all, i, j)
		}
	}
}

func checkAlikeTops(t *testing.T, d modelDeal, all [][6]string, i int, j int) {
	t.Helper()
	want, valid := [2]int{}, i != j && d.many[i] > 0 && d.many[j] > 0
	if valid {
		want = shareOf(all, func(tubes [6]string) bool { return tubes[i][d.many[i]-1] == tubes[j][d.many[j]-1] })
	}
	if got, ok := impl.DealAlike(d.many, d.counts(), i, j); ok != valid || got != want {
		t.Fatalf("DealAlike(%v, %d, %d) = %v, %v, not %v, %v", d, i, j, got, ok, want, valid)
	}
}

func TestDeals(t *testing.T) {
	listed := 0
	for _, d := range someDeals() {
		if d.manyOrders().Cmp(big.NewInt(2000)) <= 0 {
			checkDeals(t, d, d.all())
			listed++
		}
	}
	if listed < 300 {
		t.Error("only", listed, "deals")
	}
}

func TestDealsOfLayersToldApart(t *testing.T) {
	listed := 0
	for _, d := range someDeals() {
		if len(d.colors) <= 6 {
			checkDeals(t, d, d.toldApart())
			listed++
		}
	}
	if listed < 150 {
		t.Error("only", listed, "deals")
	}
}

// Two tubes of all sizes, and all counts of two colors.
func TestDealsOfTwoTubes(t *testing.T) {
	for x := range 5 {
		for y := range 5 {
			for a := range x + y + 1 {
				d := dealOf([6]int{2: x, 5: y}, [6]int{2: a, 4: x + y - a})
				checkDeals(t, d, d.all())
			}
		}
	}
}

// chanceOfNext multiplies the chances that the next layers are of certain colors.
func chanceOfNext(counts [6]int, colors ...int) *big.Rat {
	chance := big.NewRat(1, 1)
	for _, color := range colors {
		left := 0
		for _, n := range counts {
			left += n
		}
		chance.Mul(chance, big.NewRat(int64(counts[color]), int64(left)))
		counts[color]--
		if chance.Sign() == 0 {
			break
		}
	}
	return chance
}

// runsModel adds, for each layer, the chance that it begins a run.
func runsModel(d modelDeal) *big.Rat {
	sum := new(big.Rat)
	for _, n := range d.many {
		for k := range n {
			sum.Add(sum, big.NewRat(1, 1))
			if k > 0 {
				sum.Sub(sum, alikeModel(d))
			}
		}
	}
	return sum
}

func alikeModel(d modelDeal) *big.Rat {
	sum := new(big.Rat)
	for color := 1; color <= 5; color++ {
		sum.Add(sum, chanceOfNext(d.counts(), color, color))
	}
	return sum
}

// sameModel adds the chances of all colors that tubes can have alone, tube by tube.
func sameModel(many []int, counts [6]int) *big.Rat {
	if len(many) == 0 {
		return big.NewRat(1, 1)
	}
	if many[0] == 0 {
		return sameModel(many[1:], counts)
	}
	sum := new(big.Rat)
	for color := 1; color <= 5; color++ {
		if chance := chanceOfNext(counts, slices.Repeat([]int{color}, many[0])...); chance.Sign() > 0 {
			rest := counts
			rest[color] -= many[0]
			sum.Add(sum, chance.Mul(chance, sameModel(many[1:], rest)))
		}
	}
	return sum
}

// checkManyDeals holds deals against chances that are multiplied.
func checkManyDeals(t *testing.T, d modelDeal) {
	t.Helper()
	counts := d.counts()
	if n, ok := impl.CountDeals(d.many, counts); !ok || !d.manyOrders().IsInt64() || int64(n) != d.manyOrders().Int64() {
		t.Fatalf("CountDeals(%v) = %d, %v, not %v", d, n, ok, d.manyOrders())
	}
	if mean, ok := impl.DealRuns(d.many, counts); !ok || mean != pairOf(runsModel(d)) {
		t.Fatalf("DealRuns(%v) = %v, %v, not %v", d, mean, ok, runsModel(d))
	}
	if same, ok := impl.DealSame(d.many, counts); !ok || same != pairOf(sameModel(d.many[:], counts)) {
		t.Fatalf("DealSame(%v) = %v, %v, not %v", d, same, ok, sameModel(d.many[:], counts))
	}
	for i := range impl.Tubes {
		var tops [][2]int
		for color := 1; color <= 5; color++ {
			want := [2]int{0, 1}
			if d.many[i] > 0 {
				want = pairOf(chanceOfNext(counts, color))
			}
			got, ok := impl.DealTop(d.many, counts, i, color)
			if !ok || got != want {
				t.Fatalf("DealTop(%v, %d, %d) = %v, %v, not %v", d, i, color, got, ok, want)
			}
			tops = append(tops, got)
		}
		if d.many[i] > 0 {
			checkSum(t, "DealTop", tops)
		}
		for j := range impl.Tubes {
			alike, ok := impl.DealAlike(d.many, counts, i, j)
			valid := i != j && d.many[i] > 0 && d.many[j] > 0
			if ok != valid || valid && alike != pairOf(alikeModel(d)) || !valid && alike != [2]int{} {
				t.Fatalf("DealAlike(%v, %d, %d) = %v, %v", d, i, j, alike, ok)
			}
		}
	}
}

func TestManyDeals(t *testing.T) {
	same := 0
	for _, d := range someDeals() {
		checkManyDeals(t, d)
		if f, _ := impl.DealSame(d.many, d.counts()); f[0] > 0 && f[1] > 1000 {
			same++
		}
	}
	if same < 5 {
		t.Error("only", same, "small chances of the same colors")
	}
}

func TestDealExamples(t *testing.T) {
	full := [6]int{4, 4, 4, 4, 4, 4}
	for _, c := range []struct {
		name       string
		many       [6]int
		counts     [6]int
		runs, same [2]int
		deals      int
	}{
		{"no layers", [6]int{}, [6]int{}, [2]int{0, 1}, [2]int{1, 1}, 1},
		{"one layer", [6]int{3: 1}, [6]int{5: 1}, [2]int{1, 1}, [2]int{1, 1}, 1},
		{"one color", [6]int{4, 0, 3, 1}, [6]int{2: 8}, [2]int{3, 1}, [2]int{1, 1}, 1},
		{"one color everywhere", full, [6]int{1: 24}, [2]int{6, 1}, [2]int{1, 1}, 1},
		{"two layers", [6]int{2}, [6]int{0, 1, 1}, [2]int{2, 1}, [2]int{0, 1}, 2},
		{"one layer each", [6]int{1, 1}, [6]int{0, 1, 1}, [2]int{2, 1}, [2]int{1, 1}, 2},
		{"two of three", [6]int{3}, [6]int{0, 2, 1}, [2]int{7, 3}, [2]int{0, 1}, 3},
		{"two in two tubes", [6]int{2, 2}, [6]int{0, 2, 2}, [2]int{10, 3}, [2]int{1, 3}, 6},
		{"more than a tube has", [6]int{4, 2}, [6]int{0, 5, 1}, [2]int{10, 3}, [2]int{0, 1}, 6},
		{"more than one tube has", [6]int{4, 1}, [6]int{0, 1, 4}, [2]int{16, 5}, [2]int{1, 5}, 5},
		{"the most", full, [6]int{0, 5, 5, 5, 5, 4}, [2]int{21, 1}, [2]int{0, 1}, 124672148625024},
	} {
		runs, ok1 := impl.DealRuns(c.many, c.counts)
		same, ok2 := impl.DealSame(c.many, c.counts)
		deals, ok3 := impl.CountDeals(c.many, c.counts)
		if !ok1 || !ok2 || !ok3 || runs != c.runs || same != c.same || deals != c.deals {
			t.Error(c.name, runs, same, deals, ok1, ok2, ok3)
		}
	}
}

func TestTopsOfDealsExamples(t *testing.T) {
	many, counts := [6]int{2, 0, 1, 0, 0, 3}, [6]int{0, 3, 2, 0, 1}
	for color, want := range [][2]int{{}, {1, 2}, {1, 3}, {0, 1}, {1, 6}, {0, 1}, {}} {
		for _, i := range []int{0, 2, 5} {
			if top, ok := impl.DealTop(many, counts, i, color); ok != (want != [2]int{}) || top != want {
				t.Error("DealTop", i, color, top, ok)
			}
		}
		for _, i := range []int{1, 3, 4} {
			if top, ok := impl.DealTop(many, counts, i, color); ok != (want != [2]int{}) || top != [2]int{0, want[1] / max(want[1], 1)} {
				t.Error("DealTop of an empty tube", i, color, top, ok)
			}
		}
	}
	for _, p := range [][2]int{{0, 2}, {2, 0}, {0, 5}, {5, 0}, {2, 5}, {5, 2}} {
		if alike, ok := impl.DealAlike(many, counts, p[0], p[1]); !ok || alike != [2]int{4, 15} {
			t.Error("DealAlike", p, alike, ok)
		}
	}
	if top, ok := impl.DealTop([6]int{}, [6]int{}, 0, 1); !ok || top != [2]int{0, 1} {
		t.Error("DealTop of no layers", top, ok)
	}
}

func callsOfDeal(many [6]int, counts [6]int) []rackCall {
	runs, ok1 := impl.DealRuns(many, counts)
	same, ok2 := impl.DealSame(many, counts)
	deals, ok3 := impl.CountDeals(many, counts)
	return []rackCall{{"DealRuns", ok1, runs == [2]int{}}, {"DealSame", ok2, same == [2]int{}}, {"CountDeals", ok3, deals == 0}}
}

func callsOfDealTop(many [6]int, counts [6]int, i int, color int) []rackCall {
	top, ok := impl.DealTop(many, counts, i, color)
	return []rackCall{{"DealTop", ok, top == [2]int{}}}
}

func callsOfDealTops(many [6]int, counts [6]int, i int, j int) []rackCall {
	alike, ok := impl.DealAlike(many, counts, i, j)
	return []rackCall{{"DealAlike", ok, alike == [2]int{}}}
}

func allDealCalls(many [6]int, counts [6]int) []rackCall {
	calls := callsOfDeal(many, counts)
	for i := range impl.Tubes {
		for n := range impl.Tubes {
			calls = slices.Concat(calls, callsOfDealTop(many, counts, i, n), callsOfDealTops(many, counts, i, n))
		}
	}
	return calls
}

// badDeal is one that nothing can be dealt by.
type badDeal struct{ many, counts [6]int }

// badDeals have one fault each, at each of the places.
func badDeals() []badDeal {
	outer := []int{-1, 5, 6, 8, 25, 256, 257, 1 << 32, math.MaxInt, math.MinInt, math.MaxInt - 1, math.MinInt + 1}
	base := badDeal{[6]int{2, 4, 1, 3, 0, 2}, [6]int{0, 4, 3, 0, 4, 1}}
	var bad []badDeal
	add := func(change func(d *badDeal)) {
		d := base
		change(&d)
		bad = append(bad, d)
	}
	for i := range impl.Tubes {
		for _, n := range outer {
			add(func(d *badDeal) { d.many[i] = n })
			// The counts of these add up to the numbers of layers again.
			add(func(d *badDeal) { d.counts[4] += n - d.many[i]; d.many[i] = n })
			add(func(d *badDeal) { d.many[(i+1)%6] += d.many[i] - n; d.many[i] = n })
		}
		add(func(d *badDeal) { d.many[i]++ })
		add(func(d *badDeal) { d.many[i]-- })
	}
	for c := range 6 {
		for _, n := range slices.Concat(outer, []int{-2, -24, 24}) {
			add(func(d *badDeal) { d.counts[c] = n })
			if other := 1 + c%5; n < 0 || n > 12 || c == 0 {
				add(func(d *badDeal) { d.counts[other] += d.counts[c] - n; d.counts[c] = n })
			}
		}
		add(func(d *badDeal) { d.counts[c]++ })
		add(func(d *badDeal) { d.counts[c]-- })
	}
	return append(bad, roundDeals()...)
}

// roundDeals are bad ones whose numbers add up only where integers wrap around, or which have few
// layers.
func roundDeals() []badDeal {
	quarter := 1 << 62
	none, one := [6]int{}, [6]int{1}
	return []badDeal{
		{none, [6]int{0, quarter, quarter, quarter, quarter}}, {none, [6]int{0, math.MinInt, math.MinInt}},
		{none, [6]int{0, math.MaxInt, math.MinInt, 1}}, {none, [6]int{quarter, quarter, quarter, quarter}},
		{none, [6]int{0, math.MaxInt, math.MaxInt, 2}}, {none, [6]int{0, 1, -1}}, {none, [6]int{0, -1, 1}}, {none, [6]int{1}},
		{none, [6]int{-1, 1}}, {none, [6]int{1, -1}}, {none, [6]int{0, 1}}, {none, [6]int{0, 0, 0, 0, 0, -1}},
		{one, none}, {one, [6]int{1}}, {one, [6]int{0, 2}}, {one, [6]int{0, 2, -1}}, {one, [6]int{0, -1, 2}}, {one, [6]int{1, 1, -1}},
		{one, [6]int{0, math.MinInt, math.MinInt + 1}}, {one, [6]int{0, math.MaxInt, 0, math.MaxInt, 3}},
		{[6]int{quarter, quarter, quarter, quarter}, none}, {[6]int{math.MinInt, math.MinInt}, none}, {[6]int{1, -1}, none},
		{[6]int{math.MaxInt, math.MaxInt, 2}, none}, {[6]int{math.MaxInt, math.MinInt, 1}, none}, {[6]int{-1, 2}, [6]int{0, 1}},
		{[6]int{5}, [6]int{0, 5}}, {[6]int{5}, [6]int{0, 1, 1, 1, 1, 1}}, {[6]int{4, 4, 4, 4, 4, 5}, [6]int{0, 25}},
		{[6]int{math.MaxInt}, [6]int{0, math.MaxInt}}, {[6]int{math.MinInt}, [6]int{0, math.MinInt}}, {[6]int{-1}, [6]int{0, -1}},
		{[6]int{4, 4, 4, 4, 4, 4}, [6]int{0, 25}}, {[6]int{4, 4, 4, 4, 4, 4}, [6]int{24}}, {[6]int{4, 4, 4, 4, 4, 4}, [6]int{1, 23}},
	}
}

func TestDealsFailForBadDeals(t *testing.T) {
	for _, d := range badDeals() {
		wantFailed(t, allDealCalls(d.many, d.counts), d.many, d.counts)
	}
}

func TestDealTopsFailForOuterNumbers(t *testing.T) {
	for _, d := range someDeals()[:60] {
		counts := d.counts()
		for _, i := range outerPlaces {
			for n := -1; n <= 6; n++ {
				wantFailed(t, callsOfDealTop(d.many, counts, i, n), d, i, n)
				wantFailed(t, callsOfDealTops(d.many, counts, i, n), d, i, n)
				wantFailed(t, callsOfDealTops(d.many, counts, n, i), d, n, i)
			}
			wantFailed(t, callsOfDealTops(d.many, counts, i, i), d, i, i)
		}
		for i := range impl.Tubes {
			wantFailed(t, callsOfDealTops(d.many, counts, i, i), d, i, i)
			for _, color := range outerColors {
				wantFailed(t, callsOfDealTop(d.many, counts, i, color), d, i, color)
			}
			for j := range impl.Tubes {
				if d.many[i] == 0 || d.many[j] == 0 {
					wantFailed(t, callsOfDealTops(d.many, counts, i, j), d, i, j)
				}
			}
		}
	}
}

func TestDealsKeepTheirArguments(t *testing.T) {
	for _, d := range someDeals()[:100] {
		many, counts := d.many, d.counts()
		first := allDealCalls(many, counts)
		runs, _ := impl.DealRuns(many, counts)
		again, _ := impl.DealRuns(many, counts)
		if many != d.many || counts != d.counts() || runs != again || !slices.Equal(first, allDealCalls(many, counts)) {
			t.Fatalf("%v is now %v, %v", d, many, counts)
		}
	}
}
