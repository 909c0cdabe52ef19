package tests

import (
	"math"
	"math/big"
	"math/rand"
	"slices"
	"strings"
	"testing"

	"loop.example/g01215/impl"
)

// Hidden layers are held against a model on the texts of tubes (see l2_racks_test.go) that lists all
// candidates and counts among them; Views with too many of them for this are held against products
// of fractions.

func modelView(tubes [6]string) impl.View {
	v := impl.View{}
	for i, tube := range tubes {
		v.Many[i] = len(tube)
		for k := range len(tube) {
			v.Tops[i] = int(tube[k]-'a') + 1
			v.Counts[v.Tops[i]]++
		}
	}
	return v
}

func modelHidden(tubes [6]string) string {
	hidden := ""
	for _, tube := range tubes {
		hidden += tube[:max(len(tube)-1, 0)]
	}
	return hidden
}

// shuffles returns all different texts with the same colors.
func shuffles(text string) []string {
	if text == "" {
		return []string{""}
	}
	var all []string
	for k := range modelColors {
		first := modelColors[k : k+1]
		if rest := strings.Replace(text, first, "", 1); rest != text {
			for _, s := range shuffles(rest) {
				all = append(all, first+s)
			}
		}
	}
	return all
}

// modelCandidates returns all candidates of the View of tubes, in the order of texts, which is that
// of their Racks.
func modelCandidates(tubes [6]string) [][6]string {
	var all [][6]string
	for _, hidden := range shuffles(modelHidden(tubes)) {
		candidate := [6]string{}
		for i, tube := range tubes {
			if tube != "" {
				below := len(tube) - 1
				candidate[i] = hidden[:below] + tube[below:]
				hidden = hidden[below:]
			}
		}
		all = append(all, candidate)
	}
	slices.SortFunc(all, func(a, b [6]string) int { return strings.Compare(textOf(a), textOf(b)) })
	return all
}

// manyCandidates returns how many there are.
func manyCandidates(tubes [6]string) int64 {
	hidden := modelHidden(tubes)
	many := new(big.Int).MulRange(1, int64(len(hidden)))
	for k := range modelColors {
		same := strings.Count(hidden, modelColors[k:k+1])
		many.Div(many, new(big.Int).MulRange(1, int64(same)))
	}
	return many.Int64()
}

// hiddenTubes are many tubes of all kinds, with at most so many candidates.
func hiddenTubes(t *testing.T, most int64) [][6]string {
	t.Helper()
	all := boundTubes(t)
	for _, text := range []string{
		"aaa./bc../..../..../..../....", "aaab/bb../..../..../..../....", "aaaa/..../..../..../..../....",
		"abcd/abcd/..../..../..../....", "eeee/dddd/..../..../..../....", "ba../aa../a.../a.../..../....",
		"a.../a.../a.../a.../a.../a...", "aaaa/aaaa/aaaa/aaaa/aaaa/aaaa", "bbba/bbba/bbba/bbba/bbba/bbba",
		"aab./aab./aab./b.../..../....", "..../aba./..../aba./..../a...", "cab./..../cba./c.../b.../a...",
	} {
		all = append(all, tubesOf(t, text))
	}
	return slices.DeleteFunc(all, func(tubes [6]string) bool { return manyCandidates(tubes) > most })
}

func lowest(part int, whole int) [2]int { return pairOf(big.NewRat(int64(part), int64(whole))) }

// pairOf returns a fraction in lowest terms, in which big.Rat keeps all of them.
func pairOf(r *big.Rat) [2]int { return [2]int{int(r.Num().Int64()), int(r.Denom().Int64())} }

func ratOf(f [2]int) *big.Rat { return big.NewRat(int64(f[0]), int64(f[1])) }

// shareOf returns how many of all candidates are so, as a fraction.
func shareOf(all [][6]string, isSo func([6]string) bool) [2]int {
	n := 0
	for _, tubes := range all {
		if isSo(tubes) {
			n++
		}
	}
	return lowest(n, len(all))
}

func TestViewOf(t *testing.T) {
	for _, tubes := range boundTubes(t) {
		v, ok := impl.ViewOf(rackOf(tubes))
		if !ok || v != modelView(tubes) {
			t.Fatalf("ViewOf(%s) = %v, %v, not %v", textOf(tubes), v, ok, modelView(tubes))
		}
		if !impl.IsView(v) {
			t.Fatalf("%v is no View of %s", v, textOf(tubes))
		}
	}
}

func TestViewOfExamples(t *testing.T) {
	for _, c := range []struct {
		text   string
		view   impl.View
		hidden int
		counts [6]int
	}{
		{"..../..../..../..../..../....", impl.View{}, 0, [6]int{}},
		{"ab../ba../..../..../..../....", impl.View{Tops: [6]int{2, 1}, Many: [6]int{2, 2}, Counts: [6]int{0, 2, 2}}, 2, [6]int{0, 1, 1}},
		{"a.../b.../..../d.../e.../a...", impl.View{Tops: [6]int{1, 2, 0, 4, 5, 1}, Many: [6]int{1, 1, 0, 1, 1, 1}, Counts: [6]int{0, 2, 1, 0, 1, 1}}, 0, [6]int{}},
		{"..../..../..../..../..../eeee", impl.View{Tops: [6]int{5: 5}, Many: [6]int{5: 4}, Counts: [6]int{5: 4}}, 3, [6]int{5: 3}},
		{"abaa/b.../aa../..../..../....", impl.View{Tops: [6]int{1, 2, 1}, Many: [6]int{4, 1, 2}, Counts: [6]int{0, 5, 2}}, 4, [6]int{0, 3, 1}},
		{"aaaa/aaaa/aaaa/aaaa/aaaa/aaaa", impl.View{Tops: [6]int{1, 1, 1, 1, 1, 1}, Many: [6]int{4, 4, 4, 4, 4, 4}, Counts: [6]int{0, 24}}, 18, [6]int{0, 18}},
	} {
		v, ok := impl.ViewOf(rackOf(tubesOf(t, c.text)))
		if !ok || v != c.view {
			t.Error(c.text, v, ok)
		}
		if n, counts, ok := impl.CountHidden(c.view); !ok || n != c.hidden || counts != c.counts {
			t.Error(c.text, n, counts, ok)
		}
	}
}

// All that could be the View of two tubes of two colors is one exactly if some Rack has it.
func TestIsViewOfTwoTubes(t *testing.T) {
	known := map[impl.View]bool{}
	for _, x := range textsOver("ab", 4) {
		for _, y := range textsOver("ab", 4) {
			known[modelView([6]string{x, y})] = true
		}
	}
	found := 0
	for _, tops := range pairsTo(3) {
		for _, many := range pairsTo(5) {
			for _, counts := range pairsTo(9) {
				v := impl.View{Tops: [6]int{tops[0], tops[1]}, Many: [6]int{many[0], many[1]}, Counts: [6]int{0, counts[0], counts[1]}}
				if impl.IsView(v) != known[v] {
					t.Fatalf("IsView(%v) is not %v", v, known[v])
				}
				if known[v] {
					found++
				}
			}
		}
	}
	if found != len(known) {
		t.Error(found, "of", len(known), "Views")
	}
}

// pairsTo returns all pairs of numbers in -1..most.
func pairsTo(most int) [][2]int {
	var all [][2]int
	for a := -1; a <= most; a++ {
		for b := -1; b <= most; b++ {
			all = append(all, [2]int{a, b})
		}
	}
	return all
}

// badViews returns Views that no Rack has.
func badViews() []impl.View {
	base := modelView([6]string{"ab", "cbaa", "", "aab", "d", "dbdb"})
	outer := []int{-1, 6, 7, 257, math.MaxInt, math.MinInt, 1 << 32}
	var bad []impl.View
	add := func(change func(v *impl.View)) {
		v := base
		change(&v)
		bad = append(bad, v)
	}
	for i := range impl.Tubes {
		for _, n := range outer {
			add(func(v *impl.View) { v.Tops[i] = n })
			add(func(v *impl.View) { v.Many[i] = n })
		}
		add(func(v *impl.View) { v.Many[i]++ })
		add(func(v *impl.View) { v.Many[i]-- })
		add(func(v *impl.View) { v.Many[i], v.Counts[2] = 5, v.Counts[2]+5-v.Many[i] })
		add(func(v *impl.View) { v.Many[i], v.Many[(i+1)%6] = -1, v.Many[i]+v.Many[(i+1)%6]+1 })
		if base.Tops[i] == 0 {
			add(func(v *impl.View) { v.Tops[i] = 1 })
			add(func(v *impl.View) { v.Many[i], v.Counts[1] = 1, v.Counts[1]+1 })
		} else {
			add(func(v *impl.View) { v.Tops[i] = 0 })
			add(func(v *impl.View) { v.Tops[i] = 5 }) // a top of a color that there is not
			add(func(v *impl.View) { v.Counts[v.Tops[i]], v.Counts[5] = 0, v.Counts[v.Tops[i]] })
		}
	}
	for c := range 6 {
		for _, n := range outer {
			add(func(v *impl.View) { v.Counts[c] = n })
			add(func(v *impl.View) { v.Counts[c] -= n })
		}
		add(func(v *impl.View) { v.Counts[c]++ })
		add(func(v *impl.View) { v.Counts[c]-- })
		add(func(v *impl.View) { v.Counts[c], v.Counts[(c+1)%6] = -1, v.Counts[c]+v.Counts[(c+1)%6]+1 })
	}
	add(func(v *impl.View) { v.Counts[0], v.Counts[2] = 1, v.Counts[2]-1 })
	return append(bad, roundViews()...)
}

// roundViews are bad ones whose numbers are extreme, so that they add up only where integers wrap
// around, or whose few tubes have only one fault.
func roundViews() []impl.View {
	quarter := 1 << 62
	return []impl.View{
		{Counts: [6]int{0, quarter, quarter, quarter, quarter, 0}},
		{Counts: [6]int{0, math.MinInt, math.MinInt}},
		{Counts: [6]int{0, math.MaxInt, math.MinInt, 1}},
		{Counts: [6]int{quarter, quarter, quarter, quarter}},
		{Tops: [6]int{1}, Many: [6]int{1}, Counts: [6]int{0, math.MinInt, math.MinInt + 1}},
		{Tops: [6]int{1, 2}, Many: [6]int{2, 2}, Counts: [6]int{0, math.MinInt, math.MinInt, 4}},
		{Tops: [6]int{1}, Many: [6]int{1}, Counts: [6]int{0, math.MaxInt, 2, math.MaxInt, 0, 1}},
		{Tops: [6]int{1, 1, 1, 1}, Many: [6]int{quarter, quarter, quarter, quarter}},
		{Tops: [6]int{1, 2}, Many: [6]int{math.MinInt, math.MinInt}},
		{Tops: [6]int{1, 2}, Many: [6]int{math.MaxInt, math.MinInt}, Counts: [6]int{0, math.MaxInt, math.MinInt}},
		{Tops: [6]int{0, 0}, Many: [6]int{1, -1}},
		{Tops: [6]int{1, 0}, Many: [6]int{2, -1}, Counts: [6]int{0, 1}},
		{Tops: [6]int{1, 2}, Many: [6]int{1, 1}, Counts: [6]int{0, 2}},
		{Tops: [6]int{1, 1, 1}, Many: [6]int{1, 1, 2}, Counts: [6]int{0, 2, 2}},
		{Tops: [6]int{1}, Many: [6]int{0}, Counts: [6]int{0, 0}},
		{Tops: [6]int{0}, Many: [6]int{4}, Counts: [6]int{0, 4}},
		{Tops: [6]int{6}, Many: [6]int{1}, Counts: [6]int{1}},
		{Tops: [6]int{0}, Many: [6]int{1}, Counts: [6]int{1}},
	}
}

// checkCandidates holds all candidates against their ranks and the View.
func checkCandidates(t *testing.T, v impl.View, all [][6]string) {
	t.Helper()
	if n, ok := impl.CountCandidates(v); !ok || n != len(all) {
		t.Fatalf("CountCandidates(%v) = %d, %v, not %d", v, n, ok, len(all))
	}
	if first, ok := impl.FirstCandidate(v); !ok || first != rackOf(all[0]) {
		t.Fatalf("FirstCandidate(%v) = %v, %v, not %s", v, first, ok, textOf(all[0]))
	}
	for rank, tubes := range all {
		r := rackOf(tubes)
		if got, ok := impl.CandidateAt(v, rank); !ok || got != r {
			t.Fatalf("CandidateAt(%v, %d) = %v, %v, not %s", v, rank, got, ok, textOf(tubes))
		}
		if got, ok := impl.RankOfRack(r); !ok || got != rank {
			t.Fatalf("RankOfRack(%s) = %d, %v, not %d", textOf(tubes), got, ok, rank)
		}
		if seen, ok := impl.ViewOf(r); !ok || seen != v {
			t.Fatalf("ViewOf(%s) = %v, %v, not %v", textOf(tubes), seen, ok, v)
		}
	}
	for _, rank := range []int{-1, -2, len(all), len(all) + 1, math.MaxInt, math.MinInt} {
		if got, ok := impl.CandidateAt(v, rank); ok || got != (impl.Rack{}) {
			t.Fatalf("CandidateAt(%v, %d) = %v, %v", v, rank, got, ok)
		}
	}
}

func checkHidden(t *testing.T, v impl.View, tubes [6]string) {
	t.Helper()
	hidden := modelHidden(tubes)
	counts := [6]int{}
	for k, color := range modelColors {
		counts[k+1] = strings.Count(hidden, string(color))
	}
	if n, got, ok := impl.CountHidden(v); !ok || n != len(hidden) || got != counts {
		t.Fatalf("CountHidden(%v) = %d, %v, %v, not %v", v, n, got, ok, counts)
	}
}

func TestCandidates(t *testing.T) {
	looked := map[impl.View]bool{}
	most := 0
	for _, tubes := range hiddenTubes(t, 1000) {
		v := modelView(tubes)
		if looked[v] {
			continue
		}
		looked[v] = true
		all := modelCandidates(tubes)
		checkHidden(t, v, tubes)
		checkCandidates(t, v, all)
		most = max(most, len(all))
	}
	if len(looked) < 300 || most < 700 {
		t.Error("only", len(looked), "Views, and", most, "candidates at most")
	}
}

func TestCandidatesExamples(t *testing.T) {
	for _, c := range []struct {
		name, text string
		candidates []string
	}{
		{"empty", "..../..../..../..../..../....", []string{"..../..../..../..../..../...."}},
		{"no hidden layers", "b.../a.../..../b.../..../c...", []string{"b.../a.../..../b.../..../c..."}},
		{"one color", "aaaa/aa../..../a.../..../....", []string{"aaaa/aa../..../a.../..../...."}},
		{"two", "ba../ab../..../..../..../....", []string{"aa../bb../..../..../..../....", "ba../ab../..../..../..../...."}},
		{"a tube of one layer between", "ba../c.../..../ab../..../....", []string{"aa../c.../..../bb../..../....", "ba../c.../..../ab../..../...."}},
		{"in one tube", "..../..../..../..../..../cbad", []string{
			"..../..../..../..../..../abcd", "..../..../..../..../..../acbd", "..../..../..../..../..../bacd",
			"..../..../..../..../..../bcad", "..../..../..../..../..../cabd", "..../..../..../..../..../cbad",
		}},
		{"some of the same color", "aab./..../..../..../..../dc..", []string{
			"aab./..../..../..../..../dc..", "adb./..../..../..../..../ac..", "dab./..../..../..../..../ac..",
		}},
	} {
		var all [][6]string
		for _, text := range c.candidates {
			all = append(all, tubesOf(t, text))
		}
		t.Run(c.name, func(t *testing.T) { checkCandidates(t, modelView(tubesOf(t, c.text)), all) })
	}
}

// fullTubes are tubes with more candidates than can be listed.
func fullTubes(t *testing.T) [][6]string {
	t.Helper()
	return slices.DeleteFunc(boundTubes(t), func(tubes [6]string) bool { return manyCandidates(tubes) <= 1000 })
}

func TestRanksOfManyCandidates(t *testing.T) {
	source := rand.New(rand.NewSource(21))
	greatest := int64(0)
	for _, tubes := range fullTubes(t) {
		v, many := modelView(tubes), manyCandidates(tubes)
		greatest = max(greatest, many)
		if n, ok := impl.CountCandidates(v); !ok || n != int(many) {
			t.Fatalf("CountCandidates(%v) = %d, %v, not %d", v, n, ok, many)
		}
		first, ok := impl.FirstCandidate(v)
		if zero, ok2 := impl.CandidateAt(v, 0); !ok || !ok2 || first != zero {
			t.Fatalf("FirstCandidate(%v) = %v, %v", v, first, ok)
		}
		for _, rank := range []int{0, int(many) - 2, int(source.Int63n(many - 1)), int(source.Int63n(many - 1))} {
			a, ok := impl.CandidateAt(v, rank)
			b, ok2 := impl.CandidateAt(v, rank+1)
			if less, _ := impl.LessRack(a, b); !ok || !ok2 || !less {
				t.Fatalf("CandidateAt(%v, %d and one more) = %v, %v, %v, %v", v, rank, a, ok, b, ok2)
			}
			seen, _ := impl.ViewOf(a)
			if again, ok := impl.RankOfRack(a); !ok || again != rank || seen != v {
				t.Fatalf("RankOfRack(%v) = %d, %v, not %d of %v", a, again, ok, rank, v)
			}
		}
		rank, ok := impl.RankOfRack(rackOf(tubes))
		if again, ok2 := impl.CandidateAt(v, rank); !ok || !ok2 || again != rackOf(tubes) {
			t.Fatalf("CandidateAt(%v, %d) = %v, %v, not %s", v, rank, again, ok2, textOf(tubes))
		}
		if none, ok := impl.CandidateAt(v, int(many)); ok || none != (impl.Rack{}) {
			t.Fatalf("CandidateAt(%v, %d) = %v, %v", v, many, none, ok)
		}
	}
	if greatest < 1e9 {
		t.Error("only", greatest, "candidates at most")
	}
}

func TestTheMostCandidates(t *testing.T) {
	first, last := tubesOf(t, "aaae/abbd/bbcc/cccb/ddda/eeee"), tubesOf(t, "eeee/dddd/cccc/cbbb/bbaa/aaae")
	v := modelView(first)
	const many = 12864852000 // 18 hidden layers, 4, 4, 4, 3 and 3 of which have the same color
	if n, ok := impl.CountCandidates(v); !ok || n != many || modelView(last) != v {
		t.Error(n, ok)
	}
	for rank, tubes := range map[int][6]string{0: first, many - 1: last} {
		if got, ok := impl.RankOfRack(rackOf(tubes)); !ok || got != rank {
			t.Error(textOf(tubes), got, ok)
		}
		if got, ok := impl.CandidateAt(v, rank); !ok || got != rackOf(tubes) {
			t.Error(rank, got, ok)
		}
	}
	for _, rank := range []int{-1, many, many + 1, math.MaxInt, math.MinInt} {
		if got, ok := impl.CandidateAt(v, rank); ok || got != (impl.Rack{}) {
			t.Error(rank, got, ok)
		}
	}
	if sorted, ok := impl.ChanceSorted(v); !ok || sorted != [2]int{0, 1} {
		t.Error(sorted, ok)
	}
}

// checkSum adds the chances of a tube, each of which has to be in lowest terms.
func checkSum(t *testing.T, name string, chances [][2]int) {
	t.Helper()
	sum := new(big.Rat)
	for _, c := range chances {
		if c[1] < 1 || c[0] < 0 || pairOf(ratOf(c)) != c {
			t.Fatalf("%s has the chance %v", name, c)
		}
		sum.Add(sum, ratOf(c))
	}
	if sum.Cmp(big.NewRat(1, 1)) != 0 {
		t.Fatalf("%s: %v are not 1 together", name, chances)
	}
}

// checkTubeChances holds the chances of one tube against all candidates.
func checkTubeChances(t *testing.T, v impl.View, all [][6]string, i int) {
	t.Helper()
	many := len(all[0][i])
	var below, tops [][2]int
	for color := -1; color <= 7; color++ {
		want, valid := [2]int{}, many >= 2 && color >= 1 && color <= 5
		if valid {
			want = shareOf(all, func(tubes [6]string) bool { return tubes[i][many-2] == modelColors[color-1] })
			below = append(below, want)
		}
		if got, ok := impl.ChanceBelow(v, i, color); ok != valid || got != want {
			t.Fatalf("ChanceBelow(%v, %d, %d) = %v, %v, not %v, %v", v, i, color, got, ok, want, valid)
		}
	}
	for run := -1; run <= 6; run++ {
		want, valid := [2]int{}, many >= 1 && run >= 1 && run <= 4
		if valid {
			want = shareOf(all, func(tubes [6]string) bool { return topSize(tubes[i]) == run })
			tops = append(tops, want)
		}
		if got, ok := impl.ChanceTop(v, i, run); ok != valid || got != want {
			t.Fatalf("ChanceTop(%v, %d, %d) = %v, %v, not %v, %v", v, i, run, got, ok, want, valid)
		}
	}
	if many >= 2 {
		checkSum(t, "ChanceBelow", below)
	}
	if many >= 1 {
		checkSum(t, "ChanceTop", tops)
	}
}

// movedNumbers returns those of all candidates, in their order.
func movedNumbers(all [][6]string, i int, j int) []int {
	var numbers []int
	for _, tubes := range all {
		_, _, moved := poured(tubes[i], tubes[j])
		numbers = append(numbers, moved)
	}
	return numbers
}

// checkMoved holds one pour against all candidates, and returns whether it is possible and certain.
func checkMoved(t *testing.T, v impl.View, all [][6]string, i int, j int) (bool, bool) {
	t.Helper()
	numbers := movedNumbers(all, i, j)
	least, most := slices.Min(numbers), slices.Max(numbers)
	possible := least > 0
	if most > 0 && !possible {
		t.Fatalf("a pour from %d to %d is possible for some candidates of %v", i, j, v)
	}
	if can, ok := impl.CanPourAt(v, i, j); !ok || can != possible {
		t.Fatalf("CanPourAt(%v, %d, %d) = %v, %v", v, i, j, can, ok)
	}
	sum, mean := 0, [2]int{}
	for _, n := range numbers {
		sum += n
	}
	if possible {
		mean = lowest(sum, len(all))
	}
	if got, ok := impl.MeanMoved(v, i, j); ok != possible || got != mean {
		t.Fatalf("MeanMoved(%v, %d, %d) = %v, %v, not %v", v, i, j, got, ok, mean)
	}
	return possible, possible && least == most
}

func TestChancesAgainstAllCandidates(t *testing.T) {
	sure, unsure, even := 0, 0, 0
	for _, tubes := range hiddenTubes(t, 150) {
		v, all := modelView(tubes), modelCandidates(tubes)
		var certain [][2]int
		for i := range tubes {
			checkTubeChances(t, v, all, i)
			for j := range tubes {
				if i == j {
					continue
				}
				possible, same := checkMoved(t, v, all, i, j)
				if mean, _ := impl.MeanMoved(v, i, j); same {
					certain = append(certain, [2]int{i, j})
				} else if possible && mean[1] == 1 {
					even++
				} else if possible {
					unsure++
				}
			}
		}
		sure += len(certain)
		if got, ok := impl.CertainPours(v); !ok || !slices.Equal(got, certain) {
			t.Fatalf("CertainPours(%v) = %v, %v, not %v", v, got, ok, certain)
		}
		if got, ok := impl.ChanceSorted(v); !ok || got != shareOf(all, isSortedModel) {
			t.Fatalf("ChanceSorted(%v) = %v, %v, not %v", v, got, ok, shareOf(all, isSortedModel))
		}
	}
	if sure < 500 || unsure < 500 || even < 5 {
		t.Error("only", sure, "certain pours,", unsure, "others, and", even, "with a whole mean")
	}
}

// longTopModel multiplies the chances that hidden layers are of the color of a top, drawn one by one.
func longTopModel(v impl.View, hidden [6]int, i int, least int) *big.Rat {
	chance, all := big.NewRat(1, 1), 0
	for _, n := range hidden {
		all += n
	}
	if least > v.Many[i] {
		return new(big.Rat)
	}
	for k := range least - 1 {
		chance.Mul(chance, big.NewRat(int64(max(hidden[v.Tops[i]]-k, 0)), int64(all-k)))
	}
	return chance
}

func TestChancesOfManyCandidates(t *testing.T) {
	for _, tubes := range fullTubes(t) {
		v := modelView(tubes)
		n, hidden, _ := impl.CountHidden(v)
		for i, tube := range tubes {
			var below, tops [][2]int
			for color := 1; color <= 5 && len(tube) >= 2; color++ {
				got, ok := impl.ChanceBelow(v, i, color)
				below = append(below, got)
				if !ok || got != lowest(hidden[color], n) {
					t.Fatalf("ChanceBelow(%v, %d, %d) = %v, %v", v, i, color, got, ok)
				}
			}
			for run := 1; run <= 4 && tube != ""; run++ {
				want := longTopModel(v, hidden, i, run)
				want.Sub(want, longTopModel(v, hidden, i, run+1))
				got, ok := impl.ChanceTop(v, i, run)
				tops = append(tops, got)
				if !ok || got != pairOf(want) {
					t.Fatalf("ChanceTop(%v, %d, %d) = %v, %v, not %v", v, i, run, got, ok, want)
				}
			}
			if len(tube) >= 2 {
				checkSum(t, "ChanceBelow", below)
			}
			if tube != "" {
				checkSum(t, "ChanceTop", tops)
			}
		}
		checkPoursByTops(t, tubes)
	}
}

// checkPoursByTops holds pours against the chances of their tops.
func checkPoursByTops(t *testing.T, tubes [6]string) {
	t.Helper()
	v := modelView(tubes)
	var certain [][2]int
	for _, p := range modelPours(tubes) {
		i, j := p.source.From, p.source.To
		mean, numbers := new(big.Rat), map[int]bool{}
		for run := 1; run <= 4; run++ {
			chance, _ := impl.ChanceTop(v, i, run)
			moved := min(run, 4-len(tubes[j]))
			mean.Add(mean, new(big.Rat).Mul(ratOf(chance), big.NewRat(int64(moved), 1)))
			if chance[0] > 0 {
				numbers[moved] = true
			}
		}
		if got, ok := impl.MeanMoved(v, i, j); !ok || got != pairOf(mean) {
			t.Fatalf("MeanMoved(%v, %d, %d) = %v, %v, not %v", v, i, j, got, ok, mean)
		}
		if len(numbers) == 1 {
			certain = append(certain, p.pour())
		}
	}
	if got, ok := impl.CertainPours(v); !ok || !slices.Equal(got, certain) {
		t.Fatalf("CertainPours(%v) = %v, %v, not %v", v, got, ok, certain)
	}
}

func TestChancesExamples(t *testing.T) {
	for _, c := range []struct {
		name, text          string
		i, color, run       int
		below, top, sorted  [2]int
		belowFails, isEmpty bool
	}{
		{"two tubes", "ab../ba../..../..../..../....", 0, 2, 2, [2]int{1, 2}, [2]int{1, 2}, [2]int{1, 2}, false, false},
		{"lowest terms", "abcb/ab../..../..../..../....", 0, 1, 1, [2]int{1, 2}, [2]int{3, 4}, [2]int{0, 1}, false, false},
		{"sure of the same color", "aaaa/..../..../..../..../....", 0, 1, 4, [2]int{1, 1}, [2]int{1, 1}, [2]int{1, 1}, false, false},
		{"sure of another color", "aaab/..../..../..../..../....", 0, 1, 1, [2]int{1, 1}, [2]int{1, 1}, [2]int{0, 1}, false, false},
		{"a color that is not hidden", "aaab/..../..../..../..../....", 0, 2, 2, [2]int{0, 1}, [2]int{0, 1}, [2]int{0, 1}, false, false},
		{"a color that there is not", "ab../ba../..../..../..../....", 1, 5, 1, [2]int{0, 1}, [2]int{1, 2}, [2]int{1, 2}, false, false},
		{"a run longer than the tube", "bb../bb../..../..../..../....", 1, 2, 3, [2]int{1, 1}, [2]int{0, 1}, [2]int{0, 1}, false, false},
		{"too few of the color", "aaab/bbba/..../..../..../....", 0, 2, 4, [2]int{1, 2}, [2]int{1, 20}, [2]int{1, 20}, false, false},
		{"one layer", "a.../bb../..../..../..../....", 0, 2, 1, [2]int{}, [2]int{1, 1}, [2]int{1, 1}, true, false},
		{"one layer, not two", "a.../bb../..../..../..../....", 0, 2, 2, [2]int{}, [2]int{0, 1}, [2]int{1, 1}, true, false},
		{"an empty tube", "a.../bb../..../..../..../....", 2, 1, 1, [2]int{}, [2]int{}, [2]int{1, 1}, true, true},
		{"all sorted", "aaaa/bbb./..../d.../c.../ee..", 1, 2, 3, [2]int{1, 3}, [2]int{1, 15}, [2]int{1, 60}, false, false},
		{"a color in two tubes", "aa../a.../..../..../..../....", 0, 1, 2, [2]int{1, 1}, [2]int{1, 1}, [2]int{0, 1}, false, false},
		{"two tubes of one layer", "a.../b.../..../..../..../a...", 5, 1, 1, [2]int{}, [2]int{1, 1}, [2]int{0, 1}, true, false},
		{"a hidden color too many", "ab../b.../..../..../..../....", 0, 1, 1, [2]int{1, 1}, [2]int{1, 1}, [2]int{0, 1}, false, false},
	} {
		v := modelView(tubesOf(t, c.text))
		if got, ok := impl.ChanceBelow(v, c.i, c.color); ok == c.belowFails || got != c.below {
			t.Error(c.name, "ChanceBelow", got, ok)
		}
		if got, ok := impl.ChanceTop(v, c.i, c.run); ok == c.isEmpty || got != c.top {
			t.Error(c.name, "ChanceTop", got, ok)
		}
		if got, ok := impl.ChanceSorted(v); !ok || got != c.sorted {
			t.Error(c.name, "ChanceSorted", got, ok)
		}
	}
}

func TestMovedExamples(t *testing.T) {
	for _, c := range []struct {
		name, text string
		i, j       int
		mean       [2]int // of no layers if one cannot pour so
		certain    bool
	}{
		{"into an empty tube", "ab../ba../..../..../..../....", 0, 2, [2]int{3, 2}, false},
		{"room for one layer", "ab../ba../bbb./..../..../....", 0, 2, [2]int{1, 1}, true},
		{"room for all of one color", "bbbb/a.../..../..../..../....", 0, 2, [2]int{4, 1}, true},
		{"room for two of four", "bbbb/bb../..../..../..../....", 0, 1, [2]int{2, 1}, true},
		{"one layer alone", "b.../aba./..../..../..../....", 0, 2, [2]int{1, 1}, true},
		{"no other one is hidden", "aab./cc../..../..../..../....", 0, 2, [2]int{1, 1}, true},
		{"a whole mean of 1, 2 and 3", "aaa./bc../..../..../..../....", 0, 2, [2]int{2, 1}, false},
		{"onto the same color", "aba./b.../a.../..../..../....", 0, 2, [2]int{3, 2}, false},
		{"onto another color", "aba./b.../a.../..../..../....", 0, 1, [2]int{}, false},
		{"onto a full tube", "aba./aaaa/..../..../..../....", 0, 1, [2]int{}, false},
		{"from an empty tube", "aba./b.../..../..../..../....", 2, 1, [2]int{}, false},
		{"both empty", "aba./b.../..../..../..../....", 2, 3, [2]int{}, false},
	} {
		v := modelView(tubesOf(t, c.text))
		possible := c.mean[0] > 0
		if can, ok := impl.CanPourAt(v, c.i, c.j); !ok || can != possible {
			t.Error(c.name, "CanPourAt", can, ok)
		}
		if mean, ok := impl.MeanMoved(v, c.i, c.j); ok != possible || mean != c.mean {
			t.Error(c.name, "MeanMoved", mean, ok)
		}
		certain, ok := impl.CertainPours(v)
		if !ok || slices.Contains(certain, [2]int{c.i, c.j}) != c.certain {
			t.Error(c.name, "CertainPours", certain, ok)
		}
	}
}

func TestCertainPoursExamples(t *testing.T) {
	for text, want := range map[string][][2]int{
		"..../..../..../..../..../....": nil,
		"aaaa/bbbb/cccc/dddd/eeee/aaaa": nil,
		"ab../ba../..../..../..../....": nil,
		"aaaa/aaaa/aaaa/aaaa/aaaa/....": {{0, 5}, {1, 5}, {2, 5}, {3, 5}, {4, 5}},
		"ab../ba../bbb./..../cccc/dddd": {{0, 2}},
		"b.../..../aaaa/cdcd/dcdc/bb..": {{0, 1}, {0, 5}},
	} {
		if got, ok := impl.CertainPours(modelView(tubesOf(t, text))); !ok || !slices.Equal(got, want) {
			t.Error(text, got, ok)
		}
	}
}

func TestViewBehind(t *testing.T) {
	moves := 0
	for _, tubes := range boundTubes(t) {
		r := rackOf(tubes)
		for i := -1; i <= 6; i++ {
			for j := -1; j <= 6; j++ {
				behind, possible := modelBehind(tubes, [2]int{i, j})
				want, wantMoved := impl.View{}, 0
				if possible {
					want, wantMoved = modelView(behind), len(tubes[i])-len(behind[i])
					moves++
				}
				if got, moved, ok := impl.ViewBehind(r, i, j); ok != possible || moved != wantMoved || got != want {
					t.Fatalf("ViewBehind(%s, %d, %d) = %v, %d, %v, not %v, %d", textOf(tubes), i, j, got, moved, ok, want, wantMoved)
				}
			}
		}
	}
	if moves < 2000 {
		t.Error("only", moves, "pours")
	}
}

func TestViewBehindExamples(t *testing.T) {
	for _, c := range []struct {
		name, before, behind string
		i, j, moved          int
	}{
		{"a hidden layer is seen", "ab../ba../..../..../..../....", "a.../ba../b.../..../..../....", 0, 2, 1},
		{"a run that was hidden", "abbb/..../..../..../..../....", "a.../..../..../..../..../bbb.", 0, 5, 3},
		{"a top in part", "baaa/aaa./..../..../..../....", "baa./aaaa/..../..../..../....", 0, 1, 1},
		{"an idle pour", "..../..../..../eeee/..../....", "eeee/..../..../..../..../....", 3, 0, 4},
	} {
		v, moved, ok := impl.ViewBehind(rackOf(tubesOf(t, c.before)), c.i, c.j)
		if !ok || moved != c.moved || v != modelView(tubesOf(t, c.behind)) {
			t.Error(c.name, v, moved, ok)
		}
	}
}

func callsOfView(v impl.View) []rackCall {
	hidden, counts, ok1 := impl.CountHidden(v)
	many, ok2 := impl.CountCandidates(v)
	first, ok3 := impl.FirstCandidate(v)
	zero, ok4 := impl.CandidateAt(v, 0)
	certain, ok5 := impl.CertainPours(v)
	sorted, ok6 := impl.ChanceSorted(v)
	return []rackCall{
		{"CountHidden", ok1, hidden == 0 && counts == [6]int{}}, {"CountCandidates", ok2, many == 0},
		{"FirstCandidate", ok3, first == impl.Rack{}}, {"CandidateAt", ok4, zero == impl.Rack{}},
		{"CertainPours", ok5, len(certain) == 0}, {"ChanceSorted", ok6, sorted == [2]int{}},
	}
}

// callsOfViewTube are those for a tube, with a color or a run.
func callsOfViewTube(v impl.View, i int, n int) []rackCall {
	below, ok1 := impl.ChanceBelow(v, i, n)
	top, ok2 := impl.ChanceTop(v, i, n)
	return []rackCall{{"ChanceBelow", ok1, below == [2]int{}}, {"ChanceTop", ok2, top == [2]int{}}}
}

func callsOfViewPour(v impl.View, i int, j int) []rackCall {
	can, ok1 := impl.CanPourAt(v, i, j)
	mean, ok2 := impl.MeanMoved(v, i, j)
	return []rackCall{{"CanPourAt", ok1, !can}, {"MeanMoved", ok2, mean == [2]int{}}}
}

func TestHiddenFunctionsFailForBadViews(t *testing.T) {
	for _, v := range badViews() {
		if impl.IsView(v) {
			t.Errorf("IsView(%v)", v)
		}
		wantFailed(t, callsOfView(v), v)
		for i := -1; i <= 6; i++ {
			for n := -1; n <= 6; n++ {
				wantFailed(t, callsOfViewTube(v, i, n), v, i, n)
				wantFailed(t, callsOfViewPour(v, i, n), v, i, n)
			}
		}
		for _, rank := range []int{-1, 1, 2, math.MaxInt, math.MinInt} {
			r, ok := impl.CandidateAt(v, rank)
			wantFailed(t, []rackCall{{"CandidateAt", ok, r == impl.Rack{}}}, v, rank)
		}
	}
}

func TestHiddenFunctionsFailForBadRacks(t *testing.T) {
	for _, r := range badRacks() {
		v, ok1 := impl.ViewOf(r)
		rank, ok2 := impl.RankOfRack(r)
		wantFailed(t, []rackCall{{"ViewOf", ok1, v == impl.View{}}, {"RankOfRack", ok2, rank == 0}}, r)
		for i := -1; i <= 6; i++ {
			for j := -1; j <= 6; j++ {
				behind, moved, ok := impl.ViewBehind(r, i, j)
				wantFailed(t, []rackCall{{"ViewBehind", ok, behind == impl.View{} && moved == 0}}, r, i, j)
			}
		}
	}
}

func TestHiddenFunctionsFailForOuterNumbers(t *testing.T) {
	for _, tubes := range hiddenTubes(t, 1000)[:60] {
		v, r := modelView(tubes), rackOf(tubes)
		for _, i := range outerPlaces {
			for n := range 6 {
				wantFailed(t, callsOfViewTube(v, i, n), v, i, n)
				wantFailed(t, callsOfViewPour(v, i, n), v, i, n)
				wantFailed(t, callsOfViewPour(v, n, i), v, n, i)
				behind, moved, ok := impl.ViewBehind(r, i, n)
				behind2, moved2, ok2 := impl.ViewBehind(r, n, i)
				wantFailed(t, []rackCall{
					{"ViewBehind", ok, behind == impl.View{} && moved == 0}, {"ViewBehind", ok2, behind2 == impl.View{} && moved2 == 0},
				}, r, i, n)
			}
			wantFailed(t, callsOfViewPour(v, i, i), v, i)
		}
		for i := range impl.Tubes {
			for _, color := range outerColors {
				wantFailed(t, callsOfViewTube(v, i, color), v, i, color)
			}
			top, ok := impl.ChanceTop(v, i, 5)
			wantFailed(t, []rackCall{{"ChanceTop", ok, top == [2]int{}}}, v, i)
			wantFailed(t, callsOfViewPour(v, i, i), v, i, i)
		}
	}
}

func TestHiddenFunctionsSucceedForTheEmptyView(t *testing.T) {
	if !impl.IsView(impl.View{}) {
		t.Error("the empty View")
	}
	for _, c := range callsOfView(impl.View{}) {
		if !c.ok {
			t.Errorf("%s of the empty View fails", c.name)
		}
	}
	many, _ := impl.CountCandidates(impl.View{})
	rank, ok := impl.RankOfRack(impl.Rack{})
	sorted, _ := impl.ChanceSorted(impl.View{})
	if many != 1 || !ok || rank != 0 || sorted != [2]int{1, 1} {
		t.Error(many, rank, ok, sorted)
	}
	can, ok := impl.CanPourAt(impl.View{}, 0, 5)
	if !ok || can {
		t.Error("CanPourAt of the empty View", can, ok)
	}
	if r, ok := impl.CandidateAt(impl.View{}, 1); ok || r != (impl.Rack{}) {
		t.Error("CandidateAt of the empty View", r, ok)
	}
}

func TestHiddenFunctionsKeepTheirArguments(t *testing.T) {
	for _, tubes := range hiddenTubes(t, math.MaxInt64)[:200] {
		v, r := modelView(tubes), rackOf(tubes)
		first := callsOfView(v)
		for i := range impl.Tubes {
			callsOfViewTube(v, i, 1)
			callsOfViewPour(v, i, 0)
			impl.ViewBehind(r, i, 0)
		}
		rank, _ := impl.RankOfRack(r)
		again, _ := impl.RankOfRack(r)
		if v != modelView(tubes) || r != rackOf(tubes) || rank != again || !slices.Equal(first, callsOfView(v)) {
			t.Fatalf("%s is now %v, with %v", textOf(tubes), r, v)
		}
	}
}

func TestCertainPoursShareNoMemory(t *testing.T) {
	for _, text := range []string{"ab../ba../bbb./..../cccc/dddd", "b.../..../aaaa/cdcd/dcdc/bb..", "aaaa/aaaa/aaaa/aaaa/aaaa/...."} {
		v := modelView(tubesOf(t, text))
		checkOwnMemory(t, "CertainPours", [2]int{-7, -7}, func() ([][2]int, bool) { return impl.CertainPours(v) })
	}
}
