package tests

import (
	"math"
	"math/rand"
	"slices"
	"testing"

	"loop.example/g01215/impl"
)

// Games are held against a model on the texts of tubes (see l2_racks_test.go): who wins is told turn by
// turn from both sides, and points are always those of the first player less those of the second one.

var outerTurns = []int{-1, -2, 4, 5, 256, 1 << 32, math.MaxInt, math.MinInt}

func winsModel(tubes [6]string, n int) bool {
	return n > 0 && slices.ContainsFunc(modelSteps(tubes), func(s modelStep) bool { return losesModel(s.tubes, n-1) })
}

func losesModel(tubes [6]string, n int) bool {
	return n > 0 && !slices.ContainsFunc(modelSteps(tubes), func(s modelStep) bool { return !winsModel(s.tubes, n-1) })
}

func endModel(tubes [6]string, n int) int {
	if winsModel(tubes, n) {
		return 1
	}
	if losesModel(tubes, n) {
		return -1
	}
	return 0
}

func isCompleteText(tube string) bool { return len(tube) == 4 && isPlainTube(tube) }

// pointsModel looks at the tubes that a pour changes.
func pointsModel(tubes [6]string, s modelStep) int {
	points := 0
	for _, i := range s.pour {
		before, behind := isCompleteText(tubes[i]), isCompleteText(s.tubes[i])
		if behind && !before {
			points++
		}
		if before && !behind {
			points--
		}
	}
	return points
}

// leadModel is by how many points the first player is ahead in the end. The player who is to pour
// wants the most, times 1 or -1.
func leadModel(tubes [6]string, n int, player int) int {
	steps := modelSteps(tubes)
	if n == 0 || len(steps) == 0 {
		return 0
	}
	lead := -100 * player
	for _, s := range steps {
		next := player*pointsModel(tubes, s) + leadModel(s.tubes, n-1, -player)
		if player*next > player*lead {
			lead = next
		}
	}
	return lead
}

// bestModel returns the pours behind which the first player has the value of the game: in the game to
// the end nothing is won by a pour itself.
func bestModel(tubes [6]string, n int, forTubes bool) [][2]int {
	value := endModel(tubes, n)
	if forTubes {
		value = leadModel(tubes, n, 1)
	}
	var best [][2]int
	for _, s := range modelSteps(tubes) {
		behind := -endModel(s.tubes, n-1)
		if forTubes {
			behind = pointsModel(tubes, s) + leadModel(s.tubes, n-1, -1)
		}
		if behind == value {
			best = append(best, s.pour)
		}
	}
	return best
}

func stepOf(tubes [6]string, pour [2]int) (modelStep, bool) {
	for _, s := range modelSteps(tubes) {
		if s.pour == pour {
			return s, true
		}
	}
	return modelStep{}, false
}

// partyModel returns the tubes behind a party, the points of both players, and how many turns it has.
func partyModel(tubes [6]string, party [][2]int) ([6]string, [2]int, int) {
	points := [2]int{}
	for k, p := range party {
		s, ok := stepOf(tubes, p)
		if !ok {
			return tubes, points, k
		}
		points[k%2] += pointsModel(tubes, s)
		tubes = s.tubes
	}
	return tubes, points, len(party)
}

// completeTubes are full ones of one color, and what can become such ones or come from them. In half of
// all Racks most tubes are full and mixed, so that there are few turns, and complete tubes are broken up.
func completeTubes(n int) [][6]string {
	source := rand.New(rand.NewSource(10))
	parts := []string{"aaaa", "aaaa", "aaa", "aa", "a", "bbbb", "bbb", "bb", "b", "baaa", "baa", "ba", "abbb", "abb", "caa", "cdcd", "dcdc", ""}
	tight := []string{"aaaa", "aaaa", "bbbb", "ca", "da", "caa", "cb", "dbb", "caaa", "aa", "bb"}
	var all [][6]string
	for len(all) < n {
		tubes := [6]string{"cdcd", "dcdc", "cdcd", "dcdc", "cdcd", "dcdc"}
		some, many := parts, 6
		if len(all)%2 == 1 {
			some, many = tight, 2+source.Intn(3)
		}
		for _, i := range source.Perm(6)[:many] {
			tubes[i] = some[source.Intn(len(some))]
		}
		all = append(all, tubes)
	}
	return all
}

// gameTubes are many tubes of all kinds, and fewTurns those with few pours, for games of three turns.
func gameTubes(t *testing.T) [][6]string {
	t.Helper()
	return append(boundTubes(t), completeTubes(400)...)
}

func fewTurns(t *testing.T) [][6]string {
	t.Helper()
	var few [][6]string
	for _, tubes := range gameTubes(t) {
		if len(modelSteps(tubes)) <= 8 {
			few = append(few, tubes)
		}
	}
	return few
}

func TestGameConstants(t *testing.T) {
	if impl.MaxTurns != 3 {
		t.Error(impl.MaxTurns)
	}
}

func TestCompleteTubesAndIsLost(t *testing.T) {
	lost, many := 0, 0
	for _, tubes := range gameTubes(t) {
		var want []int
		for i, tube := range tubes {
			if isCompleteText(tube) {
				want = append(want, i)
			}
		}
		if got, ok := impl.CompleteTubes(rackOf(tubes)); !ok || !slices.Equal(got, want) {
			t.Fatalf("CompleteTubes(%s) = %v, %v", textOf(tubes), got, ok)
		}
		is, ok := impl.IsLost(rackOf(tubes))
		if useful, _ := impl.UsefulPours(rackOf(tubes)); !ok || is != (len(modelSteps(tubes)) == 0) || is != (len(useful) == 0) {
			t.Fatalf("IsLost(%s) = %v, %v, with the pours %v", textOf(tubes), is, ok, useful)
		}
		if is {
			lost++
		}
		if len(want) > 1 {
			many++
		}
	}
	if lost < 20 || many < 50 {
		t.Error("only", lost, "lost Racks, and", many, "with several complete tubes")
	}
}

func TestCompleteTubesOfEachTube(t *testing.T) {
	for _, tube := range modelTubes() {
		for i := range impl.Tubes {
			tubes := [6]string{"aaa", "abbb", "", "ccca", "", "b"}
			tubes[i] = tube
			want := []int{}
			if isCompleteText(tube) {
				want = []int{i}
			}
			if got, ok := impl.CompleteTubes(rackOf(tubes)); !ok || !slices.Equal(got, want) {
				t.Fatalf("CompleteTubes(%s) = %v, %v", textOf(tubes), got, ok)
			}
		}
	}
	if got, ok := impl.CompleteTubes(rackOf([6]string{"aaaa", "eeee", "aaaa", "bbbb", "cccc", "dddd"})); !ok || !slices.Equal(got, []int{0, 1, 2, 3, 4, 5}) {
		t.Error("all tubes", got, ok)
	}
}

func TestIsLostExamples(t *testing.T) {
	for _, c := range []struct {
		name, text string
		lost       bool
	}{
		{"empty", "..../..../..../..../..../....", true},
		{"sorted", "aaa./bb../cccc/d.../e.../....", true},
		{"full and mixed", "abab/baba/abab/baba/abab/baba", true},
		{"idle pours alone", "aaaa/..../aaaa/..../..../....", true},
		{"room for other colors", "abc./bca./cab./cbad/acbe/bacd", true},
		{"two tubes of a color", "a.../aaaa/cdcd/dcdc/cdcd/dcdc", false},
		{"a mixed tube and an empty one", "aaab/..../bbbb/cccc/dddd/eeee", false},
		{"one pour at last", "cdcd/dcdc/cdcd/dcdc/aab./b...", false},
	} {
		if is, ok := impl.IsLost(rackOf(tubesOf(t, c.text))); !ok || is != c.lost {
			t.Error(c.name, is, ok)
		}
	}
}

// checkGames holds both games of n turns, n at least 0, against the model.
func checkGames(t *testing.T, tubes [6]string, n int) (int, int) {
	t.Helper()
	r := rackOf(tubes)
	end, ok := impl.EndValue(r, n)
	if want := endModel(tubes, n); !ok || end != want {
		t.Fatalf("EndValue(%s, %d) = %d, %v, not %d", textOf(tubes), n, end, ok, want)
	}
	value, ok := impl.TubeValue(r, n)
	if want := leadModel(tubes, n, 1); !ok || value != want || value > n || value < -n {
		t.Fatalf("TubeValue(%s, %d) = %d, %v, not %d", textOf(tubes), n, value, ok, want)
	}
	ends, ok1 := impl.EndPours(r, n)
	best, ok2 := impl.TubePours(r, n)
	first, ok3 := impl.FirstBest(r, n)
	if n == 0 {
		if ok1 || ok2 || ok3 || len(ends) > 0 || len(best) > 0 || first != [2]int{} {
			t.Fatalf("pours of no turns of %s: %v, %v, %v", textOf(tubes), ends, best, first)
		}
		return end, value
	}
	if want := bestModel(tubes, n, false); !ok1 || !slices.Equal(ends, want) {
		t.Fatalf("EndPours(%s, %d) = %v, %v, not %v", textOf(tubes), n, ends, ok1, want)
	}
	want := bestModel(tubes, n, true)
	if !ok2 || !slices.Equal(best, want) {
		t.Fatalf("TubePours(%s, %d) = %v, %v, not %v", textOf(tubes), n, best, ok2, want)
	}
	if ok3 != (len(want) > 0) || ok3 && first != want[0] || !ok3 && first != [2]int{} {
		t.Fatalf("FirstBest(%s, %d) = %v, %v, not the first one of %v", textOf(tubes), n, first, ok3, want)
	}
	return end, value
}

func TestGamesOfUpToTwoTurns(t *testing.T) {
	ends, values := map[int]int{}, map[int]int{}
	for _, tubes := range gameTubes(t) {
		for n := range 3 {
			end, value := checkGames(t, tubes, n)
			if n == 2 {
				ends[end]++
				values[value]++
			}
		}
	}
	for _, n := range []int{ends[-1], ends[0], ends[1], values[-1], values[0], values[1]} {
		if n < 10 {
			t.Error("only few values:", ends, values)
		}
	}
}

func TestGamesOfThreeTurns(t *testing.T) {
	ends, values, lost := map[int]int{}, map[int]int{}, 0
	for _, tubes := range fewTurns(t) {
		end, value := checkGames(t, tubes, 3)
		ends[end]++
		values[value]++
		if end == -1 && len(modelSteps(tubes)) > 0 {
			lost++
		}
	}
	for _, n := range []int{ends[-1], ends[0], ends[1], lost, values[-1], values[0], values[1]} {
		if n < 10 {
			t.Error("only few values:", ends, values, lost)
		}
	}
	if values[2] == 0 || values[3] == 0 || values[-3] == 0 {
		t.Error("no high values:", values)
	}
}

// checkParty holds the best party of n turns against the model, and the guarantee.
func checkParty(t *testing.T, tubes [6]string, n int) [][2]int {
	t.Helper()
	r := rackOf(tubes)
	party, ok := impl.BestParty(r, n)
	if !ok || len(party) > n {
		t.Fatalf("BestParty(%s, %d) = %v, %v", textOf(tubes), n, party, ok)
	}
	at := tubes
	for k, p := range party {
		best := bestModel(at, n-k, true)
		if len(best) == 0 || p != best[0] {
			t.Fatalf("BestParty(%s, %d) = %v, not with %v of %v", textOf(tubes), n, party, p, best)
		}
		s, _ := stepOf(at, p)
		at = s.tubes
	}
	if len(party) < n && len(modelSteps(at)) > 0 {
		t.Fatalf("BestParty(%s, %d) = %v, and goes on from %s", textOf(tubes), n, party, textOf(at))
	}
	last, points, made, ok := impl.PlayParty(r, party)
	value, ok2 := impl.TubeValue(r, n)
	if !ok || !ok2 || made != len(party) || last != rackOf(at) || points[0]-points[1] != value {
		t.Fatalf("PlayParty(%s, %v) = %v, %v, %d, %v, but the value is %d", textOf(tubes), party, last, points, made, ok, value)
	}
	return party
}

func TestBestParty(t *testing.T) {
	short, late := 0, 0
	for _, tubes := range fewTurns(t) {
		for n := range 4 {
			party := checkParty(t, tubes, n)
			if len(party) > 0 && len(party) < n {
				short++
			}
			if len(party) > 0 && party[0] != modelSteps(tubes)[0].pour {
				late++
			}
		}
	}
	if short < 50 || late < 50 {
		t.Error("only", short, "parties that end before, and", late, "with other pours than the first ones")
	}
}

// The points that the value tells also are those for Racks with many pours, which the model is slow for.
func TestValuesArePointsOfBestParties(t *testing.T) {
	many := 0
	for _, tubes := range gameTubes(t) {
		if len(modelSteps(tubes)) <= 8 {
			continue
		}
		many++
		r := rackOf(tubes)
		for n := range 4 {
			party, ok := impl.BestParty(r, n)
			_, points, made := partyModel(tubes, party)
			if value, ok2 := impl.TubeValue(r, n); !ok || !ok2 || made != len(party) || points[0]-points[1] != value {
				t.Fatalf("TubeValue(%s, %d) = %d, %v, but %v gets %v", textOf(tubes), n, value, ok2, party, points)
			}
		}
	}
	if many < 100 {
		t.Error("only", many, "Racks with many pours")
	}
}

func TestGamesGuarantee(t *testing.T) {
	for _, tubes := range append(gameTubes(t), tubesOf(t, "..../..../..../..../..../....")) {
		r := rackOf(tubes)
		if value, ok := impl.EndValue(r, 0); !ok || value != 0 {
			t.Fatalf("EndValue(%s, 0) = %d, %v", textOf(tubes), value, ok)
		}
		if value, ok := impl.TubeValue(r, 0); !ok || value != 0 {
			t.Fatalf("TubeValue(%s, 0) = %d, %v", textOf(tubes), value, ok)
		}
		lost, _ := impl.IsLost(r)
		for n := 1; n <= 3; n++ {
			if value, ok := impl.EndValue(r, n); !ok || value < -1 || value > 1 || lost && value != -1 {
				t.Fatalf("EndValue(%s, %d) = %d, %v, lost: %v", textOf(tubes), n, value, ok, lost)
			}
			if value, ok := impl.TubeValue(r, n); !ok || value > n || lost && value != 0 {
				t.Fatalf("TubeValue(%s, %d) = %d, %v, lost: %v", textOf(tubes), n, value, ok, lost)
			}
			ends, ok := impl.EndPours(r, n)
			best, ok2 := impl.TubePours(r, n)
			if !ok || !ok2 || (len(ends) == 0) != lost || (len(best) == 0) != lost {
				t.Fatalf("pours of %d turns of %s: %v and %v, lost: %v", n, textOf(tubes), ends, best, lost)
			}
		}
	}
}

// Neither the names of colors nor the order of tubes matter for values.
func TestAlikeRacksHaveTheSameValues(t *testing.T) {
	for _, tubes := range completeTubes(150) {
		r := rackOf(tubes)
		first, _ := impl.FirstForm(r)
		for n := range 4 {
			end1, _ := impl.EndValue(r, n)
			end2, _ := impl.EndValue(first, n)
			value1, _ := impl.TubeValue(r, n)
			value2, _ := impl.TubeValue(first, n)
			if end1 != end2 || value1 != value2 {
				t.Fatalf("%s has the values %d, %d, and its first form %d, %d", textOf(tubes), end1, value1, end2, value2)
			}
		}
	}
}

// gameExample tells values and parties for 0, 1, 2 and 3 turns, and pours for 1, 2 and 3.
type gameExample struct {
	name, text  string
	end, value  [4]int
	ends, pours [3][][2]int
	party       [][2]int // the best one of three turns
}

func always(pours ...[2]int) [3][][2]int { return [3][][2]int{pours, pours, pours} }

func gameExamples() []gameExample {
	lost := [4]int{0, -1, -1, -1}
	return []gameExample{
		{"empty", "..../..../..../..../..../....", lost, [4]int{}, always(), always(), nil},
		{"sorted", "aaaa/..../bb../..../..../c...", lost, [4]int{}, always(), always(), nil},
		{"full", "aaaa/bbbb/cccc/dddd/eeee/aaaa", lost, [4]int{}, always(), always(), nil},
		{"idle pours alone", "aaaa/..../aaaa/..../..../....", lost, [4]int{}, always(), always(), nil},
		{
			"one turn", "a.../..../..../..../..../a...", [4]int{0, 0, 1, 1}, [4]int{},
			always([2]int{0, 5}, [2]int{5, 0}), always([2]int{0, 5}, [2]int{5, 0}), [][2]int{{0, 5}},
		},
		{
			"one turn that completes a tube", "..../aaa./..../a.../b.../....", [4]int{0, 0, 1, 1}, [4]int{0, 1, 1, 1},
			always([2]int{1, 3}, [2]int{3, 1}), always([2]int{1, 3}, [2]int{3, 1}), [][2]int{{1, 3}},
		},
		{
			"two turns", "a.../a.../b.../b.../..../....", [4]int{0, 0, 0, -1}, [4]int{},
			always([2]int{0, 1}, [2]int{1, 0}, [2]int{2, 3}, [2]int{3, 2}),
			always([2]int{0, 1}, [2]int{1, 0}, [2]int{2, 3}, [2]int{3, 2}), [][2]int{{0, 1}, {2, 3}},
		},
		{
			"a winning turn among others", "ab../b.../..../..../..../....", [4]int{0, 0, 1, 1}, [4]int{},
			[3][][2]int{{{0, 1}, {0, 2}, {0, 3}, {0, 4}, {0, 5}, {1, 0}}, {{0, 1}}, {{0, 1}}},
			always([2]int{0, 1}, [2]int{0, 2}, [2]int{0, 3}, [2]int{0, 4}, [2]int{0, 5}, [2]int{1, 0}), [][2]int{{0, 1}},
		},
		{
			"break up, complete, break up", "aaaa/ba../cdcd/dcdc/cdcd/dcdc", [4]int{}, [4]int{0, -1, -2, -3},
			always([2]int{0, 1}), always([2]int{0, 1}), [][2]int{{0, 1}, {1, 0}, {0, 1}},
		},
		{
			"complete, break up, complete", "aa../baaa/cdcd/dcdc/cdcd/dcdc", [4]int{}, [4]int{0, 1, 2, 3},
			always([2]int{1, 0}), always([2]int{1, 0}), [][2]int{{1, 0}, {0, 1}, {1, 0}},
		},
		{
			"complete one and break up another", "cdcd/aaaa/cdcd/dcdc/a.../dcdc", [4]int{}, [4]int{},
			always([2]int{1, 4}), always([2]int{1, 4}), [][2]int{{1, 4}, {4, 1}, {1, 4}},
		},
		{
			"a tube for each", "aa../aa../bb../bb../cdcd/....", [4]int{}, [4]int{0, 1, 0, 0},
			always([2]int{0, 1}, [2]int{1, 0}, [2]int{2, 3}, [2]int{3, 2}, [2]int{4, 5}),
			[3][][2]int{{{0, 1}, {1, 0}, {2, 3}, {3, 2}}, {{0, 1}, {1, 0}, {2, 3}, {3, 2}}, {{0, 1}, {1, 0}, {2, 3}, {3, 2}, {4, 5}}},
			[][2]int{{0, 1}, {2, 3}, {4, 0}},
		},
		{
			"rather no points than a tube for the other", "aa../a.../a.../bcbc/cbcb/....", [4]int{}, [4]int{},
			always([2]int{0, 1}, [2]int{0, 2}, [2]int{1, 0}, [2]int{1, 2}, [2]int{2, 0}, [2]int{2, 1}, [2]int{3, 5}, [2]int{4, 5}),
			[3][][2]int{
				{{0, 1}, {0, 2}, {1, 0}, {1, 2}, {2, 0}, {2, 1}, {3, 5}, {4, 5}}, {{3, 5}, {4, 5}}, {{3, 5}, {4, 5}},
			},
			[][2]int{{3, 5}, {4, 3}, {0, 1}},
		},
		{
			"other pours for other numbers of turns", "aab./b.../aa../..../..../....", [4]int{}, [4]int{0, 0, 0, 1},
			[3][][2]int{{{0, 1}, {0, 3}, {0, 4}, {0, 5}, {1, 0}}, {{0, 1}, {0, 3}, {0, 4}, {0, 5}, {1, 0}}, {{0, 3}, {0, 4}, {0, 5}, {1, 0}}},
			[3][][2]int{{{0, 1}, {0, 3}, {0, 4}, {0, 5}, {1, 0}}, {{1, 0}}, {{1, 0}}},
			[][2]int{{1, 0}, {0, 1}, {0, 2}},
		},
		{
			"behind one turn and behind two", "aaa./aaa./..../..../..../....", [4]int{}, [4]int{0, 1, 1, 1},
			always([2]int{0, 1}, [2]int{1, 0}), always([2]int{0, 1}, [2]int{1, 0}), [][2]int{{0, 1}, {1, 0}, {0, 1}},
		},
	}
}

func TestGameExamples(t *testing.T) {
	for _, c := range gameExamples() {
		r := rackOf(tubesOf(t, c.text))
		for n := range 4 {
			end, ok1 := impl.EndValue(r, n)
			value, ok2 := impl.TubeValue(r, n)
			if !ok1 || !ok2 || end != c.end[n] || value != c.value[n] {
				t.Error(c.name, n, "turns:", end, value, ok1, ok2)
			}
		}
		for n := 1; n <= 3; n++ {
			ends, ok1 := impl.EndPours(r, n)
			pours, ok2 := impl.TubePours(r, n)
			first, ok3 := impl.FirstBest(r, n)
			if !ok1 || !ok2 || !slices.Equal(ends, c.ends[n-1]) || !slices.Equal(pours, c.pours[n-1]) {
				t.Error(c.name, n, "turns:", ends, pours, ok1, ok2)
			}
			if ok3 != (len(pours) > 0) || ok3 && first != pours[0] || !ok3 && first != [2]int{} {
				t.Error(c.name, n, "turns:", first, ok3)
			}
		}
		if party, ok := impl.BestParty(r, 3); !ok || !slices.Equal(party, c.party) {
			t.Error(c.name, party, ok)
		}
		if party, ok := impl.BestParty(r, 0); !ok || len(party) > 0 {
			t.Error(c.name, "no turns:", party, ok)
		}
	}
}

// A Rack with the most pours, and parties that lead to the same Racks in many orders.
func TestGamesOfTheMostPours(t *testing.T) {
	for _, text := range []string{"a.../a.../a.../a.../a.../a...", "ba../ca../da../ea../a.../aa..", "bca./cba./dea./eda./bda./cea."} {
		r := rackOf(tubesOf(t, text))
		for n := range 4 {
			_, ok1 := impl.EndValue(r, n)
			_, ok2 := impl.TubeValue(r, n)
			ends, ok3 := impl.EndPours(r, n)
			party, ok4 := impl.BestParty(r, n)
			if !ok1 || !ok2 || ok3 != (n > 0) || !ok4 || len(party) != n || n == 1 && len(ends) != 30 {
				t.Error(text, n, ok1, ok2, ends, ok3, party, ok4)
			}
		}
	}
	single := rackOf(tubesOf(t, "a.../a.../a.../a.../a.../a..."))
	if value, ok := impl.TubeValue(single, 3); !ok || value != 1 {
		t.Error("the third turn completes a tube", value, ok)
	}
	if party, ok := impl.BestParty(single, 3); !ok || !slices.Equal(party, [][2]int{{0, 1}, {1, 2}, {2, 3}}) {
		t.Error("BestParty", party, ok)
	}
}

// checkPlay holds PlayParty against the model.
func checkPlay(t *testing.T, tubes [6]string, party [][2]int) ([2]int, int) {
	t.Helper()
	last, points, made, ok := impl.PlayParty(rackOf(tubes), party)
	wantLast, wantPoints, wantMade := partyModel(tubes, party)
	if !ok || last != rackOf(wantLast) || points != wantPoints || made != wantMade {
		t.Fatalf("PlayParty(%s, %v) = %v, %v, %d, %v, not %s, %v, %d",
			textOf(tubes), party, last, points, made, ok, textOf(wantLast), wantPoints, wantMade)
	}
	return points, made
}

// somePours makes pours by chance, n at most, that are not idle.
func somePours(source *rand.Rand, tubes [6]string, n int) [][2]int {
	var party [][2]int
	for range n {
		steps := modelSteps(tubes)
		if len(steps) == 0 {
			break
		}
		s := steps[source.Intn(len(steps))]
		party = append(party, s.pour)
		tubes = s.tubes
	}
	return party
}

func TestPlayParty(t *testing.T) {
	source := rand.New(rand.NewSource(11))
	seen := map[[2]int]bool{}
	stopped := 0
	for _, tubes := range gameTubes(t) {
		party := somePours(source, tubes, 1+source.Intn(60))
		points, made := checkPlay(t, tubes, party)
		seen[points] = true
		if made != len(party) {
			t.Fatalf("only %d turns of %v", made, party)
		}
		wrong := outerPours()[source.Intn(len(outerPours()))]
		if source.Intn(2) == 0 {
			wrong = [2]int{source.Intn(6), source.Intn(6)}
		}
		at := source.Intn(len(party) + 1)
		if changed := slices.Insert(slices.Clone(party), at, wrong); len(changed) <= 60 {
			if _, made := checkPlay(t, tubes, changed); made == at {
				stopped++
			}
		}
	}
	for _, points := range [][2]int{{1, 0}, {0, 1}, {-1, 0}, {0, -1}, {1, 1}, {2, 0}, {0, 2}} {
		if !seen[points] {
			t.Error("no party with the points", points)
		}
	}
	if stopped < 300 {
		t.Error("only", stopped, "parties that stop before")
	}
}

func TestPlayPartyStopsAtOuterPours(t *testing.T) {
	tubes := tubesOf(t, "aab./b.../aa../..../..../....")
	party := [][2]int{{1, 0}, {0, 3}, {0, 2}}
	for _, wrong := range outerPours() {
		for at := range 4 {
			changed := slices.Insert(slices.Clone(party), at, wrong)
			if _, made := checkPlay(t, tubes, changed); made != at {
				t.Error(changed, made)
			}
		}
	}
}

func TestPlayPartyExamples(t *testing.T) {
	for _, c := range []struct {
		name, text, last string
		party            [][2]int
		points           [2]int
		made             int
	}{
		{"no pours", "aaa./a.../b.../..../..../....", "aaa./a.../b.../..../..../....", nil, [2]int{}, 0},
		{"no pours of the empty Rack", "..../..../..../..../..../....", "..../..../..../..../..../....", [][2]int{}, [2]int{}, 0},
		{"a point for the first", "aaa./a.../b.../..../..../....", "aaaa/..../b.../..../..../....", [][2]int{{1, 0}, {1, 0}}, [2]int{1, 0}, 1},
		{"a point for the second", "aa../a.../ba../..../..../....", "aaaa/..../b.../..../..../....", [][2]int{{1, 0}, {2, 0}}, [2]int{0, 1}, 2},
		{"a point each", "aaa./a.../bb../bb../..../....", "aaaa/..../..../bbbb/..../....", [][2]int{{1, 0}, {2, 3}}, [2]int{1, 1}, 2},
		{"the first loses one", "aaaa/ba../cdcd/dcdc/cdcd/dcdc", "aa../baaa/cdcd/dcdc/cdcd/dcdc", [][2]int{{0, 1}}, [2]int{-1, 0}, 1},
		{"the second gets it back", "aaaa/ba../cdcd/dcdc/cdcd/dcdc", "aaaa/ba../cdcd/dcdc/cdcd/dcdc", [][2]int{{0, 1}, {1, 0}}, [2]int{-1, 1}, 2},
		{"the second loses one", "aa../baaa/cdcd/dcdc/cdcd/dcdc", "aa../baaa/cdcd/dcdc/cdcd/dcdc", [][2]int{{1, 0}, {0, 1}}, [2]int{1, -1}, 2},
		{"one for another", "aaaa/a.../cdcd/dcdc/cdcd/dcdc", "a.../aaaa/cdcd/dcdc/cdcd/dcdc", [][2]int{{0, 1}}, [2]int{}, 1},
		{"idle at first", "aaa./a.../b.../..../..../....", "aaa./a.../b.../..../..../....", [][2]int{{2, 3}, {1, 0}}, [2]int{}, 0},
		{"a complete tube, idle", "aaaa/..../ab../b.../..../....", "aaaa/..../ab../b.../..../....", [][2]int{{0, 1}, {2, 3}}, [2]int{}, 0},
		{"idle in the middle", "aaa./a.../ab../..../..../....", "aaaa/..../ab../..../..../....", [][2]int{{1, 0}, {0, 1}, {2, 3}}, [2]int{1, 0}, 1},
		{"idle at last", "ab../b.../..../..../..../....", "a.../bb../..../..../..../....", [][2]int{{0, 1}, {1, 2}}, [2]int{}, 1},
		{"a mixed tube to an empty one", "ab../b.../..../..../..../....", "a.../b.../..../..../..../b...", [][2]int{{0, 5}, {0, 2}}, [2]int{}, 1},
		{"not possible at first", "ab../b.../..../..../..../....", "ab../b.../..../..../..../....", [][2]int{{2, 0}, {0, 1}}, [2]int{}, 0},
		{"no room in the middle", "aaa./aa../a.../bc../..../....", "aaaa/a.../a.../bc../..../....", [][2]int{{1, 0}, {2, 0}, {3, 5}}, [2]int{1, 0}, 1},
		{"other colors at last", "aab./b.../aa../..../..../....", "aa../bb../aa../..../..../....", [][2]int{{0, 1}, {0, 1}}, [2]int{}, 1},
	} {
		last, points, made, ok := impl.PlayParty(rackOf(tubesOf(t, c.text)), c.party)
		if text, _ := impl.RackText(last); !ok || text != c.last || points != c.points || made != c.made {
			t.Error(c.name, text, points, made, ok)
		}
	}
}

func TestPartiesOfTheGreatestLength(t *testing.T) {
	r := rackOf(tubesOf(t, "aaaa/ba../cdcd/dcdc/cdcd/dcdc"))
	sixty := slices.Repeat([][2]int{{0, 1}, {1, 0}}, 30)
	if last, points, made, ok := impl.PlayParty(r, sixty); !ok || last != r || points != [2]int{-30, 30} || made != 60 {
		t.Error("60 pours", last, points, made, ok)
	}
	if _, points, made, ok := impl.PlayParty(r, sixty[:59]); !ok || points != [2]int{-30, 29} || made != 59 {
		t.Error("59 pours", points, made, ok)
	}
	outer := slices.Repeat([][2]int{{9, 9}}, 60)
	if last, points, made, ok := impl.PlayParty(r, outer); !ok || last != r || points != [2]int{} || made != 0 {
		t.Error("60 pours that are not possible", last, points, made, ok)
	}
	for _, list := range [][][2]int{sixty, outer} {
		for _, many := range []int{1, 2, 1000} {
			longer := append(slices.Clone(list), slices.Repeat(list[:1], many)...)
			wantFailed(t, callsOfParty(r, longer), len(longer))
			wantFailed(t, callsOfParty(impl.Rack{}, longer), len(longer))
		}
	}
}

func TestCanHurtAndCountReplies(t *testing.T) {
	some, none, all := 0, 0, 0
	for _, tubes := range gameTubes(t) {
		var hurting [][2]int
		var replies []int
		for _, s := range modelSteps(tubes) {
			next := modelSteps(s.tubes)
			replies = append(replies, len(next))
			if slices.ContainsFunc(next, func(s modelStep) bool { return isCompleteText(s.tubes[s.pour[1]]) }) {
				hurting = append(hurting, s.pour)
			}
		}
		if got, ok := impl.CanHurt(rackOf(tubes)); !ok || !slices.Equal(got, hurting) {
			t.Fatalf("CanHurt(%s) = %v, %v, not %v", textOf(tubes), got, ok, hurting)
		}
		if got, ok := impl.CountReplies(rackOf(tubes)); !ok || !slices.Equal(got, replies) {
			t.Fatalf("CountReplies(%s) = %v, %v, not %v", textOf(tubes), got, ok, replies)
		}
		switch {
		case len(hurting) == 0:
			none++
		case len(hurting) == len(replies):
			all++
		default:
			some++
		}
	}
	if some < 100 || none < 100 || all < 50 {
		t.Error("only", some, none, all)
	}
}

func TestRepliesExamples(t *testing.T) {
	for _, c := range []struct {
		name, text string
		hurting    [][2]int
		replies    []int
	}{
		{"empty", "..../..../..../..../..../....", nil, nil},
		{"sorted", "aaaa/bb../..../..../..../....", nil, nil},
		{"idle pours alone", "aaa./b.../..../..../..../....", nil, nil},
		{"complete at once, and nothing behind", "aaa./a.../b.../..../..../....", nil, []int{0, 0}},
		{"complete one and break up another", "aaa./aaa./..../..../..../....", [][2]int{{0, 1}, {1, 0}}, []int{1, 1}},
		{"break up, and complete", "aaaa/ba../cdcd/dcdc/cdcd/dcdc", [][2]int{{0, 1}}, []int{1}},
		{"complete, and break up", "aa../baaa/cdcd/dcdc/cdcd/dcdc", nil, []int{1}},
		{"some", "aa../a.../a.../bcbc/cbcb/....", [][2]int{{0, 1}, {0, 2}, {1, 0}, {1, 2}, {2, 0}, {2, 1}}, []int{6, 6, 6, 6, 6, 6, 7, 7}},
		{"none of several", "ab../b.../..../..../..../....", nil, []int{0, 2, 2, 2, 2, 5}},
		{"of the other tube", "aaab/bbb./a.../cdcd/dcdc/cdcd", [][2]int{{0, 1}}, []int{2}},
		{"idle moves of complete tubes behind them", "aaaa/bc../..../..../..../....", nil, []int{0, 0, 0, 0}},
	} {
		r := rackOf(tubesOf(t, c.text))
		if got, ok := impl.CanHurt(r); !ok || !slices.Equal(got, c.hurting) {
			t.Error(c.name, got, ok)
		}
		if got, ok := impl.CountReplies(r); !ok || !slices.Equal(got, c.replies) {
			t.Error(c.name, got, ok)
		}
	}
}

func callsOfGames(r impl.Rack, n int) []rackCall {
	end, ok1 := impl.EndValue(r, n)
	value, ok2 := impl.TubeValue(r, n)
	party, ok3 := impl.BestParty(r, n)
	return append(callsOfTurns(r, n),
		rackCall{"EndValue", ok1, end == 0}, rackCall{"TubeValue", ok2, value == 0}, rackCall{"BestParty", ok3, len(party) == 0},
	)
}

// callsOfTurns are the calls that fail for no turns too.
func callsOfTurns(r impl.Rack, n int) []rackCall {
	ends, ok1 := impl.EndPours(r, n)
	best, ok2 := impl.TubePours(r, n)
	first, ok3 := impl.FirstBest(r, n)
	return []rackCall{
		{"EndPours", ok1, len(ends) == 0}, {"TubePours", ok2, len(best) == 0}, {"FirstBest", ok3, first == [2]int{}},
	}
}

func callsOfLost(r impl.Rack) []rackCall {
	lost, ok1 := impl.IsLost(r)
	complete, ok2 := impl.CompleteTubes(r)
	hurting, ok3 := impl.CanHurt(r)
	replies, ok4 := impl.CountReplies(r)
	return []rackCall{
		{"IsLost", ok1, !lost}, {"CompleteTubes", ok2, len(complete) == 0}, {"CanHurt", ok3, len(hurting) == 0},
		{"CountReplies", ok4, len(replies) == 0},
	}
}

func callsOfParty(r impl.Rack, party [][2]int) []rackCall {
	last, points, made, ok := impl.PlayParty(r, party)
	return []rackCall{{"PlayParty", ok, last == impl.Rack{} && points == [2]int{} && made == 0}}
}

func TestGameFunctionsFailForBadRacks(t *testing.T) {
	for _, r := range badRacks() {
		for n := -1; n <= 4; n++ {
			wantFailed(t, callsOfGames(r, n), r, n)
		}
		wantFailed(t, callsOfLost(r), r)
		for _, party := range [][][2]int{nil, {}, {{0, 1}}, {{3, 4}, {4, 3}}, {{-1, 6}}, outerPours()} {
			wantFailed(t, callsOfParty(r, party), r, party)
		}
	}
}

func TestGamesFailForOuterNumbers(t *testing.T) {
	for _, tubes := range gameTubes(t) {
		r := rackOf(tubes)
		for _, n := range outerTurns {
			wantFailed(t, callsOfGames(r, n), textOf(tubes), n)
		}
		wantFailed(t, callsOfTurns(r, 0), textOf(tubes), 0)
	}
}

func TestFirstBestFailsForLostRacks(t *testing.T) {
	for _, text := range []string{"..../..../..../..../..../....", "aaaa/bbbb/cccc/dddd/eeee/....", "abab/baba/abab/baba/abab/baba"} {
		for n := 1; n <= 3; n++ {
			if first, ok := impl.FirstBest(rackOf(tubesOf(t, text)), n); ok || first != [2]int{} {
				t.Error(text, n, first, ok)
			}
		}
	}
}

func TestGameFunctionsSucceedForTheEmptyRack(t *testing.T) {
	for _, c := range slices.Concat(callsOfLost(impl.Rack{}), callsOfParty(impl.Rack{}, nil), callsOfGames(impl.Rack{}, 3)) {
		if !c.ok && c.name != "FirstBest" {
			t.Errorf("%s of the empty Rack fails", c.name)
		}
	}
}

// All calls are made again and again, as maps are not always looked at in the same order.
func TestGameFunctionsKeepTheirArguments(t *testing.T) {
	party := [][2]int{{0, 1}, {1, 0}, {2, 5}, {9, 9}, {0, 1}}
	kept := slices.Clone(party)
	for _, tubes := range completeTubes(60) {
		r := rackOf(tubes)
		for n := range 4 {
			first, _ := impl.BestParty(r, n)
			ends, _ := impl.EndPours(r, n)
			for range 3 {
				callsOfGames(r, n)
				callsOfLost(r)
				callsOfParty(r, party)
				again, _ := impl.BestParty(r, n)
				ends2, _ := impl.EndPours(r, n)
				if r != rackOf(tubes) || !slices.Equal(party, kept) || !slices.Equal(first, again) || !slices.Equal(ends, ends2) {
					t.Fatalf("%s is now %v, with %v; %v, and then %v", textOf(tubes), r, party, first, again)
				}
			}
		}
	}
}

func TestGameResultsShareNoMemory(t *testing.T) {
	r := rackOf(tubesOf(t, "aaa./aaa./bbbb/..../..../...."))
	pour := [2]int{-7, -7}
	checkOwnMemory(t, "EndPours", pour, func() ([][2]int, bool) { return impl.EndPours(r, 2) })
	checkOwnMemory(t, "TubePours", pour, func() ([][2]int, bool) { return impl.TubePours(r, 2) })
	checkOwnMemory(t, "BestParty", pour, func() ([][2]int, bool) { return impl.BestParty(r, 3) })
	checkOwnMemory(t, "CanHurt", pour, func() ([][2]int, bool) { return impl.CanHurt(r) })
	checkOwnMemory(t, "CompleteTubes", -7, func() ([]int, bool) { return impl.CompleteTubes(r) })
	checkOwnMemory(t, "CountReplies", -7, func() ([]int, bool) { return impl.CountReplies(r) })
}
