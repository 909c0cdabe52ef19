package tests

import (
	"math/rand"
	"slices"
	"strings"
	"testing"

	"loop.example/g01215/impl"
)

// The bounds are held against a model on the texts of tubes (see l2_racks_test.go) that counts the
// layers with another color below them.

func modelBoundaries(tubes [6]string) int {
	n := 0
	for _, tube := range tubes {
		for k := 1; k < len(tube); k++ {
			if tube[k] != tube[k-1] {
				n++
			}
		}
	}
	return n
}

func modelRuns(tubes [6]string) int {
	n := 0
	for _, tube := range tubes {
		n += len(runsOf(tube))
	}
	return n
}

// modelBottoms returns the lowest colors of all tubes, one byte each.
func modelBottoms(tubes [6]string) string {
	bottoms := ""
	for _, tube := range tubes {
		if tube != "" {
			bottoms += tube[:1]
		}
	}
	return bottoms
}

func modelBound(tubes [6]string) int {
	bound := modelBoundaries(tubes)
	for _, color := range modelColors {
		if n := strings.Count(modelBottoms(tubes), string(color)); n > 0 {
			bound += n - 1
		}
	}
	return bound
}

// modelSpare also tells whether there are more layers of a color than a tube has.
func modelSpare(tubes [6]string) (int, bool) {
	all := strings.Join(tubes[:], "")
	spare, fits := modelRuns(tubes), true
	for _, color := range modelColors {
		n := strings.Count(all, string(color))
		if n > 0 {
			spare--
		}
		if n > 4 {
			fits = false
		}
	}
	return spare, fits
}

func modelGood(tubes [6]string) []modelSource {
	var good []modelSource
	for _, p := range modelPours(tubes) {
		if modelBound(p.tubes) < modelBound(tubes) {
			good = append(good, p)
		}
	}
	return good
}

func poursOf(all []modelSource) [][2]int {
	var pours [][2]int
	for _, p := range all {
		pours = append(pours, p.pour())
	}
	return pours
}

// modelBehind returns the tubes behind a pour, and whether it is possible.
func modelBehind(tubes [6]string, pour [2]int) ([6]string, bool) {
	for _, p := range modelPours(tubes) {
		if p.pour() == pour {
			return p.tubes, true
		}
	}
	return tubes, false
}

// outerPours are possible for no Rack.
func outerPours() [][2]int {
	var all [][2]int
	for i := range impl.Tubes {
		all = append(all, [2]int{i, i})
	}
	for _, i := range outerPlaces {
		all = append(all, [2]int{i, 0}, [2]int{0, i}, [2]int{i, i})
	}
	return all
}

// boundTubes are many tubes of all kinds.
func boundTubes(t *testing.T) [][6]string {
	t.Helper()
	all := slices.Concat(specialTubes(t), smallTubes(), someTubes(500), dealtTubes(300), poorTubes(t))
	for _, text := range []string{
		"a.../b.../c.../d.../e.../a...", "abab/abab/abab/abab/abab/abab", "abaa/b.../aa../..../..../....",
		"aaaa/a.../..../..../..../....", "aaaa/aaaa/aaaa/aaaa/aaaa/aaaa", "baaa/aaa./..../..../..../....",
		"cdcd/dcdc/abab/baba/ecec/cece", "aaab/aab./ab../b.../..../....", "ab../ab../ab../..../..../....",
	} {
		all = append(all, tubesOf(t, text))
	}
	return all
}

func TestBoundConstants(t *testing.T) {
	if impl.MaxPath != 60 {
		t.Error(impl.MaxPath)
	}
}

// checkCounts compares all that is counted in tubes as they are.
func checkCounts(t *testing.T, tubes [6]string) {
	t.Helper()
	r := rackOf(tubes)
	if n, ok := impl.CountRuns(r); !ok || n != modelRuns(tubes) {
		t.Fatalf("CountRuns(%s) = %d, %v", textOf(tubes), n, ok)
	}
	if n, ok := impl.CountBoundaries(r); !ok || n != modelBoundaries(tubes) {
		t.Fatalf("CountBoundaries(%s) = %d, %v", textOf(tubes), n, ok)
	}
	bottoms := [6]int{6 - len(modelBottoms(tubes))}
	for k, color := range modelColors {
		bottoms[k+1] = strings.Count(modelBottoms(tubes), string(color))
	}
	if got, ok := impl.BottomCounts(r); !ok || got != bottoms {
		t.Fatalf("BottomCounts(%s) = %v, %v, not %v", textOf(tubes), got, ok, bottoms)
	}
	if n, ok := impl.BoundOf(r); !ok || n != modelBound(tubes) {
		t.Fatalf("BoundOf(%s) = %d, %v, not %d", textOf(tubes), n, ok, modelBound(tubes))
	}
	spare, fits := modelSpare(tubes)
	if n, ok := impl.SpareRuns(r); !ok || n != spare {
		t.Fatalf("SpareRuns(%s) = %d, %v, not %d", textOf(tubes), n, ok, spare)
	}
	if does, ok := impl.DoesFit(r); !ok || does != fits {
		t.Fatalf("DoesFit(%s) = %v, %v", textOf(tubes), does, ok)
	}
	var rooms []int
	for _, tube := range tubes {
		rooms = append(rooms, 4-len(tube))
	}
	slices.Sort(rooms)
	if got, ok := impl.RoomLeft(r); !ok || !slices.Equal(got, rooms) {
		t.Fatalf("RoomLeft(%s) = %v, %v, not %v", textOf(tubes), got, ok, rooms)
	}
}

func TestCountsOfTubes(t *testing.T) {
	for _, tubes := range boundTubes(t) {
		checkCounts(t, tubes)
	}
	for n, tube := range modelTubes() {
		tubes := [6]string{"c", "", "aabb", "bbbb", "e", "da"}
		tubes[n%6] = tube
		checkCounts(t, tubes)
		checkCounts(t, [6]string{tube, tube, tube, tube, tube, tube})
	}
}

func TestCountsExamples(t *testing.T) {
	for _, c := range []struct {
		name, text                     string
		runs, boundaries, bound, spare int
		bottoms                        [6]int
		fits                           bool
		rooms                          []int
	}{
		{"empty", "..../..../..../..../..../....", 0, 0, 0, 0, [6]int{6}, true, []int{4, 4, 4, 4, 4, 4}},
		{"one layer", "..../..../..../..../..../e...", 1, 0, 0, 0, [6]int{5, 0, 0, 0, 0, 1}, true, []int{3, 4, 4, 4, 4, 4}},
		{"sorted", "aaaa/bbb./..../d.../c.../ee..", 5, 0, 0, 0, [6]int{1, 1, 1, 1, 1, 1}, true, []int{0, 1, 2, 3, 3, 4}},
		{"mixed", "abaa/b.../aa../..../..../....", 5, 2, 3, 3, [6]int{3, 2, 1}, false, []int{0, 2, 3, 4, 4, 4}},
		{"the same color above another one", "aba./..../..../..../..../....", 3, 2, 2, 1, [6]int{5, 1}, true, []int{1, 4, 4, 4, 4, 4}},
		{"colors that are at no bottom", "abcd/..../..../..../..../....", 4, 3, 3, 0, [6]int{5, 1}, true, []int{0, 4, 4, 4, 4, 4}},
		{"one color at the bottom of all", "a.../aa../a.../aaa./aaaa/a...", 6, 0, 5, 5, [6]int{0, 6}, false, []int{0, 1, 2, 3, 3, 3}},
		{"two colors at the bottom of two", "c.../d.../c.../d.../..../....", 4, 0, 2, 2, [6]int{2, 0, 0, 2, 2}, true, []int{3, 3, 3, 3, 4, 4}},
		{"as many as a tube has", "aa../ab../a.../..../..../....", 4, 1, 3, 2, [6]int{3, 3}, true, []int{2, 2, 3, 4, 4, 4}},
		{"one more than a tube has", "eee./..../e.../..../..../be..", 4, 1, 2, 2, [6]int{3, 0, 1, 0, 0, 2}, false, []int{1, 2, 3, 4, 4, 4}},
		{"the greatest bound", "abab/acac/adad/aeae/abab/acac", 24, 18, 23, 19, [6]int{0, 6}, false, []int{0, 0, 0, 0, 0, 0}},
		{"the most spare runs", "abab/baba/abab/baba/abab/baba", 24, 18, 22, 22, [6]int{0, 3, 3}, false, []int{0, 0, 0, 0, 0, 0}},
		{"all of a color", "aaaa/aaaa/aaaa/aaaa/aaaa/aaaa", 6, 0, 5, 5, [6]int{0, 6}, false, []int{0, 0, 0, 0, 0, 0}},
	} {
		r := rackOf(tubesOf(t, c.text))
		runs, ok1 := impl.CountRuns(r)
		boundaries, ok2 := impl.CountBoundaries(r)
		bound, ok3 := impl.BoundOf(r)
		spare, ok4 := impl.SpareRuns(r)
		bottoms, ok5 := impl.BottomCounts(r)
		fits, ok6 := impl.DoesFit(r)
		rooms, ok7 := impl.RoomLeft(r)
		if !ok1 || !ok2 || !ok3 || !ok4 || runs != c.runs || boundaries != c.boundaries || bound != c.bound || spare != c.spare {
			t.Error(c.name, runs, boundaries, bound, spare)
		}
		if !ok5 || !ok6 || !ok7 || bottoms != c.bottoms || fits != c.fits || !slices.Equal(rooms, c.rooms) {
			t.Error(c.name, bottoms, fits, rooms)
		}
	}
}

func TestTheBoundTellsWhetherARackIsSorted(t *testing.T) {
	sorted := 0
	all := slices.Concat(boundTubes(t), [][6]string{{"", "b", "", "eee", "aaaa", "d"}, {"e", "d", "c", "b", "a"}})
	for _, tubes := range all {
		r := rackOf(tubes)
		is, _ := impl.IsSorted(r)
		bound, ok := impl.BoundOf(r)
		if !ok || bound < 0 || (bound == 0) != is || is != isSortedModel(tubes) {
			t.Fatalf("BoundOf(%s) = %d, %v, sorted: %v", textOf(tubes), bound, ok, is)
		}
		if is {
			sorted++
		}
	}
	if sorted < 20 {
		t.Error("only", sorted, "sorted")
	}
}

func TestPourChange(t *testing.T) {
	seen := map[[3]int]int{}
	inPart := 0
	for _, tubes := range boundTubes(t) {
		spare, _ := modelSpare(tubes)
		for _, p := range modelPours(tubes) {
			i, j := p.source.From, p.source.To
			want := [3]int{
				modelRuns(p.tubes) - modelRuns(tubes), modelBoundaries(p.tubes) - modelBoundaries(tubes),
				modelBound(p.tubes) - modelBound(tubes),
			}
			got, ok := impl.PourChange(rackOf(tubes), i, j)
			if !ok || got != want {
				t.Fatalf("PourChange(%s, %d, %d) = %v, %v, not %v", textOf(tubes), i, j, got, ok, want)
			}
			if got[0] > 0 || got[1] > 0 || got[2] < -1 {
				t.Fatalf("PourChange(%s, %d, %d) = %v", textOf(tubes), i, j, got)
			}
			seen[got]++
			behind, ok := impl.SpareRuns(rackOf(p.tubes))
			if !ok || behind < spare-1 || behind > spare {
				t.Fatalf("SpareRuns(%s) = %d, %v, and %d before", textOf(p.tubes), behind, ok, spare)
			}
			if p.source.Moved < topSize(tubes[i]) {
				inPart++
				if got != [3]int{} {
					t.Fatalf("PourChange(%s, %d, %d) = %v for a part", textOf(tubes), i, j, got)
				}
			}
		}
	}
	for _, change := range [][3]int{{0, 0, 0}, {0, -1, 0}, {0, -1, -1}, {-1, 0, 0}, {-1, 0, -1}, {-1, -1, -1}} {
		if seen[change] < 10 {
			t.Error("only", seen[change], "pours with the change", change)
		}
	}
	if inPart < 100 {
		t.Error("only", inPart, "pours of a part")
	}
}

func TestPourChangeExamples(t *testing.T) {
	for _, c := range []struct {
		name, text string
		i, j       int
		change     [3]int
	}{
		{"onto its color", "abaa/b.../aa../..../..../....", 0, 2, [3]int{-1, -1, -1}},
		{"a part of a top", "caaa/aaa./..../..../..../....", 0, 1, [3]int{0, 0, 0}},
		{"a part of a tube of one color", "aaa./aaa./..../..../..../....", 0, 1, [3]int{0, 0, 0}},
		{"a new color into an empty tube", "ab../..../..../..../..../....", 0, 5, [3]int{0, -1, -1}},
		{"a color at the bottom elsewhere", "ab../b.../..../..../..../....", 0, 5, [3]int{0, -1, 0}},
		{"a color at the bottom of the same tube", "aba./..../..../..../..../....", 0, 1, [3]int{0, -1, 0}},
		{"an idle pour", "aaaa/..../..../..../..../....", 0, 3, [3]int{0, 0, 0}},
		{"an idle pour with the color elsewhere", "a.../..../a.../..../..../....", 0, 1, [3]int{0, 0, 0}},
		{"two bottoms become one", "a.../a.../..../..../..../....", 0, 1, [3]int{-1, 0, -1}},
		{"three bottoms become two", "a.../ab../a.../..../..../....", 2, 0, [3]int{-1, 0, -1}},
		{"the last bottom of a color", "a.../ba../..../..../..../....", 0, 1, [3]int{-1, 0, 0}},
		{"a bottom above another color", "a.../ba../a.../..../..../....", 0, 1, [3]int{-1, 0, -1}},
		{"a top down to its color", "ca../ba../..../..../..../....", 0, 1, [3]int{-1, -1, -1}},
	} {
		if got, ok := impl.PourChange(rackOf(tubesOf(t, c.text)), c.i, c.j); !ok || got != c.change {
			t.Error(c.name, got, ok)
		}
	}
}

func TestPourChangeFailsIfOneCannotPour(t *testing.T) {
	for _, tubes := range slices.Concat(specialTubes(t), poorTubes(t), someTubes(50)) {
		pours := outerPours()
		for i := range impl.Tubes {
			for j := range impl.Tubes {
				pours = append(pours, [2]int{i, j})
			}
		}
		for _, p := range pours {
			if _, possible := modelBehind(tubes, p); possible {
				continue
			}
			change, ok := impl.PourChange(rackOf(tubes), p[0], p[1])
			wantFailed(t, []rackCall{{"PourChange", ok, change == [3]int{}}}, textOf(tubes), p)
		}
	}
}

// goodPathModel takes the first good pour as long as there is one.
func goodPathModel(tubes [6]string) ([][2]int, [6]string) {
	var path [][2]int
	for {
		good := modelGood(tubes)
		if len(good) == 0 {
			return path, tubes
		}
		path = append(path, good[0].pour())
		tubes = good[0].tubes
	}
}

func TestGoodPoursAndGoodPath(t *testing.T) {
	none, behindOthers := 0, 0
	for _, tubes := range boundTubes(t) {
		r := rackOf(tubes)
		good := poursOf(modelGood(tubes))
		if got, ok := impl.GoodPours(r); !ok || !slices.Equal(got, good) {
			t.Fatalf("GoodPours(%s) = %v, %v, not %v", textOf(tubes), got, ok, good)
		}
		want, end := goodPathModel(tubes)
		path, last, ok := impl.GoodPath(r)
		if !ok || last != rackOf(end) || !slices.Equal(path, want) {
			t.Fatalf("GoodPath(%s) = %v, %v, %v, not %v, %s", textOf(tubes), path, last, ok, want, textOf(end))
		}
		before, _ := impl.BoundOf(r)
		behind, ok := impl.BoundOf(last)
		if !ok || len(path) != before-behind || len(path) > impl.MaxPath {
			t.Fatalf("GoodPath(%s) has %d pours from the bound %d to %d", textOf(tubes), len(path), before, behind)
		}
		if again, _, ok := impl.DoPours(r, path); !ok || again != last {
			t.Fatalf("%v leads from %s to %v, %v, not %v", path, textOf(tubes), again, ok, last)
		}
		if is, ok := impl.IsGoodPath(r, path); !ok || !is {
			t.Fatalf("IsGoodPath(%s, %v) = %v, %v", textOf(tubes), path, is, ok)
		}
		if len(path) == 0 {
			none++
		}
		if len(good) > 0 && modelPours(tubes)[0].pour() != good[0] {
			behindOthers++
		}
	}
	if none < 50 || behindOthers < 50 {
		t.Error("only", none, "without a good pour, and", behindOthers, "with other pours before it")
	}
}

func TestGoodPathExamples(t *testing.T) {
	for _, c := range []struct {
		name, text, last string
		good, path       [][2]int
	}{
		{"mixed", "abaa/b.../aa../..../..../....", "a.../bb../aaaa/..../..../....", [][2]int{{0, 2}}, [][2]int{{0, 2}, {0, 1}}},
		{"empty", "..../..../..../..../..../....", "..../..../..../..../..../....", nil, nil},
		{"sorted", "aaaa/bbb./..../d.../c.../ee..", "aaaa/bbb./..../d.../c.../ee..", nil, nil},
		{"no pour", "abab/baba/abab/baba/abab/baba", "abab/baba/abab/baba/abab/baba", nil, nil},
		{"one of many pours", "a.../ba../..../..../..../....", "aa../b.../..../..../..../....", [][2]int{{1, 0}}, [][2]int{{1, 0}}},
		{"two are good both ways", "a.../a.../..../..../..../....", "..../aa../..../..../..../....", [][2]int{{0, 1}, {1, 0}}, [][2]int{{0, 1}}},
		{"into an empty tube", "ab../..../cccc/dddd/eeee/cccc", "a.../b.../cccc/dddd/eeee/cccc", [][2]int{{0, 1}}, [][2]int{{0, 1}}},
		{"only parts of a top", "caaa/aaa./bcbc/cbcb/dede/eded", "caaa/aaa./bcbc/cbcb/dede/eded", nil, nil},
		{"only a color that has a bottom", "ab../bbbb/cdcd/dcdc/eded/....", "ab../bbbb/cdcd/dcdc/eded/....", nil, nil},
	} {
		r := rackOf(tubesOf(t, c.text))
		good, ok := impl.GoodPours(r)
		if !ok || !slices.Equal(good, c.good) {
			t.Error(c.name, good, ok)
		}
		path, last, ok := impl.GoodPath(r)
		if !ok || !slices.Equal(path, c.path) || last != rackOf(tubesOf(t, c.last)) {
			t.Error(c.name, path, last, ok)
		}
	}
}

// pathAlong returns the bounds along a path and whether all of it is possible and good.
func pathAlong(tubes [6]string, path [][2]int) ([]int, bool) {
	bounds, good := []int{modelBound(tubes)}, true
	for _, p := range path {
		behind, possible := modelBehind(tubes, p)
		if !possible {
			return bounds, false
		}
		good = good && modelBound(behind) < modelBound(tubes)
		bounds = append(bounds, modelBound(behind))
		tubes = behind
	}
	return bounds, good
}

// checkPath returns whether a path is good.
func checkPath(t *testing.T, tubes [6]string, path [][2]int) bool {
	t.Helper()
	bounds, good := pathAlong(tubes, path)
	if is, ok := impl.IsGoodPath(rackOf(tubes), path); !ok || is != good {
		t.Fatalf("IsGoodPath(%s, %v) = %v, %v, not %v", textOf(tubes), path, is, ok, good)
	}
	if got, ok := impl.BoundsAlong(rackOf(tubes), path); !ok || !slices.Equal(got, bounds) {
		t.Fatalf("BoundsAlong(%s, %v) = %v, %v, not %v", textOf(tubes), path, got, ok, bounds)
	}
	return good
}

func TestPaths(t *testing.T) {
	source := rand.New(rand.NewSource(11))
	wrong := outerPours()
	good := 0
	for n, tubes := range boundTubes(t) {
		list, _, _ := walk(source, tubes, 200)
		list = list[:min(len(list), 60)]
		checkPath(t, tubes, list)
		at := source.Intn(min(len(list), 59) + 1)
		bad := slices.Insert(slices.Clone(list[:min(len(list), 59)]), at, wrong[n%len(wrong)])
		if checkPath(t, tubes, bad) {
			t.Fatalf("%v is good", bad)
		}
		checkPath(t, tubes, slices.Repeat([][2]int{{source.Intn(6), source.Intn(6)}, {source.Intn(6), source.Intn(6)}}, 2))
		if checkPath(t, tubes, longestGood(source, tubes)) {
			good++
		}
	}
	if good < len(boundTubes(t)) {
		t.Error("only", good, "good paths")
	}
}

// longestGood pours by chance, but good pours only.
func longestGood(source *rand.Rand, tubes [6]string) [][2]int {
	var path [][2]int
	for good := modelGood(tubes); len(good) > 0; good = modelGood(tubes) {
		p := good[source.Intn(len(good))]
		path = append(path, p.pour())
		tubes = p.tubes
	}
	return path
}

func TestPathExamples(t *testing.T) {
	for _, c := range []struct {
		name, text string
		path       [][2]int
		good       bool
		bounds     []int
	}{
		{"good", "abaa/b.../aa../..../..../....", [][2]int{{0, 2}, {0, 1}}, true, []int{3, 2, 1}},
		{"the first part of a good path", "abaa/b.../aa../..../..../....", [][2]int{{0, 2}}, true, []int{3, 2}},
		{"no pours", "abaa/b.../aa../..../..../....", nil, true, []int{3}},
		{"an empty list", "..../..../..../..../..../....", [][2]int{}, true, []int{0}},
		{"good, but not the first one", "a.../a.../..../..../..../....", [][2]int{{1, 0}}, true, []int{1, 0}},
		{"not possible at first", "abaa/b.../aa../..../..../....", [][2]int{{0, 1}, {0, 2}}, false, []int{3}},
		{"not possible in the middle", "abaa/b.../aa../..../..../....", [][2]int{{0, 2}, {0, 2}, {0, 1}}, false, []int{3, 2}},
		{"not possible at last", "abaa/b.../aa../..../..../....", [][2]int{{0, 2}, {0, 1}, {1, 2}}, false, []int{3, 2, 1}},
		{"from an empty tube", "abaa/b.../aa../..../..../....", [][2]int{{0, 2}, {3, 4}, {0, 1}}, false, []int{3, 2}},
		{"the same tube", "abaa/b.../aa../..../..../....", [][2]int{{0, 2}, {0, 0}, {0, 1}}, false, []int{3, 2}},
		{"out of range", "abaa/b.../aa../..../..../....", [][2]int{{0, 2}, {0, 6}, {0, 1}}, false, []int{3, 2}},
		{"below the range", "abaa/b.../aa../..../..../....", [][2]int{{0, 2}, {0, 1}, {-1, 0}}, false, []int{3, 2, 1}},
		{"not good in the middle", "abaa/b.../aa../..../..../....", [][2]int{{0, 2}, {2, 3}, {0, 1}}, false, []int{3, 2, 2, 1}},
		{"not good at last", "abaa/b.../aa../..../..../....", [][2]int{{0, 2}, {0, 1}, {2, 5}}, false, []int{3, 2, 1, 1}},
		{"idle there and back", "aaaa/..../..../..../..../....", [][2]int{{0, 1}, {1, 0}}, false, []int{0, 0, 0}},
		{"a part of a top", "caaa/aaa./..../..../..../....", [][2]int{{0, 1}, {0, 2}}, false, []int{1, 1, 1}},
	} {
		r := rackOf(tubesOf(t, c.text))
		if is, ok := impl.IsGoodPath(r, c.path); !ok || is != c.good {
			t.Error(c.name, is, ok)
		}
		if bounds, ok := impl.BoundsAlong(r, c.path); !ok || !slices.Equal(bounds, c.bounds) {
			t.Error(c.name, bounds, ok)
		}
	}
}

func TestPathsOfTheGreatestLength(t *testing.T) {
	for _, r := range racksOf(t, "abaa/b.../aa../..../..../....", "..../..../..../..../..../....", "aaaa/..../..../..../..../....") {
		for _, pours := range [][][2]int{{{0, 1}, {1, 0}}, {{2, 3}, {3, 2}}, {{9, 9}, {-1, 0}}} {
			sixty := slices.Repeat(pours, 30)
			is, ok := impl.IsGoodPath(r, sixty)
			bounds, ok2 := impl.BoundsAlong(r, sixty)
			if !ok || !ok2 || is || len(bounds) == 0 {
				t.Error("60 pours", r, pours, is, ok, bounds, ok2)
			}
			for _, many := range []int{1, 2, 1000} {
				longer := append(slices.Clone(sixty), slices.Repeat(pours[:1], many)...)
				is, ok := impl.IsGoodPath(r, longer)
				bounds, ok2 := impl.BoundsAlong(r, longer)
				wantFailed(t, []rackCall{{"IsGoodPath", ok, !is}, {"BoundsAlong", ok2, len(bounds) == 0}}, r, len(longer))
			}
		}
	}
	idle := slices.Repeat([][2]int{{0, 5}, {5, 0}}, 30)
	bounds, ok := impl.BoundsAlong(rackOf([6]string{"ee", "ab", "ab"}), idle)
	if !ok || !slices.Equal(bounds, slices.Repeat([]int{3}, 61)) {
		t.Error("60 possible pours", bounds, ok)
	}
}

func TestMostPoured(t *testing.T) {
	none := 0
	for _, tubes := range boundTubes(t) {
		best := impl.Source{}
		for _, p := range modelPours(tubes) {
			if p.source.Moved > best.Moved {
				best = p.source
			}
		}
		most, first, ok := impl.MostPoured(rackOf(tubes))
		if ok != (best.Moved > 0) || most != best.Moved || first != [2]int{best.From, best.To} {
			t.Fatalf("MostPoured(%s) = %d, %v, %v, not %v", textOf(tubes), most, first, ok, best)
		}
		if !ok {
			none++
		}
	}
	if none < 5 {
		t.Error("only", none, "without a pour")
	}
}

func TestMostPouredExamples(t *testing.T) {
	for _, c := range []struct {
		name, text string
		most       int
		first      [2]int
	}{
		{"mixed", "abaa/b.../aa../..../..../....", 2, [2]int{0, 2}},
		{"the first of as many", "a.../b.../..../..../..../....", 1, [2]int{0, 2}},
		{"behind others", "a.../..../bb../..../ddd./....", 3, [2]int{4, 1}},
		{"an idle pour of all", "..../cc../eeee/..../dddd/....", 4, [2]int{2, 0}},
		{"the place 0 last", "..../bebe/ebeb/bebe/ebeb/dddd", 4, [2]int{5, 0}},
		{"the top, not the tube", "baaa/cbbb/daad/ebbe/cddc/a...", 3, [2]int{0, 5}},
		{"only a part of a top", "baaa/aaa./bcbc/cbcb/dede/eded", 1, [2]int{0, 1}},
		{"no pour: full", "abab/baba/abab/baba/abab/baba", 0, [2]int{}},
		{"no pour: sorted and full", "aaaa/bbbb/cccc/dddd/eeee/aaaa", 0, [2]int{}},
		{"no pour: empty", "..../..../..../..../..../....", 0, [2]int{}},
		{"no pour: room for other colors", "abc./bca./cab./cbad/acbe/bacd", 0, [2]int{}},
	} {
		most, first, ok := impl.MostPoured(rackOf(tubesOf(t, c.text)))
		if ok != (c.most > 0) || most != c.most || first != c.first {
			t.Error(c.name, most, first, ok)
		}
	}
}

// A Rack of which pours make a sorted one fits, and needs at least as many pours as both bounds.
func TestBoundsAndShortestWays(t *testing.T) {
	found, sharp := 0, 0
	for _, tubes := range slices.Concat(specialTubes(t), smallTubes(), dealtTubes(120), someTubes(60)) {
		r := rackOf(tubes)
		fewest, ok := impl.FewestPours(r)
		if !ok {
			continue
		}
		found++
		bound, _ := impl.BoundOf(r)
		spare, _ := impl.SpareRuns(r)
		fits, _ := impl.DoesFit(r)
		if max(bound, spare) > fewest || !fits {
			t.Fatalf("%s needs %d pours, not %d or %d, fits: %v", textOf(tubes), fewest, bound, spare, fits)
		}
		if bound == fewest {
			sharp++
		}
	}
	if found < 200 || sharp < 50 {
		t.Error("only", found, "ways, and", sharp, "as short as the bound")
	}
}

func TestPoursNeverSortWhatDoesNotFit(t *testing.T) {
	source := rand.New(rand.NewSource(12))
	looked := 0
	for _, tubes := range boundTubes(t) {
		if _, fits := modelSpare(tubes); fits {
			continue
		}
		looked++
		for range 60 {
			_, tubes, _ = walk(source, tubes, 3)
			sorted, _ := impl.IsSorted(rackOf(tubes))
			if fits, ok := impl.DoesFit(rackOf(tubes)); !ok || fits || sorted {
				t.Fatalf("DoesFit(%s) = %v, %v, sorted: %v", textOf(tubes), fits, ok, sorted)
			}
		}
	}
	if looked < 50 {
		t.Error("only", looked, "that do not fit")
	}
}

func callsOfBounds(r impl.Rack) []rackCall {
	runs, ok1 := impl.CountRuns(r)
	boundaries, ok2 := impl.CountBoundaries(r)
	bottoms, ok3 := impl.BottomCounts(r)
	bound, ok4 := impl.BoundOf(r)
	spare, ok5 := impl.SpareRuns(r)
	good, ok6 := impl.GoodPours(r)
	path, last, ok7 := impl.GoodPath(r)
	is, ok8 := impl.IsGoodPath(r, nil)
	along, ok9 := impl.BoundsAlong(r, nil)
	fits, ok10 := impl.DoesFit(r)
	rooms, ok11 := impl.RoomLeft(r)
	return []rackCall{
		{"CountRuns", ok1, runs == 0}, {"CountBoundaries", ok2, boundaries == 0}, {"BottomCounts", ok3, bottoms == [6]int{}},
		{"BoundOf", ok4, bound == 0}, {"SpareRuns", ok5, spare == 0}, {"GoodPours", ok6, len(good) == 0},
		{"GoodPath", ok7, len(path) == 0 && last == impl.Rack{}}, {"IsGoodPath", ok8, !is}, {"BoundsAlong", ok9, len(along) == 0},
		{"DoesFit", ok10, !fits}, {"RoomLeft", ok11, len(rooms) == 0},
	}
}

// callsOfBoundPours are the calls with pours, and MostPoured, which fails for some valid Racks too.
func callsOfBoundPours(r impl.Rack, i int, j int) []rackCall {
	change, ok1 := impl.PourChange(r, i, j)
	is, ok2 := impl.IsGoodPath(r, [][2]int{{i, j}, {j, i}})
	along, ok3 := impl.BoundsAlong(r, [][2]int{{i, j}, {j, i}})
	most, first, ok4 := impl.MostPoured(r)
	return []rackCall{
		{"PourChange", ok1, change == [3]int{}}, {"IsGoodPath", ok2, !is}, {"BoundsAlong", ok3, len(along) == 0},
		{"MostPoured", ok4, most == 0 && first == [2]int{}},
	}
}

func TestBoundFunctionsFailForBadRacks(t *testing.T) {
	for _, r := range badRacks() {
		wantFailed(t, callsOfBounds(r), r)
		for i := -1; i <= 6; i++ {
			for j := -1; j <= 6; j++ {
				wantFailed(t, callsOfBoundPours(r, i, j), r, i, j)
			}
		}
	}
}

func TestBoundFunctionsSucceedForTheEmptyRack(t *testing.T) {
	for _, c := range callsOfBounds(impl.Rack{}) {
		if !c.ok {
			t.Errorf("%s of the empty Rack fails", c.name)
		}
	}
}

func TestBoundFunctionsKeepTheirArguments(t *testing.T) {
	path := [][2]int{{0, 2}, {0, 1}, {2, 5}, {9, 9}, {0, 1}}
	kept := slices.Clone(path)
	for _, tubes := range boundTubes(t)[:100] {
		r := rackOf(tubes)
		callsOfBounds(r)
		callsOfBoundPours(r, 0, 2)
		impl.IsGoodPath(r, path)
		impl.BoundsAlong(r, path)
		if r != rackOf(tubes) || !slices.Equal(path, kept) {
			t.Fatalf("%s is now %v, with %v", textOf(tubes), r, path)
		}
	}
}

func TestBoundResultsShareNoMemory(t *testing.T) {
	r := rackOf(tubesOf(t, "abaa/b.../aa../..../..../...."))
	list := [][2]int{{0, 2}, {0, 1}}
	pour := [2]int{-7, -7}
	checkOwnMemory(t, "GoodPours", pour, func() ([][2]int, bool) { return impl.GoodPours(r) })
	checkOwnMemory(t, "GoodPath", pour, func() ([][2]int, bool) {
		path, _, ok := impl.GoodPath(r)
		return path, ok
	})
	checkOwnMemory(t, "BoundsAlong", -7, func() ([]int, bool) { return impl.BoundsAlong(r, list) })
	checkOwnMemory(t, "RoomLeft", -7, func() ([]int, bool) { return impl.RoomLeft(r) })
}

// What is behind the pours of a path belongs to nobody who is handed the path out.
func TestGoodPathHasNoMoreThanItsPours(t *testing.T) {
	for _, tubes := range boundTubes(t) {
		if path, _, _ := impl.GoodPath(rackOf(tubes)); cap(path) != len(path) {
			t.Fatalf("GoodPath(%s) has room for %d more pours", textOf(tubes), cap(path)-len(path))
		}
	}
}
