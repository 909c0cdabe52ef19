package tests

import (
	"math"
	"math/rand"
	"slices"
	"strings"
	"sync"
	"testing"

	"loop.example/g01215/impl"
)

// What comes from where is held against a model on the texts of tubes (see l2_racks_test.go) that
// never goes backwards: it pours all pairs of tubes, and keeps for each pair behind what was before.

type tubesBefore struct {
	from, to string
	moved    int
}

// pairsBefore returns for all pairs of tubes those before a pour from the first one to the second.
var pairsBefore = sync.OnceValue(func() map[[2]string][]tubesBefore {
	before := map[[2]string][]tubesBefore{}
	for _, x := range modelTubes() {
		for _, y := range modelTubes() {
			if from, to, moved := poured(x, y); moved > 0 {
				behind := [2]string{from, to}
				before[behind] = append(before[behind], tubesBefore{x, y, moved})
			}
		}
	}
	for _, all := range before {
		slices.SortFunc(all, func(a, b tubesBefore) int { return a.moved - b.moved })
	}
	return before
})

// modelSource is a Source and the tubes before it or, for a pour, behind it.
type modelSource struct {
	source impl.Source
	tubes  [6]string
}

func (m modelSource) pour() [2]int { return [2]int{m.source.From, m.source.To} }

func (m modelSource) rack() impl.Rack { return rackOf(m.tubes) }

// modelSources returns all possible Sources of tubes, in order.
func modelSources(tubes [6]string) []modelSource {
	var all []modelSource
	for i := range tubes {
		for j := range tubes {
			if i == j {
				continue
			}
			for _, b := range pairsBefore()[[2]string{tubes[i], tubes[j]}] {
				before := tubes
				before[i], before[j] = b.from, b.to
				all = append(all, modelSource{impl.Source{From: i, To: j, Moved: b.moved}, before})
			}
		}
	}
	return all
}

// modelPours returns all pours of tubes, useful or not, in order.
func modelPours(tubes [6]string) []modelSource {
	var all []modelSource
	for i := range tubes {
		for j := range tubes {
			from, to, moved := poured(tubes[i], tubes[j])
			if i == j || moved == 0 {
				continue
			}
			behind := tubes
			behind[i], behind[j] = from, to
			all = append(all, modelSource{impl.Source{From: i, To: j, Moved: moved}, behind})
		}
	}
	return all
}

func onlySources(all []modelSource) []impl.Source {
	var sources []impl.Source
	for _, m := range all {
		sources = append(sources, m.source)
	}
	return sources
}

// racksOf returns the Racks of texts, in the same order.
func racksOf(t *testing.T, texts ...string) []impl.Rack {
	t.Helper()
	var racks []impl.Rack
	for _, text := range texts {
		racks = append(racks, rackOf(tubesOf(t, text)))
	}
	return racks
}

// racksBeforeModel relies on the order of texts, which is that of their Racks.
func racksBeforeModel(t *testing.T, tubes [6]string) []impl.Rack {
	t.Helper()
	var texts []string
	for _, m := range modelSources(tubes) {
		texts = append(texts, textOf(m.tubes))
	}
	slices.Sort(texts)
	return racksOf(t, slices.Compact(texts)...)
}

// backTubes are many tubes of all kinds: what is behind pours, and what is not.
func backTubes(t *testing.T) [][6]string {
	t.Helper()
	return slices.Concat(specialTubes(t), smallTubes(), someTubes(400), dealtTubes(200), poorTubes(t))
}

// poorTubes have no, one or few Sources.
func poorTubes(t *testing.T) [][6]string {
	t.Helper()
	var all [][6]string
	for _, text := range []string{
		"ab../..../..../..../..../....", "abab/baba/abab/baba/abab/baba", "aaab/bbba/ccce/ddde/eeec/eeed",
		"a.../cbb./..../..../..../....", "aabb/abbb/..../ca../..../....", "aaaa/bbbb/cccc/dddd/eeee/aaaa",
		"abbb/cddd/dccc/baaa/ceee/cbbb", "abcc/abcc/abcc/abcc/abcc/abc.", "ba../baa./..../..../..../....",
	} {
		all = append(all, tubesOf(t, text))
	}
	return all
}

// outerSources are possible for no Rack, whatever its layers are.
func outerSources() []impl.Source {
	var all []impl.Source
	for _, i := range outerPlaces {
		all = append(all, impl.Source{From: i, To: 0, Moved: 1}, impl.Source{From: 0, To: i, Moved: 1}, impl.Source{From: i, To: i, Moved: 1})
	}
	for i := range impl.Tubes {
		for moved := range 5 {
			all = append(all, impl.Source{From: i, To: i, Moved: moved})
		}
		for _, moved := range []int{0, -1, -4, 5, 6, 257, 1<<32 + 1, math.MaxInt, math.MinInt} {
			all = append(all, impl.Source{From: i, To: (i + 1) % 6, Moved: moved}, impl.Source{From: (i + 2) % 6, To: i, Moved: moved})
		}
	}
	return all
}

// checkPourBack compares PourBack for tubes at two places among others.
func checkPourBack(t *testing.T, from string, to string, i int, j int, moved int) {
	t.Helper()
	tubes := [6]string{"c", "", "aabb", "bbbb", "e", "da"}
	tubes[i], tubes[j] = from, to
	want, possible := impl.Rack{}, false
	for _, b := range pairsBefore()[[2]string{from, to}] {
		if b.moved == moved {
			before := tubes
			before[i], before[j] = b.from, b.to
			want, possible = rackOf(before), true
		}
	}
	got, ok := impl.PourBack(rackOf(tubes), impl.Source{From: i, To: j, Moved: moved})
	if ok != possible || got != want {
		t.Fatalf("PourBack(%s, %d %d %d) = %v, %v, not %v, %v", textOf(tubes), i, j, moved, got, ok, want, possible)
	}
}

func TestPourBackOfEachTwoTubes(t *testing.T) {
	tubes := textsOver("abe", impl.Depth)
	for n, from := range tubes {
		for m, to := range tubes {
			i := (n + m) % 6
			j := (i + 1 + m%5) % 6
			for moved := -1; moved <= 5; moved++ {
				checkPourBack(t, from, to, i, j, moved)
			}
		}
	}
}

func TestPourBackOfEachPourOfTwoTubes(t *testing.T) {
	for behind, all := range pairsBefore() {
		for _, b := range all {
			i := len(b.from)
			checkPourBack(t, behind[0], behind[1], i, (i+1+b.moved)%6, b.moved)
		}
	}
}

func TestPourBackExamples(t *testing.T) {
	for _, c := range []struct {
		name, text string
		source     impl.Source
		before     string // empty if the Source is not possible
	}{
		{"a part of a top", "aa../..../..../..../..../....", impl.Source{From: 1, To: 0, Moved: 1}, "a.../a.../..../..../..../...."},
		{"an idle pour", "aa../..../..../..../..../....", impl.Source{From: 5, To: 0, Moved: 2}, "..../..../..../..../..../aa.."},
		{"onto another color", "a.../cbb./..../..../..../....", impl.Source{From: 0, To: 1, Moved: 1}, "ab../cb../..../..../..../...."},
		{"into a full tube", "a.../aaaa/..../..../..../....", impl.Source{From: 0, To: 1, Moved: 2}, "aaa./aa../..../..../..../...."},
		{"as much as there is room for", "a.../aaaa/..../..../..../....", impl.Source{From: 0, To: 1, Moved: 3}, "aaaa/a.../..../..../..../...."},
		{"all of a full tube", "..../..../eeee/..../..../....", impl.Source{From: 4, To: 2, Moved: 4}, "..../..../..../..../eeee/...."},
		{"under it the color of the tube", "ca../baaa/..../..../..../....", impl.Source{From: 0, To: 1, Moved: 2}, "caaa/ba../..../..../..../...."},
		{"a lower run stays", "aba./..../..../..../..../....", impl.Source{From: 3, To: 0, Moved: 1}, ""},
		{"the whole top from another color", "bb../..../..../..../..../....", impl.Source{From: 1, To: 0, Moved: 3}, ""},
		{"the whole top above another color", "abb./..../..../..../..../....", impl.Source{From: 1, To: 0, Moved: 2}, ""},
		{"some of that", "abb./..../..../..../..../....", impl.Source{From: 1, To: 0, Moved: 1}, "ab../b.../..../..../..../...."},
		{"a pour would move more", "aa../a.../..../..../..../....", impl.Source{From: 1, To: 0, Moved: 1}, ""},
		{"a pour would move all", "aaa./a.../..../..../..../....", impl.Source{From: 1, To: 0, Moved: 3}, ""},
		{"no room for it", "aaaa/bbb./..../..../..../....", impl.Source{From: 1, To: 0, Moved: 2}, ""},
		{"no room at all", "aa../bbbb/..../..../..../....", impl.Source{From: 1, To: 0, Moved: 1}, ""},
		{"from both full tubes", "aaaa/aaaa/..../..../..../....", impl.Source{From: 1, To: 0, Moved: 1}, ""},
		{"out of an empty tube", "aa../..../..../..../..../....", impl.Source{From: 0, To: 1, Moved: 1}, ""},
		{"the empty Rack", "..../..../..../..../..../....", impl.Source{From: 0, To: 1, Moved: 1}, ""},
		{"nothing", "aa../..../..../..../..../....", impl.Source{From: 1, To: 0, Moved: 0}, ""},
		{"the same tube", "aa../..../..../..../..../....", impl.Source{From: 0, To: 0, Moved: 1}, ""},
	} {
		want := impl.Rack{}
		if c.before != "" {
			want = rackOf(tubesOf(t, c.before))
		}
		got, ok := impl.PourBack(rackOf(tubesOf(t, c.text)), c.source)
		if ok != (c.before != "") || got != want {
			t.Errorf("%s: PourBack(%s, %v) = %v, %v", c.name, c.text, c.source, got, ok)
		}
	}
}

func TestPourBackFailsForOuterSources(t *testing.T) {
	for _, tubes := range slices.Concat(specialTubes(t), poorTubes(t), someTubes(50)) {
		for _, s := range outerSources() {
			r, ok := impl.PourBack(rackOf(tubes), s)
			wantFailed(t, []rackCall{{"PourBack", ok, r == impl.Rack{}}}, textOf(tubes), s)
		}
	}
}

func TestSourcesOf(t *testing.T) {
	for _, tubes := range backTubes(t) {
		r := rackOf(tubes)
		want := modelSources(tubes)
		got, ok := impl.SourcesOf(r)
		if !ok || !slices.Equal(got, onlySources(want)) {
			t.Fatalf("SourcesOf(%s) = %v, %v, not %v", textOf(tubes), got, ok, want)
		}
		for _, m := range want {
			before, ok := impl.PourBack(r, m.source)
			if !ok || before != m.rack() {
				t.Fatalf("PourBack(%s, %v) = %v, %v", textOf(tubes), m.source, before, ok)
			}
			again, moved, ok := impl.Pour(before, m.source.From, m.source.To)
			if !ok || again != r || moved != m.source.Moved {
				t.Fatalf("%v poured by %v is %v, %d, %v, not %s", before, m.source, again, moved, ok, textOf(tubes))
			}
		}
	}
}

// fromTo returns the Sources of a pour that may have moved 1, 2, .. layers, up to a number.
func fromTo(i int, j int, most int) []impl.Source {
	var sources []impl.Source
	for moved := 1; moved <= most; moved++ {
		sources = append(sources, impl.Source{From: i, To: j, Moved: moved})
	}
	return sources
}

func TestSourcesExamples(t *testing.T) {
	for _, c := range []struct {
		name, text    string
		sources       []impl.Source
		before, forms int
	}{
		{"the empty Rack", "..../..../..../..../..../....", nil, 0, 0},
		{"onto another color", "ab../..../..../..../..../....", nil, 0, 0},
		{"full tubes without Sources", "abab/baba/abab/baba/abab/baba", nil, 0, 0},
		{"no tube has room", "aaaa/bbbb/cccc/dddd/eeee/aaaa", nil, 0, 0},
		{"no top of two layers", "aab./cbab/abac/cbca/abca/abab", nil, 0, 0},
		{"into a tube with room", "ab../..../a.../..../..../....", slices.Concat(
			fromTo(0, 2, 1), fromTo(1, 2, 1), fromTo(3, 2, 1), fromTo(4, 2, 1), fromTo(5, 2, 1)), 5, 2},
		{"onto the same color below", "aab./cbbb/abac/cbca/abca/abab", fromTo(0, 1, 1), 1, 1},
		{"all but one layer", "aaa./bbbb/abac/cbca/abca/abab", fromTo(0, 1, 1), 1, 1},
		{"a full tube", "abb./bbbb/abac/cbca/abca/abab", fromTo(0, 1, 1), 1, 1},
		{"a full tube beside an empty one: b and bbb either way", "..../bbbb/abac/cbca/abca/abab", fromTo(0, 1, 4), 4, 3},
		{"a full tube beside one of its color: aa and aaa either way", "a.../aaaa/abac/cbca/abca/abab", fromTo(0, 1, 3), 3, 2},
		{"a pour would move all of the one onto the other", "a.../aaa./abac/cbca/abca/abab", nil, 0, 0},
		{"both ways", "a.../b.../abac/cbca/abca/abab", slices.Concat(fromTo(0, 1, 1), fromTo(1, 0, 1)), 2, 2},
	} {
		r := rackOf(tubesOf(t, c.text))
		sources, one := impl.SourcesOf(r)
		racks, two := impl.RacksBefore(r)
		forms, three := impl.CountFormsBefore(r)
		garden, four := impl.IsGarden(r)
		if !one || !two || !three || !four || !slices.Equal(sources, c.sources) || len(racks) != c.before || forms != c.forms || garden != (c.sources == nil) {
			t.Errorf("%s: SourcesOf %v, %v, RacksBefore %v, %v, %d forms, %v, garden %v, %v", c.name, sources, one, racks, two, forms, three, garden, four)
		}
	}
}

func TestARackHasASourceBehindEachPour(t *testing.T) {
	for _, tubes := range backTubes(t) {
		r := rackOf(tubes)
		for _, p := range modelPours(tubes) {
			behind := p.rack()
			before, one := impl.PourBack(behind, p.source)
			sources, two := impl.SourcesOf(behind)
			racks, three := impl.RacksBefore(behind)
			to, four := impl.BackTo(r, behind)
			garden, five := impl.IsGarden(behind)
			if !one || !two || !three || !four || !five || before != r || garden || !slices.Contains(sources, p.source) || !slices.Contains(racks, r) || !slices.Contains(to, p.source) {
				t.Fatalf("%s behind %v: before %v, sources %v, %v, BackTo %v, garden %v", textOf(tubes), p.source, before, sources, racks, to, garden)
			}
		}
	}
}

// Two Sources never have the same Rack before, so there are as many Racks as Sources.
func TestRacksBefore(t *testing.T) {
	for _, tubes := range backTubes(t) {
		r := rackOf(tubes)
		got, ok := impl.RacksBefore(r)
		if want := racksBeforeModel(t, tubes); !ok || !slices.Equal(got, want) {
			t.Fatalf("RacksBefore(%s) = %v, %v, not %v", textOf(tubes), got, ok, want)
		}
		if sources, ok := impl.SourcesOf(r); !ok || len(got) != len(sources) {
			t.Fatalf("%s has %d RacksBefore and SourcesOf %v, %v", textOf(tubes), len(got), sources, ok)
		}
		for k := 1; k < len(got); k++ {
			if less, ok := impl.LessRack(got[k-1], got[k]); !ok || !less {
				t.Fatalf("RacksBefore(%s) has %v before %v", textOf(tubes), got[k-1], got[k])
			}
		}
	}
}

// The Racks are in an order of their own, not in that of their Sources.
func TestRacksBeforeAndGardensBeforeExamples(t *testing.T) {
	for _, c := range []struct {
		text            string
		before, gardens []string
	}{
		{"..../..../..../..../..../....", nil, nil},
		{"ab../..../..../..../..../....", nil, nil},
		{"b.../..../..../..../..../....", []string{
			"..../..../..../..../..../b...", "..../..../..../..../b.../....", "..../..../..../b.../..../....", "..../..../b.../..../..../....", "..../b.../..../..../..../....",
		}, nil},
		{"a.../b.../abac/cbca/abca/abab", []string{
			"..../ba../abac/cbca/abca/abab", "ab../..../abac/cbca/abca/abab",
		}, []string{"..../ba../abac/cbca/abca/abab", "ab../..../abac/cbca/abca/abab"}},
		{"a.../cbb./abac/cbca/abca/abab", []string{
			"..../cbba/abac/cbca/abca/abab", "ab../cb../abac/cbca/abca/abab",
		}, []string{"..../cbba/abac/cbca/abca/abab", "ab../cb../abac/cbca/abca/abab"}},
		{"a.../cbbb/abac/cbca/abca/abab", []string{
			"ab../cbb./abac/cbca/abca/abab", "abb./cb../abac/cbca/abca/abab",
		}, []string{"ab../cbb./abac/cbca/abca/abab", "abb./cb../abac/cbca/abca/abab"}},
		{"a.../cbb./..../cbca/abca/abab", []string{
			"..../cbb./a.../cbca/abca/abab", "..../cbba/..../cbca/abca/abab", "a.../cb../b.../cbca/abca/abab", "ab../cb../..../cbca/abca/abab",
		}, []string{"..../cbba/..../cbca/abca/abab", "ab../cb../..../cbca/abca/abab"}},
		{"a.../aaaa/abac/cbca/abca/abab", []string{
			"aa../aaa./abac/cbca/abca/abab", "aaa./aa../abac/cbca/abca/abab", "aaaa/a.../abac/cbca/abca/abab",
		}, []string{"aa../aaa./abac/cbca/abca/abab", "aaa./aa../abac/cbca/abca/abab"}},
	} {
		r := rackOf(tubesOf(t, c.text))
		if racks, ok := impl.RacksBefore(r); !ok || !slices.Equal(racks, racksOf(t, c.before...)) {
			t.Errorf("RacksBefore(%s) = %v, %v", c.text, racks, ok)
		}
		if gardens, ok := impl.GardensBefore(r); !ok || !slices.Equal(gardens, racksOf(t, c.gardens...)) {
			t.Errorf("GardensBefore(%s) = %v, %v", c.text, gardens, ok)
		}
	}
}

func TestIsGardenAndGardensBefore(t *testing.T) {
	many := 0
	for _, tubes := range backTubes(t) {
		r := rackOf(tubes)
		want := len(modelSources(tubes)) == 0
		if garden, ok := impl.IsGarden(r); !ok || garden != want {
			t.Fatalf("IsGarden(%s) = %v, %v", textOf(tubes), garden, ok)
		}
		gardens := slices.DeleteFunc(racksBeforeModel(t, tubes), func(before impl.Rack) bool {
			text, _ := impl.RackText(before)
			return len(modelSources(tubesOf(t, text))) > 0
		})
		got, ok := impl.GardensBefore(r)
		if !ok || !slices.Equal(got, gardens) {
			t.Fatalf("GardensBefore(%s) = %v, %v, not %v", textOf(tubes), got, ok, gardens)
		}
		many += len(got)
	}
	if many < 20 {
		t.Error("only", many, "gardens before")
	}
}

func TestCountFormsBefore(t *testing.T) {
	fewer := 0
	for _, tubes := range backTubes(t) {
		forms := map[[6]string]bool{}
		sources := modelSources(tubes)
		for _, m := range sources {
			forms[modelForm(m.tubes)] = true
		}
		if many, ok := impl.CountFormsBefore(rackOf(tubes)); !ok || many != len(forms) {
			t.Fatalf("CountFormsBefore(%s) = %d, %v, not %d", textOf(tubes), many, ok, len(forms))
		}
		if len(forms) < len(sources) {
			fewer++
		}
	}
	if fewer < 100 {
		t.Error("only", fewer, "had Racks before with the same form")
	}
}

// walkBack returns a list of possible Sources, one behind the other, and the tubes then.
func walkBack(source *rand.Rand, tubes [6]string, steps int) ([]impl.Source, [6]string) {
	var list []impl.Source
	for range steps {
		sources := modelSources(tubes)
		if len(sources) == 0 {
			break
		}
		m := sources[source.Intn(len(sources))]
		list = append(list, m.source)
		tubes = m.tubes
	}
	return list, tubes
}

func TestPourBacks(t *testing.T) {
	source := rand.New(rand.NewSource(7))
	outer := outerSources()
	for n, tubes := range backTubes(t) {
		r := rackOf(tubes)
		list, end := walkBack(source, tubes, 12)
		got, many, ok := impl.PourBacks(r, list)
		if !ok || got != rackOf(end) || many != len(list) {
			t.Fatalf("PourBacks(%s, %v) = %v, %d, %v, not %s", textOf(tubes), list, got, many, ok, textOf(end))
		}
		at := source.Intn(len(list) + 1)
		stop, _, _ := impl.PourBacks(r, list[:at])
		bad := slices.Insert(slices.Clone(list), at, outer[n%len(outer)])
		if got, many, ok := impl.PourBacks(r, bad); !ok || got != stop || many != at {
			t.Fatalf("PourBacks(%s, %v) = %v, %d, %v, not %v, %d", textOf(tubes), bad, got, many, ok, stop, at)
		}
	}
}

// TestPourBacksUndoesPours goes back by the same pours by which DoPours has come.
func TestPourBacksUndoesPours(t *testing.T) {
	source := rand.New(rand.NewSource(8))
	for _, tubes := range backTubes(t) {
		r := rackOf(tubes)
		var list []impl.Source
		for range 15 {
			pours := modelPours(tubes)
			if len(pours) == 0 {
				break
			}
			p := pours[source.Intn(len(pours))]
			list = slices.Insert(list, 0, p.source)
			tubes = p.tubes
		}
		if got, many, ok := impl.PourBacks(rackOf(tubes), list); !ok || got != r || many != len(list) {
			t.Fatalf("PourBacks(%s, %v) = %v, %d, %v, not %v", textOf(tubes), list, got, many, ok, r)
		}
	}
}

func TestPourBacksExamples(t *testing.T) {
	one, two, three := impl.Source{From: 1, To: 0, Moved: 1}, impl.Source{From: 1, To: 0, Moved: 2}, impl.Source{From: 2, To: 1, Moved: 1}
	for _, c := range []struct {
		name, text, end string
		list            []impl.Source
		many            int
	}{
		{"none", "aa../..../..../..../..../....", "aa../..../..../..../..../....", nil, 0},
		{"an empty list", "..../..../..../..../..../....", "..../..../..../..../..../....", []impl.Source{}, 0},
		{"the first one not possible", "aba./..../..../..../..../....", "aba./..../..../..../..../....", []impl.Source{one, three}, 0},
		{"all", "aa../..../..../..../..../....", "a.../..../a.../..../..../....", []impl.Source{one, three}, 2},
		{"the last one not possible", "aa../..../..../..../..../....", "a.../a.../..../..../..../....", []impl.Source{one, one}, 1},
		{"one in the middle not possible", "aa../..../..../..../..../....", "a.../a.../..../..../..../....", []impl.Source{one, two, three}, 1},
		{"one in the middle out of range", "aa../..../..../..../..../....", "a.../a.../..../..../..../....", []impl.Source{one, {From: 6, To: 1, Moved: 1}, three}, 1},
		{"the first one out of range", "aa../..../..../..../..../....", "aa../..../..../..../..../....", []impl.Source{{From: -1, To: 0, Moved: 1}, one}, 0},
		{"another number", "aa../..../..../..../..../....", "aa../..../..../..../..../....", []impl.Source{{From: 1, To: 0, Moved: 3}, one}, 0},
		{"from the empty Rack", "..../..../..../..../..../....", "..../..../..../..../..../....", []impl.Source{one}, 0},
	} {
		got, many, ok := impl.PourBacks(rackOf(tubesOf(t, c.text)), c.list)
		if !ok || got != rackOf(tubesOf(t, c.end)) || many != c.many {
			t.Error(c.name, got, many, ok)
		}
	}
}

func TestPourBacksOfALongList(t *testing.T) {
	list := slices.Repeat([]impl.Source{{From: 5, To: 0, Moved: 4}, {From: 0, To: 5, Moved: 4}}, 20000)
	r := rackOf([6]string{"eeee", "ab"})
	if got, many, ok := impl.PourBacks(r, list); !ok || got != r || many != 40000 {
		t.Error(got, many, ok)
	}
}

func TestPlainRackOfEachCounts(t *testing.T) {
	for code := range 5 * 5 * 5 * 5 * 5 {
		counts := [6]int{}
		var tubes [6]string
		place := 0
		rest := code
		for color := 1; color <= 5; color++ {
			counts[color] = rest % 5
			rest /= 5
			if counts[color] > 0 {
				tubes[place] = strings.Repeat(modelColors[color-1:color], counts[color])
				place++
			}
		}
		plain, ok := impl.PlainRack(counts)
		if !ok || plain != rackOf(tubes) {
			t.Fatalf("PlainRack(%v) = %v, %v, not %s", counts, plain, ok, textOf(tubes))
		}
		if sorted, ok := impl.IsSorted(plain); !ok || !sorted {
			t.Fatalf("IsSorted(%s) = %v, %v", textOf(tubes), sorted, ok)
		}
		colors, _ := impl.CountColors(plain)
		if colors[0] = 0; colors != counts {
			t.Fatalf("PlainRack(%v) has the colors %v", counts, colors)
		}
	}
}

func TestPlainRackFailsForOtherCounts(t *testing.T) {
	for _, counts := range [][6]int{{}, {0, 4, 4, 4, 4, 4}, {0, 0, 2, 0, 1, 0}} {
		for color := range counts {
			for _, many := range []int{-1, 1, 4, 5, 6, 256, 1 << 32, math.MaxInt, math.MinInt} {
				if color > 0 && (many == 1 || many == 4) {
					continue
				}
				other := counts
				other[color] = many
				r, ok := impl.PlainRack(other)
				wantFailed(t, []rackCall{{"PlainRack", ok, r == impl.Rack{}}}, other)
			}
		}
	}
}

// mixedModel pours back on texts.
func mixedModel(tubes [6]string, choices []int) ([6]string, [][2]int) {
	var pours [][2]int
	for _, choice := range choices {
		sources := modelSources(tubes)
		if len(sources) == 0 {
			break
		}
		m := sources[choice%len(sources)]
		pours = slices.Insert(pours, 0, m.pour())
		tubes = m.tubes
	}
	return tubes, pours
}

func checkMixed(t *testing.T, tubes [6]string, choices []int) int {
	t.Helper()
	mixed, want := mixedModel(tubes, choices)
	got, pours, ok := impl.MixedBy(rackOf(tubes), choices)
	if !ok || got != rackOf(mixed) || !slices.Equal(pours, want) {
		t.Fatalf("MixedBy(%s, %v) = %v, %v, %v, not %s, %v", textOf(tubes), choices, got, pours, ok, textOf(mixed), want)
	}
	if again, _, ok := impl.DoPours(got, pours); !ok || again != rackOf(tubes) {
		t.Fatalf("%v leads from %v to %v, %v, not %s", pours, got, again, ok, textOf(tubes))
	}
	return len(choices) - len(pours)
}

func TestMixedBy(t *testing.T) {
	source := rand.New(rand.NewSource(9))
	stopped := 0
	for _, tubes := range backTubes(t) {
		for _, many := range []int{0, 1, 1 + source.Intn(19), 20} {
			choices := make([]int, many)
			for k := range choices {
				choices[k] = source.Intn(60)
				if source.Intn(4) == 0 {
					choices[k] = math.MaxInt - source.Intn(100)
				}
			}
			if checkMixed(t, tubes, choices) > 0 {
				stopped++
			}
		}
	}
	if stopped < 100 {
		t.Error("only", stopped, "stopped at a garden")
	}
}

func TestMixedByExamples(t *testing.T) {
	for _, c := range []struct {
		name, text, mixed string
		choices           []int
		pours             [][2]int
	}{
		{"no choices", "aa../..../..../..../..../....", "aa../..../..../..../..../....", nil, nil},
		{"an empty list", "..../..../..../..../..../....", "..../..../..../..../..../....", []int{}, nil},
		{"the first Source", "aa../..../..../..../..../....", "a.../a.../..../..../..../....", []int{0}, [][2]int{{1, 0}}},
		{"the second Source", "aa../..../..../..../..../....", "..../aa../..../..../..../....", []int{1}, [][2]int{{1, 0}}},
		{"the last Source", "aa../..../..../..../..../....", "..../..../..../..../..../aa..", []int{9}, [][2]int{{5, 0}}},
		{"as many as there are", "aa../..../..../..../..../....", "a.../a.../..../..../..../....", []int{10}, [][2]int{{1, 0}}},
		{"more than there are", "aa../..../..../..../..../....", "..../..../..../..../..../aa..", []int{1009}, [][2]int{{5, 0}}},
		{"the greatest number", "aa../..../..../..../..../....", "..../..../..../..../aa../....", []int{math.MaxInt}, [][2]int{{4, 0}}},
		{"the last one is poured first", "a.../..../..../..../..../....", "..../..../..../a.../..../....", []int{1, 4, 3}, [][2]int{{3, 5}, {5, 2}, {2, 0}}},
		{"a garden at once", "ab../..../..../..../..../....", "ab../..../..../..../..../....", []int{0, 7, 3}, nil},
		{"the empty Rack", "..../..../..../..../..../....", "..../..../..../..../..../....", []int{5}, nil},
		{"up to a garden", "a.../b.../abac/cbca/abca/abab", "..../ba../abac/cbca/abca/abab", []int{1, 0, 9}, [][2]int{{1, 0}}},
	} {
		got, pours, ok := impl.MixedBy(rackOf(tubesOf(t, c.text)), c.choices)
		if !ok || got != rackOf(tubesOf(t, c.mixed)) || !slices.Equal(pours, c.pours) {
			t.Error(c.name, got, pours, ok)
		}
	}
}

func TestMixedByWithTheMostChoices(t *testing.T) {
	r := rackOf([6]string{"a"})
	garden := rackOf([6]string{"ab"})
	twenty := slices.Repeat([][2]int{{0, 1}, {1, 0}}, 10)
	if got, pours, ok := impl.MixedBy(r, make([]int, 20)); !ok || got != r || !slices.Equal(pours, twenty) {
		t.Error("20 choices", got, pours, ok)
	}
	if got, pours, ok := impl.MixedBy(garden, make([]int, 20)); !ok || got != garden || len(pours) != 0 {
		t.Error("20 choices for a garden", got, pours, ok)
	}
	for _, many := range []int{21, 22, 1000} {
		for _, r := range []impl.Rack{r, garden, {}} {
			got, pours, ok := impl.MixedBy(r, make([]int, many))
			wantFailed(t, []rackCall{{"MixedBy", ok, got == impl.Rack{} && len(pours) == 0}}, r, many)
		}
	}
}

// Numbers less than 0 fail behind a garden too, where they tell no Source.
func TestMixedByFailsForNegativeNumbers(t *testing.T) {
	for _, tubes := range [][6]string{{}, {"a"}, {"ab"}, {"aa", "b"}, {"a", "b", "abac", "cbca", "abca", "abab"}} {
		for _, many := range []int{1, 3, 20} {
			for at := range many {
				for _, number := range []int{-1, -10, math.MinInt} {
					choices := make([]int, many)
					choices[at] = number
					got, pours, ok := impl.MixedBy(rackOf(tubes), choices)
					wantFailed(t, []rackCall{{"MixedBy", ok, got == impl.Rack{} && len(pours) == 0}}, textOf(tubes), choices)
				}
			}
		}
	}
}

func TestIsUndoneAndUndonePours(t *testing.T) {
	partly := 0
	for _, tubes := range backTubes(t) {
		r := rackOf(tubes)
		var undone [][2]int
		for _, p := range modelPours(tubes) {
			i, j := p.source.From, p.source.To
			again := p.tubes
			again[j], again[i], _ = poured(p.tubes[j], p.tubes[i])
			if is, ok := impl.IsUndone(r, i, j); !ok || is != (again == tubes) {
				t.Fatalf("IsUndone(%s, %d, %d) = %v, %v", textOf(tubes), i, j, is, ok)
			}
			if again == tubes {
				undone = append(undone, p.pour())
			}
			if again == tubes && p.source.Moved < topSize(tubes[i]) {
				partly++
			}
		}
		if got, ok := impl.UndonePours(r); !ok || !slices.Equal(got, undone) {
			t.Fatalf("UndonePours(%s) = %v, %v, not %v", textOf(tubes), got, ok, undone)
		}
	}
	if partly < 5 {
		t.Error("only", partly, "pours of a top in part were undone")
	}
}

func TestUndoneExamples(t *testing.T) {
	for _, c := range []struct {
		name, text string
		pours      [][2]int
		undone     [][2]int
	}{
		{"idle pours", "aa../..../..../..../..../....", [][2]int{{0, 1}, {0, 5}}, [][2]int{{0, 1}, {0, 2}, {0, 3}, {0, 4}, {0, 5}}},
		{"from another color into empty tubes", "ab../..../..../..../..../....", [][2]int{{0, 1}, {0, 5}}, nil},
		{"all of a tube onto another one", "a.../a.../bbba/ccca/ddda/eeea", [][2]int{{0, 1}, {1, 0}, {2, 0}}, nil},
		{"full behind it, but room before it", "aaa./baa./bcbc/cccd/dddc/eeed", [][2]int{{0, 1}, {1, 0}}, nil},
		{"as much room as has been moved", "baaa/caaa/bcbc/ccca/ddda/dede", nil, nil},
		{"a part onto a part, there and back", "baaa/caa./bcbc/ccdc/ddbd/dede", [][2]int{{0, 1}}, [][2]int{{0, 1}}},
		{"more comes back than has been moved", "aa../caa./bcbc/ccdc/ddbd/dede", [][2]int{{0, 1}, {1, 0}}, nil},
		{"a full tube into an empty one", "..../cccc/bcbd/ccdb/ddbc/dedb", [][2]int{{1, 0}}, [][2]int{{1, 0}}},
		{"none at all", "..../..../..../..../..../....", nil, nil},
	} {
		r := rackOf(tubesOf(t, c.text))
		got, ok := impl.UndonePours(r)
		if !ok || !slices.Equal(got, c.undone) {
			t.Error(c.name, got, ok)
		}
		for _, p := range c.pours {
			if is, ok := impl.IsUndone(r, p[0], p[1]); !ok || is != slices.Contains(c.undone, p) {
				t.Error(c.name, p, is, ok)
			}
		}
	}
}

func TestIsUndoneFailsIfOneCannotPour(t *testing.T) {
	places := append([]int{0, 1, 2, 3, 4, 5}, outerPlaces...)
	for _, tubes := range slices.Concat(specialTubes(t), poorTubes(t), someTubes(50)) {
		for _, i := range places {
			for _, j := range places {
				if slices.ContainsFunc(modelPours(tubes), func(p modelSource) bool { return p.pour() == [2]int{i, j} }) {
					continue
				}
				is, ok := impl.IsUndone(rackOf(tubes), i, j)
				wantFailed(t, []rackCall{{"IsUndone", ok, !is}}, textOf(tubes), i, j)
			}
		}
	}
}

func TestBackTo(t *testing.T) {
	source := rand.New(rand.NewSource(10))
	all := backTubes(t)
	for _, b := range all {
		sources := modelSources(b)
		others := [][6]string{b, {}, all[source.Intn(len(all))], modelForm(b)}
		for _, m := range sources {
			others = append(others, m.tubes)
		}
		for _, p := range modelPours(b) {
			others = append(others, p.tubes)
		}
		for _, a := range others {
			var want []impl.Source
			for _, m := range sources {
				if m.tubes == a {
					want = append(want, m.source)
				}
			}
			if got, ok := impl.BackTo(rackOf(a), rackOf(b)); !ok || !slices.Equal(got, want) {
				t.Fatalf("BackTo(%s, %s) = %v, %v, not %v", textOf(a), textOf(b), got, ok, want)
			}
		}
	}
}

func TestBackToExamples(t *testing.T) {
	for _, c := range []struct {
		name, a, b string
		sources    []impl.Source
	}{
		{"by one pour", "ab../cb../..../..../..../....", "a.../cbb./..../..../..../....", []impl.Source{{From: 0, To: 1, Moved: 1}}},
		{"not the other way", "a.../cbb./..../..../..../....", "ab../cb../..../..../..../....", nil},
		{"by an idle pour", "..../..../..../dddd/..../....", "dddd/..../..../..../..../....", []impl.Source{{From: 3, To: 0, Moved: 4}}},
		{"by two pours", "ab../cb../db../..../..../....", "a.../cbbb/d.../..../..../....", nil},
		{"the same Rack", "a.../a.../..../..../..../....", "a.../a.../..../..../..../....", nil},
		{"the empty Racks", "..../..../..../..../..../....", "..../..../..../..../..../....", nil},
		{"one layer more", "a.../..../..../..../..../....", "aa../..../..../..../..../....", nil},
		{"another color", "a.../..../..../..../..../....", "..../b.../..../..../..../....", nil},
		{"to a garden", "a.../b.../..../..../..../....", "ab../..../..../..../..../....", nil},
		{"a pour moves more", "aa../a.../..../..../..../....", "a.../aa../..../..../..../....", nil},
		{"the same form", "aaa./aa../..../..../..../....", "a.../aaaa/..../..../..../....", []impl.Source{{From: 0, To: 1, Moved: 2}}},
	} {
		if got, ok := impl.BackTo(rackOf(tubesOf(t, c.a)), rackOf(tubesOf(t, c.b))); !ok || !slices.Equal(got, c.sources) {
			t.Error(c.name, got, ok)
		}
	}
}

func callsOfBack(r impl.Rack) []rackCall {
	sources, ok1 := impl.SourcesOf(r)
	racks, ok2 := impl.RacksBefore(r)
	garden, ok3 := impl.IsGarden(r)
	end, many, ok4 := impl.PourBacks(r, nil)
	mixed, pours, ok5 := impl.MixedBy(r, nil)
	forms, ok6 := impl.CountFormsBefore(r)
	undone, ok7 := impl.UndonePours(r)
	gardens, ok8 := impl.GardensBefore(r)
	to, ok9 := impl.BackTo(r, r)
	return []rackCall{
		{"SourcesOf", ok1, len(sources) == 0}, {"RacksBefore", ok2, len(racks) == 0}, {"IsGarden", ok3, !garden},
		{"PourBacks", ok4, end == impl.Rack{} && many == 0}, {"MixedBy", ok5, mixed == impl.Rack{} && len(pours) == 0},
		{"CountFormsBefore", ok6, forms == 0}, {"UndonePours", ok7, len(undone) == 0}, {"GardensBefore", ok8, len(gardens) == 0},
		{"BackTo", ok9, len(to) == 0},
	}
}

// callsOfPlaces are of a Source whose places are given; beside the Rack, all other Racks are valid.
func callsOfPlaces(r impl.Rack, i int, j int) []rackCall {
	s := impl.Source{From: i, To: j, Moved: 1}
	before, ok1 := impl.PourBack(r, s)
	end, many, ok2 := impl.PourBacks(r, []impl.Source{s, s})
	mixed, pours, ok3 := impl.MixedBy(r, []int{i + 1, j + 1})
	undone, ok4 := impl.IsUndone(r, i, j)
	from, ok5 := impl.BackTo(r, rackOf([6]string{"aa", "b"}))
	to, ok6 := impl.BackTo(rackOf([6]string{"aa", "b"}), r)
	return []rackCall{
		{"PourBack", ok1, before == impl.Rack{}}, {"PourBacks", ok2, end == impl.Rack{} && many == 0},
		{"MixedBy", ok3, mixed == impl.Rack{} && len(pours) == 0}, {"IsUndone", ok4, !undone},
		{"BackTo", ok5, len(from) == 0}, {"BackTo", ok6, len(to) == 0},
	}
}

func TestBackFunctionsFailForBadRacks(t *testing.T) {
	for _, r := range badRacks() {
		wantFailed(t, callsOfBack(r), r)
		for i := -1; i <= 6; i++ {
			for j := -1; j <= 6; j++ {
				wantFailed(t, callsOfPlaces(r, i, j), r, i, j)
			}
		}
	}
}

func TestBackFunctionsSucceedForTheEmptyRack(t *testing.T) {
	for _, c := range callsOfBack(impl.Rack{}) {
		if !c.ok {
			t.Errorf("%s of the empty Rack fails", c.name)
		}
	}
	if garden, ok := impl.IsGarden(impl.Rack{}); !ok || !garden {
		t.Error("IsGarden of the empty Rack", garden, ok)
	}
}

func TestBackFunctionsKeepTheirArguments(t *testing.T) {
	list := []impl.Source{{From: 1, To: 0, Moved: 1}, {From: 2, To: 0, Moved: 1}, {From: 9, To: 9, Moved: 9}, {From: 1, To: 0, Moved: 1}}
	choices := []int{7, 0, 33, 2, 2, 0}
	keptList, keptChoices := slices.Clone(list), slices.Clone(choices)
	for _, tubes := range backTubes(t)[:100] {
		r := rackOf(tubes)
		callsOfBack(r)
		callsOfPlaces(r, 1, 0)
		impl.PourBacks(r, list)
		impl.MixedBy(r, choices)
		if r != rackOf(tubes) || !slices.Equal(list, keptList) || !slices.Equal(choices, keptChoices) {
			t.Fatalf("%s is now %v, with %v and %v", textOf(tubes), r, list, choices)
		}
	}
}

// checkOwnMemory overwrites all of one result and looks at those before and behind it.
func checkOwnMemory[T comparable](t *testing.T, name string, other T, call func() ([]T, bool)) {
	t.Helper()
	first, _ := call()
	kept := slices.Clone(first)
	second, _ := call()
	for k := range second[:cap(second)] {
		second[:cap(second)][k] = other
	}
	third, ok := call()
	if !ok || len(kept) == 0 || !slices.Equal(first, kept) || !slices.Equal(third, kept) {
		t.Errorf("%s returns %v and %v, not %v", name, first, third, kept)
	}
}

func TestBackResultsShareNoMemory(t *testing.T) {
	r := rackOf(tubesOf(t, "a.../cbb./..../..../..../...."))
	before := rackOf(tubesOf(t, "ab../cb../..../..../..../...."))
	source, pour, rack := impl.Source{From: -7, To: -7, Moved: -7}, [2]int{-7, -7}, rackOf([6]string{"e", "e", "e", "e", "e", "e"})
	checkOwnMemory(t, "SourcesOf", source, func() ([]impl.Source, bool) { return impl.SourcesOf(r) })
	checkOwnMemory(t, "BackTo", source, func() ([]impl.Source, bool) { return impl.BackTo(before, r) })
	checkOwnMemory(t, "RacksBefore", rack, func() ([]impl.Rack, bool) { return impl.RacksBefore(r) })
	checkOwnMemory(t, "GardensBefore", rack, func() ([]impl.Rack, bool) { return impl.GardensBefore(r) })
	checkOwnMemory(t, "UndonePours", pour, func() ([][2]int, bool) { return impl.UndonePours(r) })
	checkOwnMemory(t, "MixedBy", pour, func() ([][2]int, bool) {
		_, pours, ok := impl.MixedBy(r, []int{3, 8, 1, 0, 5})
		return pours, ok
	})
}
