package tests

import (
	"fmt"
	"math"
	"math/rand"
	"regexp"
	"slices"
	"strings"
	"testing"

	"loop.example/g01215/impl"
)

// Replays are held against a model on the texts of tubes (see l2_racks_test.go), which cuts loops in one
// pass: from each Rack it goes on at the last place where this comes again.

var outerNumbers = []int{-1, -2, -60, -61, 61, 62, 256, 1 << 32, math.MaxInt, math.MinInt}

func replayOf(tubes [6]string, pours [][2]int) impl.Replay {
	return impl.Replay{Start: rackOf(tubes), Pours: pours}
}

// replayFrom is the Replay of a text for a Start and of pours.
func replayFrom(t *testing.T, text string, pours ...[2]int) impl.Replay {
	t.Helper()
	return replayOf(tubesOf(t, text), pours)
}

func isSame(a impl.Replay, b impl.Replay) bool {
	return a.Start == b.Start && slices.Equal(a.Pours, b.Pours)
}

func isNoReplay(x impl.Replay) bool { return x.Start == impl.Rack{} && len(x.Pours) == 0 }

// racksModel returns the tubes of a Replay from its start on, how many layers its pours move, and
// whether all of them are possible.
func racksModel(tubes [6]string, pours [][2]int) ([][6]string, int, bool) {
	all, sum := [][6]string{tubes}, 0
	for _, p := range pours {
		i, j := p[0], p[1]
		if i < 0 || i > 5 || j < 0 || j > 5 || i == j {
			return nil, 0, false
		}
		from, to, moved := poured(tubes[i], tubes[j])
		if moved == 0 {
			return nil, 0, false
		}
		tubes[i], tubes[j] = from, to
		all = append(all, tubes)
		sum += moved
	}
	return all, sum, true
}

func loopsModel(all [][6]string) [][2]int {
	var loops [][2]int
	for k := range all {
		for m := range all {
			if k < m && all[k] == all[m] {
				loops = append(loops, [2]int{k, m})
			}
		}
	}
	return loops
}

func cutModel(all [][6]string, pours [][2]int) [][2]int {
	var left [][2]int
	for k := 0; k < len(pours); k++ {
		for m := len(all) - 1; m > k; m-- {
			if all[m] == all[k] {
				k = m
			}
		}
		if k < len(pours) {
			left = append(left, pours[k])
		}
	}
	return left
}

func busyModel(tubes [6]string, pours [][2]int) [][2]int {
	var busy [][2]int
	for _, p := range pours {
		if isPlainTube(tubes[p[0]]) && tubes[p[1]] == "" {
			continue
		}
		if next, ok := modelBehind(tubes, p); ok {
			busy = append(busy, p)
			tubes = next
		}
	}
	return busy
}

func canSwapModel(all [][6]string, pours [][2]int, k int) bool {
	swapped := slices.Clone(pours)
	slices.Reverse(swapped[k : k+2])
	others, _, ok := racksModel(all[0], swapped)
	return ok && others[len(pours)] == all[len(pours)]
}

func replayTextModel(tubes [6]string, pours [][2]int) string {
	text := textOf(tubes)
	for _, p := range pours {
		text += fmt.Sprintf(" %d%d", p[0], p[1])
	}
	return text
}

// replayPours makes n pours by chance, less if there are none. Some of them are poured back at once, and
// some between few tubes alone, so that there are loops.
func replayPours(source *rand.Rand, tubes [6]string, n int) [][2]int {
	var pours [][2]int
	most := 2 + source.Intn(5)
	for len(pours) < n {
		possible := poursOf(modelPours(tubes))
		if len(possible) == 0 {
			break
		}
		p := possible[source.Intn(len(possible))]
		if k := len(pours) - 1; k >= 0 && source.Intn(3) == 0 {
			p = [2]int{pours[k][1], pours[k][0]}
		} else if source.Intn(2) == 0 {
			p = [2]int{source.Intn(most), source.Intn(most)}
		}
		if next, ok := modelBehind(tubes, p); ok {
			pours = append(pours, p)
			tubes = next
		}
	}
	return pours
}

type sample struct {
	tubes [6]string
	pours [][2]int
}

// someReplays are valid ones of all lengths up to 60, and the first ways of those starts that have one.
func someReplays(t *testing.T) []sample {
	t.Helper()
	source := rand.New(rand.NewSource(12))
	var all []sample
	for n, tubes := range append(boundTubes(t), completeTubes(100)...) {
		if n%3 > 0 {
			continue
		}
		all = append(all, sample{tubes, replayPours(source, tubes, source.Intn(10))})
		all = append(all, sample{tubes, replayPours(source, tubes, source.Intn(61))})
		if way, ok := impl.FirstWay(rackOf(tubes)); ok {
			all = append(all, sample{tubes, way})
		}
	}
	return all
}

func TestReplayConstants(t *testing.T) {
	if impl.MaxReplay != 60 {
		t.Error(impl.MaxReplay)
	}
}

// checkRacks holds the Racks of a valid Replay against the model, and their colors against those of the
// start.
func checkRacks(t *testing.T, s sample) [][6]string {
	t.Helper()
	x := replayOf(s.tubes, s.pours)
	all, sum, _ := racksModel(s.tubes, s.pours)
	if !impl.IsReplay(x) {
		t.Fatalf("%v is not valid", x)
	}
	colors, _ := impl.CountColors(x.Start)
	for k, tubes := range all {
		r, ok := impl.ReplayRack(x, k)
		if !ok || r != rackOf(tubes) {
			t.Fatalf("ReplayRack(%v, %d) = %v, %v, not %s", x, k, r, ok, textOf(tubes))
		}
		if counts, ok := impl.CountColors(r); !ok || counts != colors {
			t.Fatalf("Rack %d of %v has the colors %v, not %v", k, x, counts, colors)
		}
	}
	for _, k := range append([]int{len(all), len(all) + 1}, outerNumbers...) {
		if r, ok := impl.ReplayRack(x, k); ok || r != (impl.Rack{}) {
			t.Fatalf("ReplayRack(%v, %d) = %v, %v", x, k, r, ok)
		}
	}
	if got, ok := impl.MovedLayers(x); !ok || got != sum {
		t.Fatalf("MovedLayers(%v) = %d, %v, not %d", x, got, ok, sum)
	}
	return all
}

func TestReplayRacksAndMovedLayers(t *testing.T) {
	lengths := map[int]bool{}
	for _, s := range someReplays(t) {
		checkRacks(t, s)
		lengths[len(s.pours)] = true
	}
	if len(lengths) < 50 {
		t.Error("only the lengths", lengths)
	}
}

func TestDoesSolveAndCertifyReplay(t *testing.T) {
	solving, best, going := 0, 0, 0
	for _, s := range someReplays(t) {
		x := replayOf(s.tubes, s.pours)
		all, _, _ := racksModel(s.tubes, s.pours)
		want := isSortedModel(all[len(all)-1])
		solves, ok := impl.DoesSolve(x)
		if !ok || solves != want {
			t.Fatalf("DoesSolve(%v) = %v, %v", x, solves, ok)
		}
		spare, ok := impl.CertifyReplay(x)
		if !want {
			if ok || spare != 0 {
				t.Fatalf("CertifyReplay(%v) = %d, %v, which does not solve", x, spare, ok)
			}
			continue
		}
		solving++
		if !ok || spare < 0 || spare != len(s.pours)-modelBound(s.tubes) {
			t.Fatalf("CertifyReplay(%v) = %d, %v", x, spare, ok)
		}
		if spare == 0 {
			best++
			if fewest, ok := impl.FewestPours(x.Start); !ok || fewest != len(s.pours) {
				t.Fatalf("CertifyReplay(%v) = 0, but %d pours sort", x, fewest)
			}
		}
		if len(s.pours) > 0 && isSortedModel(all[len(all)-2]) {
			going++
		}
	}
	if solving < 300 || best < 100 || solving-best < 100 || going < 20 {
		t.Error("only", solving, "that solve,", best, "with as few pours as the bound,", going, "that go on behind it")
	}
}

// A pour of a sorted Rack is idle, and leads to a sorted one: what is sorted on its way stays so.
func TestReplaysStaySorted(t *testing.T) {
	many := 0
	for _, s := range someReplays(t) {
		x := replayOf(s.tubes, s.pours)
		before := false
		for k := range len(s.pours) + 1 {
			sorted, ok := impl.DoesSolve(impl.Replay{Start: x.Start, Pours: s.pours[:k]})
			if !ok || before && !sorted {
				t.Fatalf("%v is not sorted any more behind %d pours", x, k)
			}
			if before {
				many++
			}
			before = sorted
		}
	}
	if many < 300 {
		t.Error("only", many, "pours behind a sorted Rack")
	}
}

func TestReplaysThatSolve(t *testing.T) {
	for _, c := range []struct {
		name, text string
		pours      [][2]int
		solves     bool
		spare      int
	}{
		{"empty", "..../..../..../..../..../....", nil, true, 0},
		{"sorted", "aaaa/bb../..../..../..../e...", nil, true, 0},
		{"sorted, and an idle pour", "aaaa/bb../..../..../..../e...", [][2]int{{0, 2}}, true, 1},
		{"not sorted", "ab../b.../a.../..../..../....", nil, false, 0},
		{"sorted by few pours", "ab../b.../a.../..../..../....", [][2]int{{0, 1}, {0, 2}}, true, 0},
		{"sorted by one more", "ab../b.../a.../..../..../....", [][2]int{{0, 3}, {0, 2}, {3, 1}}, true, 1},
		{"sorted behind a loop", "ab../b.../a.../..../..../....", [][2]int{{2, 3}, {3, 2}, {0, 1}, {2, 0}}, true, 2},
		{"sorted, and on", "ab../b.../a.../..../..../....", [][2]int{{0, 1}, {0, 2}, {2, 0}, {1, 5}}, true, 2},
		{"not yet sorted", "ab../b.../a.../..../..../....", [][2]int{{0, 1}}, false, 0},
		{"too many layers of a color", "aaaa/a.../..../..../..../....", nil, false, 0},
		{"by as few pours as possible, but more than the bound", "ab../ba../..../..../..../....", [][2]int{{0, 2}, {1, 0}, {1, 2}}, true, 1},
		{"twice the same color at the bottom", "a.../..../a.../..../a.../a...", [][2]int{{5, 0}, {2, 0}, {4, 0}}, true, 0},
		{"the same color poured past", "a.../..../a.../..../a.../a...", [][2]int{{5, 1}, {1, 0}, {2, 0}, {4, 0}}, true, 1},
		{"sixty pours", "e.../..../..../..../..../....", slices.Repeat([][2]int{{0, 1}, {1, 0}}, 30), true, 60},
	} {
		x := replayFrom(t, c.text, c.pours...)
		solves, ok := impl.DoesSolve(x)
		spare, certain := impl.CertifyReplay(x)
		if !ok || solves != c.solves || certain != c.solves || spare != c.spare {
			t.Error(c.name, solves, ok, spare, certain)
		}
	}
}

// checkLoops holds the loops and what is left without them against the model, and all that is promised.
func checkLoops(t *testing.T, s sample) [][2]int {
	t.Helper()
	x := replayOf(s.tubes, s.pours)
	all, _, _ := racksModel(s.tubes, s.pours)
	loops, ok := impl.LoopsOf(x)
	if !ok || !slices.Equal(loops, loopsModel(all)) {
		t.Fatalf("LoopsOf(%v) = %v, %v, not %v", x, loops, ok, loopsModel(all))
	}
	cut, ok := impl.CutLoops(x)
	if want := cutModel(all, s.pours); !ok || cut.Start != x.Start || !slices.Equal(cut.Pours, want) {
		t.Fatalf("CutLoops(%v) = %v, %v, not with the pours %v", x, cut, ok, want)
	}
	if left, ok := impl.LoopsOf(cut); !ok || len(left) > 0 || !impl.IsReplay(cut) || len(cut.Pours) > len(x.Pours) {
		t.Fatalf("CutLoops(%v) = %v, with the loops %v, %v", x, cut, left, ok)
	}
	last, _ := impl.ReplayRack(cut, len(cut.Pours))
	solves, _ := impl.DoesSolve(cut)
	if want, _ := impl.DoesSolve(x); last != rackOf(all[len(all)-1]) || solves != want {
		t.Fatalf("CutLoops(%v) = %v, which ends with %v", x, cut, last)
	}
	if again, ok := impl.CutLoops(cut); !ok || !isSame(again, cut) {
		t.Fatalf("CutLoops(%v) = %v, %v", cut, again, ok)
	}
	if len(loops) == 0 && !isSame(cut, x) {
		t.Fatalf("CutLoops(%v) = %v, but there are no loops", x, cut)
	}
	return loops
}

func TestLoopsOfAndCutLoops(t *testing.T) {
	none, one, within, crossing, after := 0, 0, 0, 0, 0
	for _, s := range someReplays(t) {
		loops := checkLoops(t, s)
		switch len(loops) {
		case 0:
			none++
			continue
		case 1:
			one++
			continue
		}
		k, m := loops[0][0], loops[0][1]
		if slices.ContainsFunc(loops, func(l [2]int) bool { return l[0] > k && l[1] < m }) {
			within++
		}
		if slices.ContainsFunc(loops, func(l [2]int) bool { return l[0] > k && l[0] < m && l[1] > m }) {
			crossing++
		}
		if slices.ContainsFunc(loops, func(l [2]int) bool { return l[0] > m }) {
			after++
		}
	}
	if none < 200 || one < 50 || within < 20 || crossing < 200 || after < 200 {
		t.Error("only", none, "without loops,", one, "with one,", within, crossing, after)
	}
}

func TestLoopsExamples(t *testing.T) {
	single, pair := "a.../..../..../..../..../....", "a.../b.../..../..../..../...."
	for _, c := range []struct {
		name, text  string
		pours       [][2]int
		loops, left [][2]int
	}{
		{"no pours", single, nil, nil, nil},
		{"the empty Rack", "..../..../..../..../..../....", nil, nil, nil},
		{"one pour", single, [][2]int{{0, 1}}, nil, [][2]int{{0, 1}}},
		{"no loops", single, [][2]int{{0, 1}, {1, 2}, {2, 3}, {3, 4}, {4, 5}}, nil, [][2]int{{0, 1}, {1, 2}, {2, 3}, {3, 4}, {4, 5}}},
		{"there and back", single, [][2]int{{0, 1}, {1, 0}}, [][2]int{{0, 2}}, nil},
		{"around", single, [][2]int{{0, 1}, {1, 2}, {2, 0}}, [][2]int{{0, 3}}, nil},
		{"behind a pour", single, [][2]int{{0, 4}, {4, 2}, {2, 4}}, [][2]int{{1, 3}}, [][2]int{{0, 4}}},
		{"before a pour", single, [][2]int{{0, 4}, {4, 0}, {0, 5}}, [][2]int{{0, 2}}, [][2]int{{0, 5}}},
		{"within", single, [][2]int{{0, 1}, {1, 2}, {2, 1}, {1, 0}}, [][2]int{{0, 4}, {1, 3}}, nil},
		{"within, and out", single, [][2]int{{0, 1}, {1, 2}, {2, 3}, {3, 2}, {2, 1}, {1, 4}}, [][2]int{{1, 5}, {2, 4}}, [][2]int{{0, 1}, {1, 4}}},
		{"one after the other", single, [][2]int{{0, 1}, {1, 0}, {0, 2}, {2, 0}}, [][2]int{{0, 2}, {0, 4}, {2, 4}}, nil},
		{"the same start, and out", single, [][2]int{{0, 1}, {1, 0}, {0, 2}, {2, 0}, {0, 3}}, [][2]int{{0, 2}, {0, 4}, {2, 4}}, [][2]int{{0, 3}}},
		{"again and again", single, [][2]int{{0, 1}, {1, 0}, {0, 1}, {1, 0}}, [][2]int{{0, 2}, {0, 4}, {1, 3}, {2, 4}}, nil},
		{"overlapping", single, [][2]int{{0, 1}, {1, 0}, {0, 1}}, [][2]int{{0, 2}, {1, 3}}, [][2]int{{0, 1}}},
		{"the first of those that overlap", single, [][2]int{{0, 1}, {1, 2}, {2, 1}, {1, 0}, {0, 2}}, [][2]int{{0, 4}, {1, 3}, {2, 5}}, [][2]int{{0, 2}}},
		{"overlapping, with others between", single, [][2]int{{0, 1}, {1, 2}, {2, 0}, {0, 3}, {3, 2}}, [][2]int{{0, 3}, {2, 5}}, [][2]int{{0, 3}, {3, 2}}},
		{"apart", pair, [][2]int{{0, 2}, {2, 0}, {1, 3}, {3, 4}, {4, 3}}, [][2]int{{0, 2}, {3, 5}}, [][2]int{{1, 3}}},
		{"in two tubes at a time", pair, [][2]int{{0, 2}, {1, 3}, {2, 0}, {3, 1}}, [][2]int{{0, 4}}, nil},
		{"no loop but with two tubes exchanged", pair, [][2]int{{0, 2}, {1, 0}, {2, 1}}, nil, [][2]int{{0, 2}, {1, 0}, {2, 1}}},
		{"useful pours alone", "aaa./aa../..../..../..../....", [][2]int{{1, 0}, {0, 1}, {1, 0}}, [][2]int{{1, 3}}, [][2]int{{1, 0}}},
		{"not back by a pour back", "aaa./aa../..../..../..../....", [][2]int{{1, 0}, {0, 1}}, nil, [][2]int{{1, 0}, {0, 1}}},
		{"back by more layers", "aaa./baa./..../..../..../....", [][2]int{{0, 1}, {1, 0}, {0, 1}}, [][2]int{{1, 3}}, [][2]int{{0, 1}}},
	} {
		x := replayFrom(t, c.text, c.pours...)
		loops, ok := impl.LoopsOf(x)
		cut, fine := impl.CutLoops(x)
		if !ok || !fine || !slices.Equal(loops, c.loops) || !isSame(cut, replayFrom(t, c.text, c.left...)) {
			t.Error(c.name, loops, ok, cut.Pours, fine)
		}
		checkLoops(t, sample{tubesOf(t, c.text), c.pours})
	}
}

// Between three tubes each Rack comes again and again.
func TestLongLoops(t *testing.T) {
	tubes := [6]string{"a"}
	for _, around := range [][][2]int{{{0, 1}, {1, 0}}, {{0, 1}, {1, 2}, {2, 0}}, {{0, 1}, {1, 2}, {2, 1}, {1, 0}}} {
		for n := range 61 {
			pours := slices.Repeat(around, 30)[:n]
			checkLoops(t, sample{tubes, pours})
			if cut, ok := impl.CutLoops(replayOf(tubes, pours)); !ok || len(cut.Pours) > 2 {
				t.Fatal(n, cut, ok)
			}
		}
	}
	sixty := replayOf(tubes, slices.Repeat([][2]int{{0, 1}, {1, 0}}, 30))
	if loops, ok := impl.LoopsOf(sixty); !ok || len(loops) != 31*30/2+30*29/2 || loops[0] != [2]int{0, 2} || loops[len(loops)-1] != [2]int{58, 60} {
		t.Error("sixty pours", loops, ok)
	}
}

func TestAddPourAndUndoPours(t *testing.T) {
	possible, others := 0, 0
	for _, s := range someReplays(t) {
		x := replayOf(s.tubes, s.pours)
		all, _, _ := racksModel(s.tubes, s.pours)
		for i := range impl.Tubes {
			for j := range impl.Tubes {
				p := [2]int{i, j}
				more, ok := impl.AddPour(x, p)
				_, want := modelBehind(all[len(all)-1], p)
				if want = want && len(s.pours) < 60; ok != want || !ok && !isNoReplay(more) {
					t.Fatalf("AddPour(%v, %v) = %v, %v", x, p, more, ok)
				}
				if !ok {
					others++
					continue
				}
				possible++
				if !isSame(more, replayOf(s.tubes, append(slices.Clone(s.pours), p))) || !impl.IsReplay(more) {
					t.Fatalf("AddPour(%v, %v) = %v", x, p, more)
				}
				if back, ok := impl.UndoPours(more, 1); !ok || !isSame(back, x) {
					t.Fatalf("UndoPours(%v, 1) = %v, %v", more, back, ok)
				}
			}
		}
		for k := range len(s.pours) + 1 {
			left, ok := impl.UndoPours(x, k)
			if !ok || !isSame(left, replayOf(s.tubes, s.pours[:len(s.pours)-k])) {
				t.Fatalf("UndoPours(%v, %d) = %v, %v", x, k, left, ok)
			}
		}
		for _, k := range append([]int{len(s.pours) + 1, len(s.pours) + 2}, outerNumbers...) {
			if left, ok := impl.UndoPours(x, k); ok || !isNoReplay(left) {
				t.Fatalf("UndoPours(%v, %d) = %v, %v", x, k, left, ok)
			}
		}
	}
	if possible < 1000 || others < 1000 {
		t.Error("only", possible, others)
	}
}

func TestAddPourFailsForOuterPours(t *testing.T) {
	for _, text := range []string{"..../..../..../..../..../....", "a.../..../..../..../..../....", "ab../b.../a.../..../..../...."} {
		x := replayFrom(t, text)
		for _, p := range outerPours() {
			if more, ok := impl.AddPour(x, p); ok || !isNoReplay(more) {
				t.Error(text, p, more, ok)
			}
		}
	}
}

// A Replay grows pour by pour to the greatest length, and no further.
func TestReplaysOfTheGreatestLength(t *testing.T) {
	around := slices.Repeat([][2]int{{0, 1}, {1, 2}, {2, 0}}, 40)
	x := replayFrom(t, "a.../..../..../..../..../....")
	for n := range 60 {
		more, ok := impl.AddPour(x, around[n])
		if !ok || !isSame(more, impl.Replay{Start: x.Start, Pours: around[:n+1]}) {
			t.Fatal(n, more, ok)
		}
		x = more
	}
	if more, ok := impl.AddPour(x, around[60]); ok || !isNoReplay(more) {
		t.Error("61 pours", more, ok)
	}
	less, ok := impl.UndoPours(x, 60)
	if !ok || len(less.Pours) > 0 || less.Start != x.Start {
		t.Error("no pours", less, ok)
	}
	for _, many := range []int{61, 62, 63, 119, 120} {
		longer := impl.Replay{Start: x.Start, Pours: around[:many]}
		wantFailed(t, allReplayCalls(longer), many)
	}
	wantFailed(t, allReplayCalls(impl.Replay{Start: x.Start, Pours: slices.Repeat(around, 1000)}), "very many")
	for _, c := range append(callsOfReplay(x), callsOfNumber(x, 0)...) {
		if !c.ok {
			t.Errorf("%s of 60 pours fails", c.name)
		}
	}
}

func TestDropIdle(t *testing.T) {
	same, less, broken, other := 0, 0, 0, 0
	for _, s := range someReplays(t) {
		x := replayOf(s.tubes, s.pours)
		busy, ok := impl.DropIdle(x)
		want := busyModel(s.tubes, s.pours)
		if !ok || !isSame(busy, replayOf(s.tubes, want)) || !impl.IsReplay(busy) {
			t.Fatalf("DropIdle(%v) = %v, %v, not with the pours %v", x, busy, ok, want)
		}
		if again, ok := impl.DropIdle(busy); !ok || !isSame(again, busy) {
			t.Fatalf("DropIdle(%v) = %v, %v", busy, again, ok)
		}
		idle := 0
		for k, p := range s.pours {
			r, _ := impl.ReplayRack(x, k)
			if useful, _ := impl.UsefulPours(r); !slices.Contains(useful, p) {
				idle++
			}
		}
		switch dropped := len(s.pours) - len(want); {
		case dropped == 0:
			same++
		case dropped == idle:
			less++
		default:
			broken++
		}
		last, _ := impl.ReplayRack(x, len(s.pours))
		if end, _ := impl.ReplayRack(busy, len(want)); end != last {
			other++
		}
	}
	if same < 200 || less < 200 || broken < 200 || other < 200 {
		t.Error("only", same, less, broken, other)
	}
}

func TestDropIdleExamples(t *testing.T) {
	for _, c := range []struct {
		name, text  string
		pours, busy [][2]int
	}{
		{"no pours", "ab../b.../a.../..../..../....", nil, nil},
		{"the empty Rack", "..../..../..../..../..../....", nil, nil},
		{"no idle ones", "ab../b.../a.../..../..../....", [][2]int{{0, 1}, {0, 2}}, [][2]int{{0, 1}, {0, 2}}},
		{"idle ones alone", "a.../bb../..../..../..../....", [][2]int{{0, 2}, {1, 3}, {2, 0}}, nil},
		{"an idle one between", "ab../b.../a.../..../..../....", [][2]int{{0, 1}, {1, 4}, {0, 2}}, [][2]int{{0, 1}, {0, 2}}},
		{"a mixed tube to an empty one", "ab../b.../..../..../..../....", [][2]int{{0, 3}, {3, 1}}, [][2]int{{0, 3}, {3, 1}}},
		{"not possible without the idle one", "a.../..../a.../..../..../....", [][2]int{{0, 1}, {1, 2}}, nil},
		{"possible without it", "a.../..../a.../..../..../....", [][2]int{{0, 1}, {2, 1}}, nil},
		{"not idle any more", "a.../..../a.../..../..../....", [][2]int{{0, 3}, {2, 0}}, [][2]int{{2, 0}}},
		{"idle only now", "b.../..../b.../..../..../....", [][2]int{{2, 3}, {0, 3}}, nil},
		{"several not possible", "a.../..../a.../b.../b.../....", [][2]int{{0, 1}, {1, 5}, {5, 2}, {3, 4}, {2, 0}}, [][2]int{{3, 4}, {2, 0}}},
		{"full without the idle one", "aaa./..../aa../aa../..../....", [][2]int{{0, 1}, {2, 1}, {3, 0}, {2, 0}}, [][2]int{{3, 0}}},
	} {
		x := replayFrom(t, c.text, c.pours...)
		if busy, ok := impl.DropIdle(x); !ok || !isSame(busy, replayFrom(t, c.text, c.busy...)) {
			t.Error(c.name, busy, ok)
		}
	}
}

func TestCanSwap(t *testing.T) {
	can, not, longer := 0, 0, 0
	for _, s := range someReplays(t) {
		x := replayOf(s.tubes, s.pours)
		all, _, _ := racksModel(s.tubes, s.pours)
		for k := range max(len(s.pours)-1, 0) {
			got, ok := impl.CanSwap(x, k)
			if want := canSwapModel(all, s.pours, k); !ok || got != want {
				t.Fatalf("CanSwap(%v, %d) = %v, %v", x, k, got, ok)
			}
			if !got {
				not++
				continue
			}
			can++
			swapped := slices.Clone(s.pours)
			slices.Reverse(swapped[k : k+2])
			if others, _, _ := racksModel(s.tubes, swapped); others[k+2] != all[k+2] {
				longer++
			}
		}
		for _, k := range append([]int{len(s.pours) - 1, len(s.pours), len(s.pours) + 1}, outerNumbers...) {
			if got, ok := impl.CanSwap(x, k); ok || got {
				t.Fatalf("CanSwap(%v, %d) = %v, %v", x, k, got, ok)
			}
		}
	}
	if can < 1000 || not < 1000 || longer == 0 {
		t.Error("only", can, not, longer)
	}
}

func TestCanSwapExamples(t *testing.T) {
	for _, c := range []struct {
		name, text string
		pours      [][2]int
		k          int
		can        bool
	}{
		{"other tubes", "a.../b.../..../..../..../....", [][2]int{{0, 2}, {1, 3}}, 0, true},
		{"to the same tube", "a.../a.../a.../..../..../....", [][2]int{{0, 2}, {1, 2}}, 0, true},
		{"from the same tube", "ab../b.../a.../..../..../....", [][2]int{{0, 1}, {0, 2}}, 0, false},
		{"one behind the other", "a.../..../..../..../..../....", [][2]int{{0, 1}, {1, 2}}, 0, false},
		{"there and back", "a.../..../..../..../..../....", [][2]int{{0, 1}, {1, 0}}, 0, false},
		{"both possible, with another end", "a.../aa../aa../..../..../....", [][2]int{{1, 0}, {2, 0}}, 0, false},
		{"another Rack between, with the same end", "a.../aa../aa../a.../..../....", [][2]int{{1, 0}, {2, 0}, {3, 1}, {1, 2}}, 0, true},
		{"both possible, and the next not", "a.../aa../aa../..../..../b...", [][2]int{{1, 0}, {2, 0}, {5, 1}}, 0, false},
		{"both lead elsewhere, and all others follow", "a.../aa../aa../..../..../b...", [][2]int{{1, 0}, {2, 0}, {5, 3}}, 0, false},
		{"the first two of three", "a.../b.../c.../..../..../....", [][2]int{{0, 3}, {1, 4}, {4, 1}}, 0, true},
		{"the last two of three", "a.../b.../c.../..../..../....", [][2]int{{0, 3}, {1, 4}, {4, 1}}, 1, false},
		{"the second not possible before", "ab../b.../a.../..../..../....", [][2]int{{2, 5}, {0, 1}, {0, 5}}, 1, false},
		{"in the middle", "ab../b.../a.../..../..../....", [][2]int{{2, 5}, {0, 1}, {0, 5}}, 0, true},
	} {
		x := replayFrom(t, c.text, c.pours...)
		if can, ok := impl.CanSwap(x, c.k); !ok || can != c.can {
			t.Error(c.name, can, ok)
		}
		for _, k := range []int{-1, len(c.pours) - 1, len(c.pours), math.MaxInt, math.MaxInt - 1, math.MinInt} {
			if can, ok := impl.CanSwap(x, k); ok || can {
				t.Error(c.name, k, can, ok)
			}
		}
	}
	for _, x := range []impl.Replay{{}, replayFrom(t, "a.../..../..../..../..../....", [2]int{0, 1})} {
		for k := -2; k <= 2; k++ {
			if can, ok := impl.CanSwap(x, k); ok || can {
				t.Error("too few pours", x, k, can, ok)
			}
		}
	}
}

func TestReplayTextAndParseReplay(t *testing.T) {
	for _, s := range someReplays(t) {
		x := replayOf(s.tubes, s.pours)
		want := replayTextModel(s.tubes, s.pours)
		if text, ok := impl.ReplayText(x); !ok || text != want {
			t.Fatalf("ReplayText(%v) = %q, %v, not %q", x, text, ok, want)
		}
		if back, ok := impl.ParseReplay(want); !ok || !isSame(back, x) {
			t.Fatalf("ParseReplay(%q) = %v, %v", want, back, ok)
		}
	}
}

func TestReplayTextExamples(t *testing.T) {
	for _, c := range []struct {
		text  string
		start string
		pours [][2]int
	}{
		{"..../..../..../..../..../....", "..../..../..../..../..../....", nil},
		{"a.../..../..../..../..../....", "a.../..../..../..../..../....", nil},
		{"a.../..../..../..../..../.... 05", "a.../..../..../..../..../....", [][2]int{{0, 5}}},
		{"a.../..../..../..../..../.... 05 50 01", "a.../..../..../..../..../....", [][2]int{{0, 5}, {5, 0}, {0, 1}}},
		{"ab../b.../a.../..../..../.... 01 02", "ab../b.../a.../..../..../....", [][2]int{{0, 1}, {0, 2}}},
	} {
		x := replayFrom(t, c.start, c.pours...)
		if text, ok := impl.ReplayText(x); !ok || text != c.text {
			t.Errorf("ReplayText(%v) = %q, %v", x, text, ok)
		}
		if back, ok := impl.ParseReplay(c.text); !ok || !isSame(back, x) {
			t.Errorf("ParseReplay(%q) = %v, %v", c.text, back, ok)
		}
	}
}

var replayForm = regexp.MustCompile("^[^ ]{29}( [0-9]{2})*$")

// isReplayText relies on the form of a text, and on the model for what is possible.
func isReplayText(t *testing.T, s string) bool {
	t.Helper()
	if len(s) < 29 || !isRackText(s[:29]) || !replayForm.MatchString(s) {
		return false
	}
	var pours [][2]int
	for _, part := range strings.Fields(s[29:]) {
		pours = append(pours, [2]int{int(part[0] - '0'), int(part[1] - '0')})
	}
	_, _, ok := racksModel(tubesOf(t, s[:29]), pours)
	return ok && len(pours) <= 60
}

// checkReplayText holds what ParseReplay returns for any text against the model and ReplayText.
func checkReplayText(t *testing.T, s string) bool {
	t.Helper()
	x, ok := impl.ParseReplay(s)
	if ok != isReplayText(t, s) || !ok && !isNoReplay(x) {
		t.Fatalf("ParseReplay(%q) = %v, %v", s, x, ok)
	}
	if text, fine := impl.ReplayText(x); ok && (!fine || text != s) {
		t.Fatalf("ParseReplay(%q) = %v, of which the text is %q, %v", s, x, text, fine)
	}
	return ok
}

func TestParseReplayOfChangedTexts(t *testing.T) {
	texts, others := 0, 0
	for _, text := range []string{
		"..../..../..../..../..../....", "a.../..../..../..../..../.... 01", "ab../b.../a.../..../..../.... 03 31 02 20",
		"abcd/eeee/aaaa/bbb./c.../.... 45 54 45", "a.../a.../a.../a.../a.../a... 01 21 31 54 45",
	} {
		if !checkReplayText(t, text) {
			t.Fatalf("ParseReplay(%q) fails", text)
		}
		for k := range len(text) + 1 {
			for b := range 256 {
				checkReplayText(t, text[:k]+string([]byte{byte(b)})+text[k:])
				if k == len(text) {
					continue
				}
				if checkReplayText(t, text[:k]+string([]byte{byte(b)})+text[k+1:]) {
					texts++
				} else {
					others++
				}
			}
			checkReplayText(t, text[:k])
			checkReplayText(t, text[k:])
			if k < len(text) {
				checkReplayText(t, text[:k]+text[k+1:])
			}
		}
	}
	if texts < 200 || others < 1000 {
		t.Error("only", texts, others)
	}
}

func TestParseReplayRejects(t *testing.T) {
	start := "a.../..../..../..../..../...."
	around := strings.Repeat(" 01 10", 30)
	if _, ok := impl.ParseReplay(start + around); !ok {
		t.Error("sixty pours fail")
	}
	for _, s := range []string{
		"", " ", "01", " 01", "01 10", start + " ", " " + start, start + "  01", start + " 01 ", start + " 01  10", start + " 01 10 ",
		start + "\n01", start + " 01\n", start + "\t01", start + ",01", start + "01", start + "/01", start + " /01", start + " 0/1",
		start + " +1", start + " -1", start + " 0-1", start + " 0+1", start + " -0 1", start + " 0 1", start + " 0,1", start + " 0>1",
		start + " 0", start + " 1", start + " 001", start + " 010", start + " 0110", start + " 01 1", start + " 01 100", start + " 01 1 0",
		start + " 06", start + " 60", start + " 07", start + " 09", start + " 0:", start + " 0a", start + " ab", start + " 0.", start + " ..",
		start + " 00", start + " 11", start + " 55", start + " 66", start + " 10", start + " 23", start + " 01 01", start + " 01 23 10",
		start + " 01 " + start, start + " " + start, start + start, "01 " + start, start + " \xb0\xb1", start + " \x000", start + " \xff\xff",
		"b.../.... 01", ".a../..../..../..../..../.... 01", "f.../..../..../..../..../.... 01", "A.../..../..../..../..../.... 01",
		"a.../..../..../..../.... 01", "a.../..../..../..../..../..../.... 01", "a... .... .... .... .... ....",
		start + around + " 01", start + around + around, start + strings.Repeat(" 01 10", 600), start + strings.Repeat(" 01 10", 1000),
		start + strings.Repeat(" ", 4000), strings.Repeat(" 01", 1000), strings.Repeat("\x00", 32), "\u00e4" + start[2:] + " 01",
	} {
		if x, ok := impl.ParseReplay(s); ok || !isNoReplay(x) {
			t.Errorf("ParseReplay(%q) = %v, %v", s, x, ok)
		}
	}
}

func callsOfReplay(x impl.Replay) []rackCall {
	valid := impl.IsReplay(x)
	solves, ok1 := impl.DoesSolve(x)
	loops, ok2 := impl.LoopsOf(x)
	cut, ok3 := impl.CutLoops(x)
	busy, ok4 := impl.DropIdle(x)
	moved, ok5 := impl.MovedLayers(x)
	text, ok6 := impl.ReplayText(x)
	return []rackCall{
		{"IsReplay", valid, true}, {"DoesSolve", ok1, !solves}, {"LoopsOf", ok2, len(loops) == 0}, {"CutLoops", ok3, isNoReplay(cut)},
		{"DropIdle", ok4, isNoReplay(busy)}, {"MovedLayers", ok5, moved == 0}, {"ReplayText", ok6, text == ""},
	}
}

func callsOfNumber(x impl.Replay, k int) []rackCall {
	r, ok1 := impl.ReplayRack(x, k)
	less, ok2 := impl.UndoPours(x, k)
	can, ok3 := impl.CanSwap(x, k)
	return []rackCall{{"ReplayRack", ok1, r == impl.Rack{}}, {"UndoPours", ok2, isNoReplay(less)}, {"CanSwap", ok3, !can}}
}

// allReplayCalls are those that fail for all Replays that are not valid.
func allReplayCalls(x impl.Replay) []rackCall {
	spare, ok := impl.CertifyReplay(x)
	calls := append(callsOfReplay(x), rackCall{"CertifyReplay", ok, spare == 0})
	for _, k := range append([]int{0, 1, 2, 59, 60}, outerNumbers...) {
		calls = append(calls, callsOfNumber(x, k)...)
	}
	for _, p := range append(outerPours(), [2]int{0, 1}, [2]int{1, 0}, [2]int{2, 5}) {
		more, ok := impl.AddPour(x, p)
		calls = append(calls, rackCall{"AddPour", ok, isNoReplay(more)})
	}
	return calls
}

func TestReplayFunctionsFailForBadRacks(t *testing.T) {
	for _, r := range badRacks() {
		for _, pours := range [][][2]int{nil, {}, {{0, 1}}, {{3, 4}, {4, 3}}, {{-1, 6}}, outerPours()} {
			wantFailed(t, allReplayCalls(impl.Replay{Start: r, Pours: pours}), r, pours)
		}
	}
}

func TestReplayFunctionsFailForPoursThatAreNotPossible(t *testing.T) {
	tubes := tubesOf(t, "ab../b.../a.../..../..../....")
	pours := [][2]int{{0, 3}, {3, 1}, {0, 2}, {2, 5}}
	wrong := append(outerPours(), [2]int{4, 0}, [2]int{4, 3}, [2]int{0, 4}, [2]int{-1, 6}, [2]int{6, -1}, [2]int{1, 2}, [2]int{2, 1})
	failed := 0
	for _, p := range wrong {
		for at := range len(pours) + 1 {
			changed := slices.Insert(slices.Clone(pours), at, p)
			if _, _, ok := racksModel(tubes, changed); ok {
				continue
			}
			wantFailed(t, allReplayCalls(replayOf(tubes, changed)), changed)
			failed++
		}
	}
	if failed < 100 {
		t.Error("only", failed)
	}
	wantFailed(t, allReplayCalls(replayOf([6]string{}, [][2]int{{0, 1}})), "a pour of the empty Rack")
	wantFailed(t, allReplayCalls(replayFrom(t, "aaaa/aaaa/bbbb/cccc/dddd/eeee", [2]int{0, 1})), "a pour to a full tube")
}

func TestReplayFunctionsFailForChangedPours(t *testing.T) {
	source := rand.New(rand.NewSource(13))
	failed := 0
	for _, s := range someReplays(t) {
		changed := slices.Insert(slices.Clone(s.pours), source.Intn(len(s.pours)+1), [2]int{source.Intn(6), source.Intn(6)})
		x := replayOf(s.tubes, changed)
		_, _, valid := racksModel(s.tubes, changed)
		if valid = valid && len(changed) <= 60; impl.IsReplay(x) != valid {
			t.Fatalf("IsReplay(%v) is not %v", x, valid)
		}
		if !valid {
			wantFailed(t, allReplayCalls(x), x)
			failed++
		}
	}
	if failed < 500 {
		t.Error("only", failed)
	}
}

func TestReplayFunctionsSucceedForTheEmptyReplay(t *testing.T) {
	for _, x := range []impl.Replay{{}, {Pours: [][2]int{}}} {
		for _, c := range callsOfReplay(x) {
			if !c.ok {
				t.Errorf("%s of the empty Replay fails", c.name)
			}
		}
		if text, _ := impl.ReplayText(x); text != "..../..../..../..../..../...." {
			t.Error(text)
		}
	}
}

// The memory behind the pours of an argument is not written to either.
func TestReplayFunctionsKeepTheirArguments(t *testing.T) {
	for _, s := range someReplays(t) {
		whole := slices.Concat(s.pours, [][2]int{{7, 7}, {8, 8}, {9, 9}})
		kept := slices.Clone(whole)
		x := replayOf(s.tubes, whole[:len(s.pours)])
		for _, c := range allReplayCalls(x) {
			if !slices.Equal(whole, kept) {
				t.Fatalf("%s: the pours are now %v, not %v", c.name, whole, kept)
			}
		}
		if possible := poursOf(modelPours(s.tubes)); len(s.pours) == 0 && len(possible) > 0 {
			impl.AddPour(x, possible[0])
		}
		if back, ok := impl.UndoPours(x, len(s.pours)); !ok || len(back.Pours) > 0 {
			t.Fatalf("UndoPours(%v) = %v, %v", x, back, ok)
		}
		if !slices.Equal(whole, kept) || x.Start != rackOf(s.tubes) || len(x.Pours) != len(s.pours) {
			t.Fatalf("%v has now the pours %v, not %v", x, whole, kept)
		}
	}
}

func TestReplayResultsShareNoMemory(t *testing.T) {
	whole := [][2]int{{2, 3}, {3, 2}, {0, 1}, {1, 5}, {5, 1}, {0, 2}, {7, 7}, {8, 8}}
	kept := slices.Clone(whole)
	x := replayFrom(t, "ab../b.../a.../..../..../....", whole[:6]...)
	alone := replayFrom(t, "ab../b.../a.../..../..../....", [][2]int{{0, 1}, {0, 2}}...)
	pour := [2]int{-7, -7}
	check := func(name string, call func() (impl.Replay, bool)) {
		t.Helper()
		checkOwnMemory(t, name, pour, func() ([][2]int, bool) {
			made, ok := call()
			return made.Pours, ok
		})
	}
	check("AddPour", func() (impl.Replay, bool) { return impl.AddPour(x, [2]int{2, 0}) })
	check("UndoPours of 0", func() (impl.Replay, bool) { return impl.UndoPours(x, 0) })
	check("UndoPours of 2", func() (impl.Replay, bool) { return impl.UndoPours(x, 2) })
	check("CutLoops", func() (impl.Replay, bool) { return impl.CutLoops(x) })
	check("CutLoops without loops", func() (impl.Replay, bool) { return impl.CutLoops(alone) })
	check("DropIdle", func() (impl.Replay, bool) { return impl.DropIdle(x) })
	check("DropIdle without idle pours", func() (impl.Replay, bool) { return impl.DropIdle(alone) })
	check("ParseReplay", func() (impl.Replay, bool) { return impl.ParseReplay("a.../..../..../..../..../.... 01 10") })
	checkOwnMemory(t, "LoopsOf", pour, func() ([][2]int, bool) { return impl.LoopsOf(x) })
	if !slices.Equal(whole, kept) || !slices.Equal(alone.Pours, [][2]int{{0, 1}, {0, 2}}) {
		t.Error("the pours are now", whole, alone.Pours)
	}
}
