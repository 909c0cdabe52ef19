package tests

import (
	"math"
	"math/rand"
	"slices"
	"strings"
	"testing"

	"loop.example/g01215/impl"
)

// The tests hold the Racks against a model of their own: a tube is the text of its colors, `a` to
// `e`, from the bottom on, without its empty layers.

const modelColors = "abcde"

var outerPlaces = []int{-1, 6, 7, 256, math.MaxInt, math.MinInt}

var outerColors = []int{0, -1, 6, 7, 257, math.MaxInt, math.MinInt}

// modelTubes returns all 781 tubes of valid Racks.
func modelTubes() []string { return textsOver(modelColors, impl.Depth) }

func rackOf(tubes [6]string) impl.Rack {
	r := impl.Rack{}
	for i, tube := range tubes {
		for k := range len(tube) {
			r.Tubes[i][k] = int(tube[k]-'a') + 1
		}
	}
	return r
}

func textOf(tubes [6]string) string {
	for i := range tubes {
		tubes[i] += strings.Repeat(".", 4-len(tubes[i]))
	}
	return strings.Join(tubes[:], "/")
}

// topSize is how many bytes at the end of a tube are its last one.
func topSize(tube string) int {
	if tube == "" {
		return 0
	}
	return len(tube) - len(strings.TrimRight(tube, tube[len(tube)-1:]))
}

func isPlainTube(tube string) bool { return topSize(tube) == len(tube) }

// poured returns both tubes behind a pour, and how many layers it moves, 0 if it is not possible.
func poured(from string, to string) (string, string, int) {
	moved := 0
	for moved < topSize(from) && len(to) < 4 && (to == "" || to[len(to)-1] == from[len(from)-1]) {
		to += from[len(from)-1:]
		moved++
	}
	return from[:len(from)-moved], to, moved
}

func isSortedModel(tubes [6]string) bool {
	all := ""
	for _, tube := range tubes {
		if tube != "" {
			all += tube[:1]
		}
		if !isPlainTube(tube) {
			return false
		}
	}
	for k := range len(all) {
		if strings.Count(all, all[k:k+1]) > 1 {
			return false
		}
	}
	return true
}

// someTubes returns the same tubes in each run: of few and of many colors, with and without room.
func someTubes(n int) [][6]string {
	source := rand.New(rand.NewSource(2))
	all := [][6]string{{}}
	for len(all) < n {
		tubes := [6]string{}
		colors := 1 + source.Intn(5)
		for i := range tubes {
			repeat := source.Intn(2) == 0
			for k := source.Intn(5); k > 0; k-- {
				c := modelColors[source.Intn(colors)]
				if repeat && tubes[i] != "" {
					c = tubes[i][len(tubes[i])-1]
				}
				tubes[i] += string(c)
			}
		}
		all = append(all, tubes)
	}
	return all
}

// badRacks returns Racks each of which has one fault, at each of the places.
func badRacks() []impl.Rack {
	faults := [][4]int{
		{0, 1}, {0, 0, 1}, {0, 0, 0, 1}, {1, 0, 1}, {1, 0, 0, 1}, {1, 2, 0, 1}, {0, 1, 1, 1}, {0, 5, 0, 5},
		{6}, {-1}, {1, 6}, {1, -1}, {1, 1, 1, 6}, {1, 1, 1, -1}, {0, 0, 0, -1}, {0, 6, 0, 0}, {0, 0, 0, 6},
		{math.MaxInt}, {math.MinInt}, {1, 257}, {1 << 32}, {1, 1<<32 + 1}, {5, 5, 5, math.MinInt},
	}
	var bad []impl.Rack
	for i := range impl.Tubes {
		for _, fault := range faults {
			alone := impl.Rack{}
			alone.Tubes[i] = fault
			among := rackOf([6]string{"a", "ab", "abc", "aaaa", "", "e"})
			among.Tubes[i] = fault
			bad = append(bad, alone, among)
		}
	}
	return bad
}

func TestRackConstants(t *testing.T) {
	if impl.Tubes != 6 || impl.Depth != 4 || impl.MaxColor != 5 {
		t.Error(impl.Tubes, impl.Depth, impl.MaxColor)
	}
}

func TestIsRackOfEachTube(t *testing.T) {
	for code := range 8 * 8 * 8 * 8 {
		tube := [4]int{code%8 - 1, code/8%8 - 1, code/64%8 - 1, code/512 - 1}
		want, gap := true, false
		for _, color := range tube {
			if color < 0 || color > 5 || color > 0 && gap {
				want = false
			}
			gap = gap || color == 0
		}
		for i := range impl.Tubes {
			r := rackOf([6]string{"a", "bb", "", "cdea", "eeee", "b"})
			r.Tubes[i] = tube
			if impl.IsRack(r) != want {
				t.Fatalf("IsRack(%v) is not %v", r, want)
			}
		}
	}
}

func TestIsRackOfBadRacks(t *testing.T) {
	for _, r := range badRacks() {
		if impl.IsRack(r) {
			t.Errorf("IsRack(%v)", r)
		}
	}
	if !impl.IsRack(impl.Rack{}) {
		t.Error("the empty Rack")
	}
}

// runsOf is written for few tubes rather than for speed.
func runsOf(tube string) [][2]int {
	var runs [][2]int
	for tube != "" {
		rest := strings.TrimLeft(tube, tube[:1])
		runs = append(runs, [2]int{int(tube[0]-'a') + 1, len(tube) - len(rest)})
		tube = rest
	}
	return runs
}

func TestEachTube(t *testing.T) {
	for _, tube := range modelTubes() {
		for i := range impl.Tubes {
			tubes := [6]string{"c", "", "aabb", "bbbb", "e", "da"}
			tubes[i] = tube
			r := rackOf(tubes)
			if n, ok := impl.LayersOf(r, i); !ok || n != len(tube) {
				t.Fatalf("LayersOf(%v, %d) = %d, %v", r, i, n, ok)
			}
			runs, ok := impl.RunsOf(r, i)
			if want := runsOf(tube); !ok || !slices.Equal(runs, want) {
				t.Fatalf("RunsOf(%v, %d) = %v, %v", r, i, runs, ok)
			}
			color, size, ok := impl.TopOf(r, i)
			if tube == "" {
				if ok || color != 0 || size != 0 {
					t.Fatalf("TopOf(%v, %d) = %d, %d, %v", r, i, color, size, ok)
				}
			} else if !ok || [2]int{color, size} != runs[len(runs)-1] {
				t.Fatalf("TopOf(%v, %d) = %d, %d, %v", r, i, color, size, ok)
			}
		}
	}
}

func TestPutLayerAndTakeLayer(t *testing.T) {
	for _, tube := range modelTubes() {
		for i := range impl.Tubes {
			tubes := [6]string{"c", "", "aabb", "bbbb", "e", "da"}
			tubes[i] = tube
			r := rackOf(tubes)
			for color := 1; color <= impl.MaxColor; color++ {
				got, ok := impl.PutLayer(r, i, color)
				if len(tube) == 4 {
					if ok || got != (impl.Rack{}) {
						t.Fatalf("PutLayer(%v, %d, %d) = %v, %v", r, i, color, got, ok)
					}
					continue
				}
				want := tubes
				want[i] += modelColors[color-1 : color]
				if !ok || got != rackOf(want) {
					t.Fatalf("PutLayer(%v, %d, %d) = %v, %v", r, i, color, got, ok)
				}
				if back, top, ok := impl.TakeLayer(got, i); !ok || back != r || top != color {
					t.Fatalf("TakeLayer(%v, %d) = %v, %d, %v", got, i, back, top, ok)
				}
			}
		}
	}
	for i := range impl.Tubes {
		if got, color, ok := impl.TakeLayer(impl.Rack{}, i); ok || color != 0 || got != (impl.Rack{}) {
			t.Errorf("TakeLayer of the empty tube %d = %v, %d, %v", i, got, color, ok)
		}
		tubes := [6]string{"a", "a", "a", "a", "a", "a"}
		tubes[i] = ""
		if got, color, ok := impl.TakeLayer(rackOf(tubes), i); ok || color != 0 || got != (impl.Rack{}) {
			t.Errorf("TakeLayer of the empty tube %d among others = %v, %d, %v", i, got, color, ok)
		}
	}
}

func TestTakeLayerExamples(t *testing.T) {
	got, color, ok := impl.TakeLayer(rackOf([6]string{"", "aabb"}), 1)
	if !ok || color != 2 || got != rackOf([6]string{"", "aab"}) {
		t.Error("of a run", got, color, ok)
	}
	got, color, ok = impl.TakeLayer(rackOf([6]string{"", "", "", "", "", "e"}), 5)
	if !ok || color != 5 || got != (impl.Rack{}) {
		t.Error("of one layer", got, color, ok)
	}
}

// checkPour holds one pour against the model.
func checkPour(t *testing.T, tubes [6]string, i int, j int) {
	t.Helper()
	r := rackOf(tubes)
	want := tubes
	moved := 0
	want[i], want[j], moved = poured(tubes[i], tubes[j])
	if can, ok := impl.CanPour(r, i, j); !ok || can != (moved > 0) {
		t.Fatalf("CanPour(%v, %d, %d) = %v, %v", r, i, j, can, ok)
	}
	next, n, ok := impl.Pour(r, i, j)
	if moved == 0 {
		if ok || n != 0 || next != (impl.Rack{}) {
			t.Fatalf("Pour(%v, %d, %d) = %v, %d, %v", r, i, j, next, n, ok)
		}
		return
	}
	if !ok || n != moved || next != rackOf(want) || !impl.IsRack(next) {
		t.Fatalf("Pour(%v, %d, %d) = %v, %d, %v", r, i, j, next, n, ok)
	}
	before, _ := impl.CountColors(r)
	if behind, ok := impl.CountColors(next); !ok || behind != before {
		t.Fatalf("Pour(%v, %d, %d): CountColors are %v, and were %v", r, i, j, behind, before)
	}
	if moved == topSize(tubes[i]) {
		if back, ok := impl.CanPour(next, j, i); !ok || back != (next.Tubes[i] == [4]int{}) {
			t.Fatalf("CanPour(%v, %d, %d) = %v, %v behind a whole top", next, j, i, back, ok)
		}
	}
}

func TestPourOfEachTwoTubes(t *testing.T) {
	all := modelTubes()
	places := [][2]int{{0, 1}, {1, 0}, {0, 5}, {5, 0}, {2, 4}, {4, 3}, {3, 5}}
	for m, from := range all {
		for n, to := range all {
			p := places[(m+n)%len(places)]
			tubes := [6]string{"aabb", "", "c", "dddd", "ab", "e"}
			tubes[p[0]], tubes[p[1]] = from, to
			checkPour(t, tubes, p[0], p[1])
		}
	}
}

func TestPourOfEachTwoPlaces(t *testing.T) {
	for _, tubes := range someTubes(300) {
		for i := range impl.Tubes {
			for j := range impl.Tubes {
				if i != j {
					checkPour(t, tubes, i, j)
				}
			}
		}
	}
}

func TestPourExamples(t *testing.T) {
	for _, c := range []struct {
		name, before, behind string
		i, j, moved          int
	}{
		{"a whole top", "abaa/b.../aa../..../..../....", "ab../b.../aaaa/..../..../....", 0, 2, 2},
		{"a top in part", "baaa/aaa./..../..../..../....", "baa./aaaa/..../..../..../....", 0, 1, 1},
		{"two of three", "baaa/ca../..../..../..../....", "ba../caaa/..../..../..../....", 0, 1, 2},
		{"only the top", "abb./..../..../..../..../....", "a.../..../bb../..../..../....", 0, 2, 2},
		{"idle, full", "..../..../..../..../eeee/....", "..../..../..../..../..../eeee", 4, 5, 4},
		{"idle", "..../..../..../..../..../e...", "e.../..../..../..../..../....", 5, 0, 1},
		{"two colors", "..../ab../..../cb../..../....", "..../abb./..../c.../..../....", 3, 1, 1},
		{"empties the first", "aa../aa../..../..../..../....", "..../aaaa/..../..../..../....", 0, 1, 2},
		{"not all of one color", "aaa./aa../..../..../..../....", "a.../aaaa/..../..../..../....", 0, 1, 2},
		{"onto the same top only", "ab../ba../..../..../..../....", "", 0, 1, 0},
		{"no room", "a.../aaaa/..../..../..../....", "", 0, 1, 0},
		{"both full", "aaaa/aaaa/..../..../..../....", "", 0, 1, 0},
		{"from an empty one", "..../a.../..../..../..../....", "", 0, 1, 0},
		{"from an empty one to a full one", "..../aaaa/..../..../..../....", "", 0, 1, 0},
		{"both empty", "..../..../..../..../..../....", "", 3, 4, 0},
	} {
		r, ok := impl.ParseRack(c.before)
		if !ok {
			t.Fatal(c.name, "is no Rack")
		}
		if can, ok := impl.CanPour(r, c.i, c.j); !ok || can != (c.moved > 0) {
			t.Error(c.name, "CanPour", can, ok)
		}
		next, moved, ok := impl.Pour(r, c.i, c.j)
		if c.moved == 0 {
			if ok || moved != 0 || next != (impl.Rack{}) {
				t.Error(c.name, next, moved, ok)
			}
			continue
		}
		if text, fine := impl.RackText(next); !ok || !fine || moved != c.moved || text != c.behind {
			t.Error(c.name, text, moved, ok)
		}
	}
}

func TestPourBackBehindATopInPart(t *testing.T) {
	r := rackOf([6]string{"baaa", "aaa"})
	next, _, _ := impl.Pour(r, 0, 1)
	if can, ok := impl.CanPour(next, 1, 0); !ok || !can {
		t.Error("a top in part", can, ok)
	}
	whole, _, _ := impl.Pour(rackOf([6]string{"ba", "a"}), 0, 1)
	if can, ok := impl.CanPour(whole, 1, 0); !ok || can {
		t.Error("a whole top, and not empty", can, ok)
	}
	empty, _, _ := impl.Pour(rackOf([6]string{"a", "a"}), 0, 1)
	if back, moved, ok := impl.Pour(empty, 1, 0); !ok || moved != 2 || back != rackOf([6]string{"aa"}) {
		t.Error("a whole top, and empty", back, moved, ok)
	}
}

func TestPoursOfAndUsefulPours(t *testing.T) {
	for _, tubes := range someTubes(3000) {
		r := rackOf(tubes)
		var all, useful [][2]int
		for i := range impl.Tubes {
			for j := range impl.Tubes {
				if _, _, moved := poured(tubes[i], tubes[j]); i != j && moved > 0 {
					all = append(all, [2]int{i, j})
					if !isPlainTube(tubes[i]) || tubes[j] != "" {
						useful = append(useful, [2]int{i, j})
					}
				}
			}
		}
		if got, ok := impl.PoursOf(r); !ok || !slices.Equal(got, all) {
			t.Fatalf("PoursOf(%v) = %v, %v, not %v", r, got, ok, all)
		}
		if got, ok := impl.UsefulPours(r); !ok || !slices.Equal(got, useful) {
			t.Fatalf("UsefulPours(%v) = %v, %v, not %v", r, got, ok, useful)
		}
	}
}

func TestPoursExamples(t *testing.T) {
	for _, c := range []struct {
		text        string
		all, useful [][2]int
	}{
		{"..../..../..../..../..../....", nil, nil},
		{"aaaa/bbbb/cccc/dddd/eeee/abcd", nil, nil},
		{"aaaa/bbbb/cccc/dddd/eeee/....", [][2]int{{0, 5}, {1, 5}, {2, 5}, {3, 5}, {4, 5}}, nil},
		{"aa../a.../bbbb/bbbb/bbbb/bbbb", [][2]int{{0, 1}, {1, 0}}, [][2]int{{0, 1}, {1, 0}}},
		{"ba../aa../cb../cccc/dddd/....", [][2]int{{0, 1}, {0, 5}, {1, 0}, {1, 5}, {2, 5}, {3, 5}, {4, 5}}, [][2]int{{0, 1}, {0, 5}, {1, 0}, {2, 5}}},
		{"..../ab../cccc/dddd/eeee/eeee", [][2]int{{1, 0}, {2, 0}, {3, 0}, {4, 0}, {5, 0}}, [][2]int{{1, 0}}},
	} {
		r, _ := impl.ParseRack(c.text)
		if got, ok := impl.PoursOf(r); !ok || !slices.Equal(got, c.all) {
			t.Errorf("PoursOf(%s) = %v, %v", c.text, got, ok)
		}
		if got, ok := impl.UsefulPours(r); !ok || !slices.Equal(got, c.useful) {
			t.Errorf("UsefulPours(%s) = %v, %v", c.text, got, ok)
		}
	}
}

func TestIsSorted(t *testing.T) {
	for _, c := range []struct {
		text string
		want bool
	}{
		{"..../..../..../..../..../....", true},
		{"aaaa/bbbb/cccc/dddd/eeee/....", true},
		{"e.../..../aa../b.../ccc./dddd", true},
		{"..../..../..../..../..../c...", true},
		{"a.../a.../..../..../..../....", false},
		{"eeee/..../..../..../..../eeee", false},
		{"a.../b.../c.../d.../e.../e...", false},
		{"ab../..../..../..../..../....", false},
		{"..../..../..../..../..../aaab", false},
		{"..../..../aba./..../..../....", false},
	} {
		r, _ := impl.ParseRack(c.text)
		if got, ok := impl.IsSorted(r); !ok || got != c.want {
			t.Errorf("IsSorted(%s) = %v, %v", c.text, got, ok)
		}
	}
}

func TestIsSortedAgainstTheModel(t *testing.T) {
	sorted := 0
	for _, tubes := range someTubes(20000) {
		r := rackOf(tubes)
		got, ok := impl.IsSorted(r)
		if !ok || got != isSortedModel(tubes) {
			t.Fatalf("IsSorted(%v) = %v, %v", r, got, ok)
		}
		if got {
			sorted++
			if pours, ok := impl.UsefulPours(r); !ok || len(pours) != 0 {
				t.Fatalf("UsefulPours(%v) = %v, %v, but it is sorted", r, pours, ok)
			}
		}
	}
	if sorted < 10 {
		t.Error("too few sorted Racks:", sorted)
	}
}

func TestCountColors(t *testing.T) {
	for _, tubes := range someTubes(2000) {
		r := rackOf(tubes)
		all := strings.Join(tubes[:], "")
		want := [6]int{24 - len(all)}
		for k := range modelColors {
			want[k+1] = strings.Count(all, modelColors[k:k+1])
		}
		if got, ok := impl.CountColors(r); !ok || got != want {
			t.Fatalf("CountColors(%v) = %v, %v, not %v", r, got, ok, want)
		}
	}
	full := rackOf([6]string{"eeee", "eeee", "eeee", "eeee", "eeee", "eeee"})
	if got, ok := impl.CountColors(full); !ok || got != [6]int{5: 24} {
		t.Error("full tubes of one color", got, ok)
	}
	if got, ok := impl.CountColors(impl.Rack{}); !ok || got != [6]int{24} {
		t.Error("the empty Rack", got, ok)
	}
}

func TestSwapTubes(t *testing.T) {
	for _, tubes := range someTubes(300) {
		r := rackOf(tubes)
		for i := range impl.Tubes {
			for j := range impl.Tubes {
				want := tubes
				want[i], want[j] = want[j], want[i]
				got, ok := impl.SwapTubes(r, i, j)
				if !ok || got != rackOf(want) {
					t.Fatalf("SwapTubes(%v, %d, %d) = %v, %v", r, i, j, got, ok)
				}
				if back, ok := impl.SwapTubes(got, i, j); !ok || back != r {
					t.Fatalf("SwapTubes(%v, %d, %d) = %v, %v", got, i, j, back, ok)
				}
			}
		}
	}
}

func TestLessRack(t *testing.T) {
	all := someTubes(250)
	for _, a := range all {
		for _, b := range all {
			// The empty layer and the colors have their order as bytes, too.
			if got, ok := impl.LessRack(rackOf(a), rackOf(b)); !ok || got != (textOf(a) < textOf(b)) {
				t.Fatalf("LessRack(%s, %s) = %v, %v", textOf(a), textOf(b), got, ok)
			}
		}
	}
}

func TestLessRackAtEachLayer(t *testing.T) {
	low := rackOf([6]string{"aaaa", "bbbb", "cccc", "dddd", "aaaa", "bbbb"})
	for i := range impl.Tubes {
		for k := range impl.Depth {
			high := low
			high.Tubes[i][k] = 5
			if i < 5 {
				// What comes behind the first difference does not matter.
				high.Tubes[i+1] = [4]int{}
			}
			up, one := impl.LessRack(low, high)
			down, two := impl.LessRack(high, low)
			same, three := impl.LessRack(high, high)
			if !one || !two || !three || !up || down || same {
				t.Error(i, k, up, down, same, one, two, three)
			}
		}
	}
}

func TestRackTextAndParseRack(t *testing.T) {
	told := map[string]impl.Rack{}
	for _, tubes := range someTubes(5000) {
		r := rackOf(tubes)
		text, ok := impl.RackText(r)
		if !ok || text != textOf(tubes) {
			t.Fatalf("RackText(%v) = %q, %v", r, text, ok)
		}
		if other, has := told[text]; has && other != r {
			t.Fatalf("%v and %v are both told by %q", r, other, text)
		}
		told[text] = r
		if back, ok := impl.ParseRack(text); !ok || back != r {
			t.Fatalf("ParseRack(%q) = %v, %v", text, back, ok)
		}
	}
}

func TestRackTextOfEachTube(t *testing.T) {
	for _, tube := range modelTubes() {
		for i := range impl.Tubes {
			tubes := [6]string{"c", "", "aabb", "bbbb", "e", "da"}
			tubes[i] = tube
			want := rackOf(tubes)
			if text, ok := impl.RackText(want); !ok || text != textOf(tubes) {
				t.Fatalf("RackText(%v) = %q, %v", want, text, ok)
			}
			if r, ok := impl.ParseRack(textOf(tubes)); !ok || r != want {
				t.Fatalf("ParseRack(%q) = %v, %v", textOf(tubes), r, ok)
			}
		}
	}
}

// checkParse holds what ParseRack returns for any text against RackText.
func checkParse(t *testing.T, s string) {
	t.Helper()
	r, ok := impl.ParseRack(s)
	if !ok {
		if r != (impl.Rack{}) {
			t.Fatalf("ParseRack(%q) fails with %v", s, r)
		}
		return
	}
	if text, fine := impl.RackText(r); !fine || text != s {
		t.Fatalf("ParseRack(%q) = %v, of which the text is %q, %v", s, r, text, fine)
	}
}

func isRackText(s string) bool {
	parts := strings.Split(s, "/")
	if len(parts) != 6 {
		return false
	}
	for _, part := range parts {
		colors := strings.TrimRight(part, ".")
		if len(part) != 4 || strings.Trim(colors, modelColors) != "" || strings.Contains(colors, ".") {
			return false
		}
	}
	return true
}

func TestParseRackOfChangedTexts(t *testing.T) {
	for _, text := range []string{
		"..../..../..../..../..../....", "abaa/b.../aa../..../..../....", "abcd/eeee/aaaa/bbb./c.../....",
	} {
		for k := range text {
			for b := range 256 {
				s := text[:k] + string([]byte{byte(b)}) + text[k+1:]
				checkParse(t, s)
				if _, ok := impl.ParseRack(s); ok != isRackText(s) {
					t.Fatalf("ParseRack(%q): %v", s, ok)
				}
			}
			if _, ok := impl.ParseRack(text[:k] + text[k+1:]); ok {
				t.Fatalf("ParseRack(%q) without the byte %d", text, k)
			}
			for _, more := range []string{".", "/", "a", " ", "\x00", "\xff"} {
				if _, ok := impl.ParseRack(text[:k] + more + text[k:]); ok {
					t.Fatalf("ParseRack(%q) with %q before the byte %d", text, more, k)
				}
			}
		}
	}
}

func TestParseRackRejects(t *testing.T) {
	empty := "..../..../..../..../..../...."
	for _, s := range []string{
		"", "/", "/////", "....", "a", "..../..../..../..../....", "..../..../..../..../..../",
		empty + "/", empty + ".", empty + "/....", "/" + empty, empty + " ", empty + "\n", " " + empty, empty + empty,
		"..../..../..../..../..../...", "...../.../..../..../..../....", "..../..../..../..../.../.....",
		"........./..../..../..../....", "..../..../..../..../....,....", "....,....,....,....,....,....",
		".a../..../..../..../..../....", "..../..../..../..../..../...e", "a.a./..../..../..../..../....",
		"..../b..b/..../..../..../....", "..../..../..../..../f.../....", "..../..../..../..../`.../....",
		"A.../..../..../..../..../....", "0.../..../..../..../..../....", "1.../..../..../..../..../....",
		"-.../..../..../..../..../....", "a  ./..../..../..../..../....", "\xe1.../..../..../..../..../....",
		"\u00e4../..../..../..../..../....", "\x00.../..../..../..../..../....", "a..\x00/..../..../..../..../....",
		strings.Repeat("a", 29), strings.Repeat("/", 29), strings.Repeat(".", 29), strings.Repeat("..../", 800), strings.Repeat("..../", 1000),
	} {
		if r, ok := impl.ParseRack(s); ok || r != (impl.Rack{}) {
			t.Errorf("ParseRack(%q) = %v, %v", s, r, ok)
		}
	}
}

// rackCall is what one call returns: whether it has succeeded, and whether all else is zero.
type rackCall struct {
	name     string
	ok, zero bool
}

func callsOfRack(r impl.Rack) []rackCall {
	pours, ok1 := impl.PoursOf(r)
	useful, ok2 := impl.UsefulPours(r)
	sorted, ok3 := impl.IsSorted(r)
	counts, ok4 := impl.CountColors(r)
	less, ok5 := impl.LessRack(r, impl.Rack{})
	more, ok6 := impl.LessRack(impl.Rack{}, r)
	same, ok7 := impl.LessRack(r, r)
	text, ok8 := impl.RackText(r)
	return []rackCall{
		{"PoursOf", ok1, len(pours) == 0}, {"UsefulPours", ok2, len(useful) == 0}, {"IsSorted", ok3, !sorted},
		{"CountColors", ok4, counts == [6]int{}}, {"LessRack", ok5, !less}, {"LessRack", ok6, !more},
		{"LessRack", ok7, !same}, {"RackText", ok8, text == ""},
	}
}

func callsOfTube(r impl.Rack, i int) []rackCall {
	layers, ok1 := impl.LayersOf(r, i)
	color, size, ok2 := impl.TopOf(r, i)
	runs, ok3 := impl.RunsOf(r, i)
	put, ok4 := impl.PutLayer(r, i, 1)
	taken, top, ok5 := impl.TakeLayer(r, i)
	return []rackCall{
		{"LayersOf", ok1, layers == 0}, {"TopOf", ok2, color == 0 && size == 0}, {"RunsOf", ok3, len(runs) == 0},
		{"PutLayer", ok4, put == impl.Rack{}}, {"TakeLayer", ok5, taken == impl.Rack{} && top == 0},
	}
}

func callsOfPour(r impl.Rack, i int, j int) []rackCall {
	can, ok1 := impl.CanPour(r, i, j)
	next, moved, ok2 := impl.Pour(r, i, j)
	return []rackCall{{"CanPour", ok1, !can}, {"Pour", ok2, next == impl.Rack{} && moved == 0}}
}

func callsOfSwap(r impl.Rack, i int, j int) []rackCall {
	swapped, ok := impl.SwapTubes(r, i, j)
	return []rackCall{{"SwapTubes", ok, swapped == impl.Rack{}}}
}

// wantFailed reports each call that has succeeded, or has not returned zero values.
func wantFailed(t *testing.T, calls []rackCall, arguments ...any) {
	t.Helper()
	for _, c := range calls {
		if c.ok || !c.zero {
			t.Errorf("%s of %v: succeeds %v, zero values %v", c.name, arguments, c.ok, c.zero)
		}
	}
}

func TestRackFunctionsFailForBadRacks(t *testing.T) {
	for _, r := range badRacks() {
		wantFailed(t, callsOfRack(r), r)
		for i := range impl.Tubes {
			wantFailed(t, callsOfTube(r, i), r, i)
			for j := range impl.Tubes {
				wantFailed(t, callsOfPour(r, i, j), r, i, j)
				wantFailed(t, callsOfSwap(r, i, j), r, i, j)
			}
		}
		for _, i := range outerPlaces {
			wantFailed(t, callsOfTube(r, i), r, i)
			wantFailed(t, callsOfPour(r, i, i), r, i, i)
			wantFailed(t, callsOfSwap(r, i, i), r, i, i)
		}
	}
}

func TestRackFunctionsFailForOuterPlaces(t *testing.T) {
	for _, tubes := range someTubes(20) {
		r := rackOf(tubes)
		for _, i := range outerPlaces {
			wantFailed(t, callsOfTube(r, i), r, i)
			for j := range impl.Tubes {
				wantFailed(t, slices.Concat(callsOfPour(r, i, j), callsOfPour(r, j, i)), r, i, j)
				wantFailed(t, slices.Concat(callsOfSwap(r, i, j), callsOfSwap(r, j, i)), r, i, j)
			}
			for _, j := range outerPlaces {
				wantFailed(t, slices.Concat(callsOfPour(r, i, j), callsOfSwap(r, i, j)), r, i, j)
			}
		}
	}
}

func TestPoursFailForTheSamePlace(t *testing.T) {
	for _, tubes := range someTubes(50) {
		for i := range impl.Tubes {
			wantFailed(t, callsOfPour(rackOf(tubes), i, i), textOf(tubes), i)
		}
	}
}

func TestPutLayerFailsForOuterColors(t *testing.T) {
	for _, tubes := range [][6]string{{}, {"a", "bb", "ccc", "dddd", "abcd", ""}} {
		for i := range impl.Tubes {
			for _, color := range outerColors {
				if r, ok := impl.PutLayer(rackOf(tubes), i, color); ok || r != (impl.Rack{}) {
					t.Errorf("PutLayer(%s, %d, %d) = %v, %v", textOf(tubes), i, color, r, ok)
				}
			}
		}
	}
}

func TestRackFunctionsSucceedForTheEmptyRack(t *testing.T) {
	for _, c := range callsOfRack(impl.Rack{}) {
		if !c.ok {
			t.Errorf("%s of the empty Rack fails", c.name)
		}
	}
	for i := range impl.Tubes {
		layers, one := impl.LayersOf(impl.Rack{}, i)
		runs, two := impl.RunsOf(impl.Rack{}, i)
		if !one || !two || layers != 0 || len(runs) != 0 {
			t.Error("the empty tube", i, layers, runs, one, two)
		}
	}
}

func TestRackResultsShareNoMemory(t *testing.T) {
	tubes := [6]string{"abaa", "b", "aa", "", "cccc"}
	r := rackOf(tubes)
	lists := map[string]func() ([][2]int, bool){
		"RunsOf":      func() ([][2]int, bool) { return impl.RunsOf(r, 0) },
		"PoursOf":     func() ([][2]int, bool) { return impl.PoursOf(r) },
		"UsefulPours": func() ([][2]int, bool) { return impl.UsefulPours(r) },
	}
	for name, call := range lists {
		first, _ := call()
		kept := slices.Clone(first)
		second, _ := call()
		for k := range second[:cap(second)] {
			second[:cap(second)][k] = [2]int{-7, -7}
		}
		third, ok := call()
		if !ok || len(kept) == 0 || !slices.Equal(first, kept) || !slices.Equal(third, kept) {
			t.Errorf("%s returns %v and %v, not %v", name, first, third, kept)
		}
	}
	if r != rackOf(tubes) {
		t.Error("the Rack is now", r)
	}
}

func TestRackFunctionsKeepTheirRack(t *testing.T) {
	for _, tubes := range someTubes(200) {
		r := rackOf(tubes)
		callsOfRack(r)
		for i := range impl.Tubes {
			callsOfTube(r, i)
			for j := range impl.Tubes {
				callsOfPour(r, i, j)
				callsOfSwap(r, i, j)
			}
		}
		if r != rackOf(tubes) {
			t.Fatalf("%s is now %v", textOf(tubes), r)
		}
	}
}
