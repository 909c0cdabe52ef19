package tests

import (
	"math"
	"math/rand"
	"slices"
	"strings"
	"testing"

	"loop.example/g01215/impl"
)

// Racks that are alike are held against a model on the texts of tubes (see l2_racks_test.go), which
// tries all renamings and, where it says so, all orders, and counts them one by one.

// arrangements returns all arrays that have each of the numbers 0..5 once, in order.
func arrangements() [][6]int {
	var all [][6]int
	var extend func(begin []int)
	extend = func(begin []int) {
		if len(begin) == 6 {
			all = append(all, [6]int(begin))
			return
		}
		for n := range 6 {
			if !slices.Contains(begin, n) {
				extend(append(slices.Clone(begin), n))
			}
		}
	}
	extend(nil)
	return all
}

// renamings are the arrangements that begin with 0: the first 120 of the 720.
func renamings() [][6]int { return arrangements()[:120] }

var unchanged = [6]int{0, 1, 2, 3, 4, 5}

// badNames are no renamings, and for badOrders no orders either.
var badNames = append([][6]int{{1, 0, 2, 3, 4, 5}, {5, 4, 3, 2, 1, 0}, {1, 2, 3, 4, 5, 0}}, badOrders...)

var badOrders = [][6]int{
	{}, {0, 1, 2, 3, 4, 4}, {0, 1, 1, 3, 4, 5}, {0, 0, 2, 3, 4, 5}, {0, 5, 5, 5, 5, 5}, {5, 5, 5, 5, 5, 5},
	{0, 1, 2, 3, 4, 6}, {0, 6, 2, 3, 4, 5}, {1, 2, 3, 4, 5, 6}, {0, 1, 2, 3, 4, -1}, {0, -1, 2, 3, 4, 5},
	{-1, 0, 1, 2, 3, 4}, {-1, 1, 2, 3, 4, 5}, {6, 1, 2, 3, 4, 5}, {0, 1, 2, 3, 4, 0}, {0, 1, 2, 3, 4, math.MaxInt},
	{0, 1, 2, 3, 4, math.MinInt}, {math.MinInt, 1, 2, 3, 4, 5}, {math.MaxInt, 1, 2, 3, 4, 5},
	{0, 1, 2, 3, 4, 256 + 5}, {0, 1, 2, 3, 4, 1<<32 + 5}, {0, 1, 2, 3, 4, -5}, {0, -1, -2, -3, -4, -5},
}

func renamedModel(tubes [6]string, names [6]int) [6]string {
	take := func(color rune) rune { return 'a' + rune(names[color-'a'+1]) - 1 }
	for i := range tubes {
		tubes[i] = strings.Map(take, tubes[i])
	}
	return tubes
}

func orderedModel(tubes [6]string, order [6]int) [6]string {
	var ordered [6]string
	for i := range ordered {
		ordered[i] = tubes[order[i]]
	}
	return ordered
}

// renamingsTo returns all renamings that take tubes, with some order behind it, to others.
func renamingsTo(a [6]string, b [6]string) [][6]int {
	var all [][6]int
	for _, names := range renamings() {
		if modelForm(renamedModel(a, names)) == modelForm(b) {
			all = append(all, names)
		}
	}
	return all
}

// firstModel returns the least text of all tubes that are alike: an empty layer is written by a
// byte before all colors, so that texts are in the order of their Racks.
func firstModel(tubes [6]string) string {
	first := textOf(tubes)
	for _, names := range renamings() {
		first = min(first, textOf(modelForm(renamedModel(tubes, names))))
	}
	return first
}

// specialTubes are those in which some tubes or colors can stand for each other, and few that have
// nothing of this.
func specialTubes(t *testing.T) [][6]string {
	var all [][6]string
	for _, text := range []string{
		"..../..../..../..../..../....", "a.../..../..../..../..../....", "..../..../..../..../..../eeee",
		"a.../a.../a.../a.../a.../a...", "a.../b.../c.../d.../e.../....", "aaaa/bbbb/cccc/dddd/eeee/....",
		"ab../ba../..../..../..../....", "ab../ab../..../..../..../....", "ab../bc../ca../..../..../....",
		"ab../bc../cd../de../ea../....", "ab../bc../cd../da../..../e...", "ab../cd../..../..../..../e...",
		"ab../ba../cd../dc../..../....", "ab../ab../cd../cd../e.../e...", "abcd/abdc/bacd/badc/e.../....",
		"abaa/b.../aa../..../..../....", "edcb/edbc/..../..../cccc/cccc", "abcd/bcde/cdea/deab/eabc/....",
		"abc./bca./cab./cba./acb./bac.", "aaab/aab./ab../b.../..../....", "abcd/eabc/deab/cdea/bcde/aaaa",
		"abcd/abcd/abcd/abcd/abcd/abcd", "d.../d.../c.../c.../b.../b...", "ee../dd../c.../..../b.../aaa.",
	} {
		all = append(all, tubesOf(t, text))
	}
	return all
}

func TestIsRenamingAndIsOrder(t *testing.T) {
	for code := range 1 << 18 {
		var numbers [6]int
		for k := range numbers {
			numbers[k] = code>>(3*k)&7 - 1
		}
		sorted := numbers
		slices.Sort(sorted[:])
		order := sorted == unchanged
		if impl.IsOrder(numbers) != order {
			t.Fatalf("IsOrder(%v) is not %v", numbers, order)
		}
		if renaming := order && numbers[0] == 0; impl.IsRenaming(numbers) != renaming {
			t.Fatalf("IsRenaming(%v) is not %v", numbers, renaming)
		}
	}
}

func TestIsRenamingAndIsOrderOfOthers(t *testing.T) {
	for _, names := range badNames {
		if impl.IsRenaming(names) {
			t.Errorf("IsRenaming(%v)", names)
		}
	}
	for _, order := range badOrders {
		if impl.IsOrder(order) {
			t.Errorf("IsOrder(%v)", order)
		}
	}
	for _, order := range badNames[:3] {
		if !impl.IsOrder(order) {
			t.Errorf("IsOrder(%v) is false", order)
		}
	}
}

func TestRenameRack(t *testing.T) {
	for _, tubes := range append(specialTubes(t), someTubes(60)...) {
		r := rackOf(tubes)
		for _, names := range renamings() {
			got, ok := impl.RenameRack(r, names)
			if !ok || got != rackOf(renamedModel(tubes, names)) {
				t.Fatalf("RenameRack(%s, %v) = %v, %v", textOf(tubes), names, got, ok)
			}
			back, one := impl.BackNames(names)
			again, two := impl.RenameRack(got, back)
			if !one || !two || again != r {
				t.Fatalf("RenameRack(%s, %v) is taken back to %v, %v, %v", textOf(tubes), names, again, one, two)
			}
		}
		if same, ok := impl.RenameRack(r, unchanged); !ok || same != r {
			t.Fatalf("RenameRack(%s) = %v, %v for the renaming that changes nothing", textOf(tubes), same, ok)
		}
	}
}

func TestOrderRack(t *testing.T) {
	orders := arrangements()
	for _, tubes := range append(specialTubes(t), someTubes(40)...) {
		r := rackOf(tubes)
		for _, order := range orders {
			got, ok := impl.OrderRack(r, order)
			if !ok || got != rackOf(orderedModel(tubes, order)) {
				t.Fatalf("OrderRack(%s, %v) = %v, %v", textOf(tubes), order, got, ok)
			}
		}
		if same, ok := impl.OrderRack(r, unchanged); !ok || same != r {
			t.Fatalf("OrderRack(%s) = %v, %v for the order that changes nothing", textOf(tubes), same, ok)
		}
	}
}

// The examples have neither renamings nor orders that are their own way back.
func TestRenameRackAndOrderRackExamples(t *testing.T) {
	r, _ := impl.ParseRack("abaa/bc../cde./..../eeee/d...")
	named, ok := impl.RenameRack(r, [6]int{0, 2, 3, 4, 5, 1})
	if text, _ := impl.RackText(named); !ok || text != "bcbb/cd../dea./..../aaaa/e..." {
		t.Error("RenameRack", text, ok)
	}
	ordered, ok := impl.OrderRack(r, [6]int{5, 0, 1, 3, 2, 4})
	if text, _ := impl.RackText(ordered); !ok || text != "d.../abaa/bc../..../cde./eeee" {
		t.Error("OrderRack", text, ok)
	}
}

func TestFirstForm(t *testing.T) {
	for _, tubes := range append(specialTubes(t), someTubes(400)...) {
		r := rackOf(tubes)
		first, ok := impl.FirstForm(r)
		text, _ := impl.RackText(first)
		if want := firstModel(tubes); !ok || text != want {
			t.Fatalf("FirstForm(%s) = %s, %v, not %s", textOf(tubes), text, ok, want)
		}
		if again, ok := impl.FirstForm(first); !ok || again != first {
			t.Fatalf("FirstForm(%s) = %v, %v", text, again, ok)
		}
		if alike, ok := impl.AreAlike(r, first); !ok || !alike {
			t.Fatalf("AreAlike(%s, %s) = %v, %v", textOf(tubes), text, alike, ok)
		}
	}
}

// TestFirstFormOfAllAlike tries all orders too.
func TestFirstFormOfAllAlike(t *testing.T) {
	orders := arrangements()
	for _, tubes := range append(dealtTubes(6), tubesOf(t, "abcd/abdc/bacd/badc/e.../...."), tubesOf(t, "edcb/edbc/..../..../cccc/cccc")) {
		first := textOf(tubes)
		for _, names := range renamings() {
			named := renamedModel(tubes, names)
			for _, order := range orders {
				first = min(first, textOf(orderedModel(named, order)))
			}
		}
		got, ok := impl.FirstForm(rackOf(tubes))
		if text, _ := impl.RackText(got); !ok || text != first {
			t.Errorf("FirstForm(%s) = %s, %v, not %s", textOf(tubes), text, ok, first)
		}
	}
}

func TestFirstFormExamples(t *testing.T) {
	for _, c := range [][2]string{
		{"..../..../..../..../..../....", "..../..../..../..../..../...."},
		{"..../..../..../..../..../eeee", "..../..../..../..../..../aaaa"},
		{"ba../..../..../..../..../....", "..../..../..../..../..../ab.."},
		{"abaa/b.../aa../..../..../....", "..../..../..../a.../babb/bb.."},
		{"eeee/dddd/cccc/bbbb/aaaa/....", "..../aaaa/bbbb/cccc/dddd/eeee"},
		{"bbbb/bbbb/a.../..../..../....", "..../..../..../a.../bbbb/bbbb"},
		{"bbbb/bbb./bb../a.../..../....", "..../..../a.../bb../bbb./bbbb"},
		{"ee../e.../..../..../..../dd..", "..../..../..../a.../aa../bb.."},
		{"ed../d.../..../..../..../e...", "..../..../..../a.../ab../b..."},
	} {
		r, _ := impl.ParseRack(c[0])
		first, ok := impl.FirstForm(r)
		if text, _ := impl.RackText(first); !ok || text != c[1] {
			t.Errorf("FirstForm(%s) = %s, %v", c[0], text, ok)
		}
	}
}

// checkAlike holds all that is said of two Racks against the model, both ways.
func checkAlike(t *testing.T, a [6]string, b [6]string) bool {
	t.Helper()
	names := renamingsTo(a, b)
	x, y := rackOf(a), rackOf(b)
	one, ok1 := impl.AreAlike(x, y)
	two, ok2 := impl.AreAlike(y, x)
	if !ok1 || !ok2 || one != (len(names) > 0) || one != two {
		t.Fatalf("AreAlike(%s, %s) = %v, %v and %v, %v", textOf(a), textOf(b), one, ok1, two, ok2)
	}
	first, _ := impl.FirstForm(x)
	if other, ok := impl.FirstForm(y); !ok || (other == first) != one {
		t.Fatalf("FirstForm(%s) = %v, FirstForm(%s) = %v, %v: alike %v", textOf(a), first, textOf(b), other, ok, one)
	}
	got, ok := impl.RenamingTo(x, y)
	if !one {
		if ok || got != ([6]int{}) {
			t.Fatalf("RenamingTo(%s, %s) = %v, %v", textOf(a), textOf(b), got, ok)
		}
		return false
	}
	if !ok || got != names[0] {
		t.Fatalf("RenamingTo(%s, %s) = %v, %v, not %v", textOf(a), textOf(b), got, ok, names[0])
	}
	many, _ := impl.CountRenamings(x)
	if others, ok := impl.CountRenamings(y); !ok || others != many || many != len(names) {
		t.Fatalf("CountRenamings(%s) = %d, CountRenamings(%s) = %d, %v: %d lead to it", textOf(a), many, textOf(b), others, ok, len(names))
	}
	pours, _ := impl.PoursOf(x)
	if others, ok := impl.PoursOf(y); !ok || len(others) != len(pours) {
		t.Fatalf("%s has %d PoursOf, %s has %d, %v", textOf(a), len(pours), textOf(b), len(others), ok)
	}
	return true
}

func TestAlikeRacks(t *testing.T) {
	source := rand.New(rand.NewSource(4))
	orders := arrangements()
	for _, tubes := range append(specialTubes(t), someTubes(300)...) {
		names, order := renamings()[source.Intn(120)], orders[source.Intn(720)]
		for _, other := range [][6]string{
			orderedModel(renamedModel(tubes, names), order), renamedModel(tubes, names), orderedModel(tubes, order), tubes, modelForm(tubes),
		} {
			if !checkAlike(t, tubes, other) {
				t.Fatalf("%s is not alike %s", textOf(tubes), textOf(other))
			}
		}
	}
}

func TestAlikeRacksAgainstTheModel(t *testing.T) {
	source := rand.New(rand.NewSource(5))
	small := smallTubes()
	special := specialTubes(t)
	alike := 0
	for _, tubes := range small {
		for range 5 {
			if checkAlike(t, tubes, small[source.Intn(len(small))]) {
				alike++
			}
		}
	}
	if alike < 20 {
		t.Error("only", alike, "were alike")
	}
	for _, a := range special {
		for _, b := range special {
			checkAlike(t, a, b)
		}
	}
}

func TestAlikeRacksExamples(t *testing.T) {
	for _, c := range []struct {
		a, b  string
		alike bool
		names [6]int
	}{
		{"..../..../..../..../..../....", "..../..../..../..../..../....", true, unchanged},
		{"a.../..../..../..../..../....", "..../..../..../..../..../c...", true, [6]int{0, 3, 1, 2, 4, 5}},
		{"..../..../e.../..../..../....", "..../..../..../..../..../a...", true, [6]int{0, 2, 3, 4, 5, 1}},
		{"ab../ba../..../..../..../....", "..../..../ba../..../ab../....", true, unchanged},
		{"ab../ba../..../..../..../....", "..../..../cd../..../dc../....", true, [6]int{0, 3, 4, 1, 2, 5}},
		{"ab../bc../ca../..../..../....", "..../..../cd../ec../..../de..", true, [6]int{0, 3, 4, 5, 1, 2}},
		{"aaaa/bbbb/cccc/dddd/eeee/....", "..../eeee/bbbb/dddd/aaaa/cccc", true, unchanged},
		{"aab./..../..../..../..../....", "..../bba./..../..../..../....", true, [6]int{0, 2, 1, 3, 4, 5}},
		{"aab./..../..../..../..../....", "..../baa./..../..../..../....", false, [6]int{}},
		{"ab../ab../..../..../..../....", "ab../ba../..../..../..../....", false, [6]int{}},
		{"ab../bc../ca../..../..../....", "ab../bc../ac../..../..../....", false, [6]int{}},
		{"a.../a.../..../..../..../....", "a.../b.../..../..../..../....", false, [6]int{}},
		{"a.../a.../..../..../..../....", "aa../..../..../..../..../....", false, [6]int{}},
		{"a.../a.../b.../..../..../....", "a.../b.../b.../c.../..../....", false, [6]int{}},
		{"a.../a.../a.../b.../..../....", "a.../a.../b.../b.../..../....", false, [6]int{}},
		{"a.../..../..../..../..../....", "..../..../..../..../..../....", false, [6]int{}},
	} {
		x, _ := impl.ParseRack(c.a)
		y, _ := impl.ParseRack(c.b)
		alike, ok := impl.AreAlike(x, y)
		names, named := impl.RenamingTo(x, y)
		if !ok || alike != c.alike || named != c.alike || names != c.names {
			t.Errorf("%s and %s: alike %v, %v, renaming %v, %v", c.a, c.b, alike, ok, names, named)
		}
	}
}

// checkOrderTo tries all orders, the first ones first.
func checkOrderTo(t *testing.T, orders [][6]int, a [6]string, b [6]string) {
	t.Helper()
	want, found := [6]int{}, false
	for _, order := range orders {
		if orderedModel(a, order) == b {
			want, found = order, true
			break
		}
	}
	if got, ok := impl.OrderTo(rackOf(a), rackOf(b)); ok != found || got != want {
		t.Fatalf("OrderTo(%s, %s) = %v, %v, not %v, %v", textOf(a), textOf(b), got, ok, want, found)
	}
}

func TestOrderTo(t *testing.T) {
	source := rand.New(rand.NewSource(6))
	orders := arrangements()
	for _, tubes := range append(specialTubes(t), someTubes(300)...) {
		checkOrderTo(t, orders, tubes, tubes)
		checkOrderTo(t, orders, tubes, modelForm(tubes))
		checkOrderTo(t, orders, modelForm(tubes), tubes)
		for range 4 {
			checkOrderTo(t, orders, tubes, orderedModel(tubes, orders[source.Intn(720)]))
		}
		other := tubes
		other[source.Intn(6)] = other[source.Intn(6)]
		checkOrderTo(t, orders, tubes, other)
		checkOrderTo(t, orders, other, tubes)
		checkOrderTo(t, orders, tubes, renamedModel(tubes, [6]int{0, 2, 1, 3, 5, 4}))
	}
}

func TestOrderToExamples(t *testing.T) {
	for _, c := range []struct {
		a, b  string
		order [6]int
		ok    bool
	}{
		{"..../..../..../..../..../....", "..../..../..../..../..../....", unchanged, true},
		{"a.../b.../a.../b.../a.../b...", "b.../b.../b.../a.../a.../a...", [6]int{1, 3, 5, 0, 2, 4}, true},
		{"a.../b.../c.../d.../e.../....", "..../a.../b.../c.../d.../e...", [6]int{5, 0, 1, 2, 3, 4}, true},
		{"a.../..../..../..../..../....", "..../..../..../a.../..../....", [6]int{1, 2, 3, 0, 4, 5}, true},
		{"a.../..../..../..../..../....", "..../..../..../b.../..../....", [6]int{}, false},
		{"a.../a.../b.../..../..../....", "a.../b.../b.../..../..../....", [6]int{}, false},
		{"a.../b.../c.../d.../e.../....", "a.../b.../c.../d.../e.../e...", [6]int{}, false},
		{"ab../..../..../..../..../....", "ba../..../..../..../..../....", [6]int{}, false},
	} {
		x, _ := impl.ParseRack(c.a)
		y, _ := impl.ParseRack(c.b)
		if order, ok := impl.OrderTo(x, y); ok != c.ok || order != c.order {
			t.Errorf("OrderTo(%s, %s) = %v, %v", c.a, c.b, order, ok)
		}
	}
}

func TestCountRenamings(t *testing.T) {
	for _, tubes := range slices.Concat(specialTubes(t), smallTubes(), someTubes(300)) {
		many, ok := impl.CountRenamings(rackOf(tubes))
		if want := len(renamingsTo(tubes, tubes)); !ok || many != want || 120%many != 0 {
			t.Fatalf("CountRenamings(%s) = %d, %v, not %d", textOf(tubes), many, ok, want)
		}
	}
}

func TestCountOrders(t *testing.T) {
	orders := arrangements()
	for _, tubes := range slices.Concat(specialTubes(t), smallTubes(), someTubes(100)) {
		others := map[[6]string]bool{}
		for _, order := range orders {
			others[orderedModel(tubes, order)] = true
		}
		if many, ok := impl.CountOrders(rackOf(tubes)); !ok || many != len(others) {
			t.Fatalf("CountOrders(%s) = %d, %v, not %d", textOf(tubes), many, ok, len(others))
		}
	}
}

func TestCountsOfExamples(t *testing.T) {
	for _, c := range []struct {
		text              string
		renamings, orders int
	}{
		{"..../..../..../..../..../....", 120, 1}, // no color is there
		{"a.../..../..../..../..../....", 24, 6},  // the other four colors are not there
		{"a.../a.../a.../a.../a.../a...", 24, 1},
		{"abaa/b.../aa../..../..../....", 6, 120},
		{"a.../b.../c.../d.../e.../....", 120, 720},
		{"ab../ba../..../..../..../....", 12, 30}, // both colors exchanged, or not
		{"ab../ab../..../..../..../....", 6, 15},
		{"ab../bc../ca../..../..../....", 6, 120}, // all three colors turned
		{"ab../bc../cd../de../ea../....", 5, 720},
		{"abcd/abcd/bcda/bcda/cdab/dabc", 1, 180},
		{"abcd/bcda/cdab/dabc/e.../e...", 4, 360},
		{"ab../ab../cd../cd../e.../e...", 2, 90},
		{"aaab/aab./ab../b.../..../cde.", 1, 720},
		{"aaa./aaa./aaa./bbb./bbb./bbb.", 12, 20},
	} {
		r, _ := impl.ParseRack(c.text)
		renamings, one := impl.CountRenamings(r)
		orders, two := impl.CountOrders(r)
		if !one || !two || renamings != c.renamings || orders != c.orders {
			t.Errorf("%s: %d renamings, %v, %d orders, %v", c.text, renamings, one, orders, two)
		}
	}
}

func TestBackNamesAndNamesBehind(t *testing.T) {
	r := rackOf([6]string{"abcd", "eabc", "bbad", "", "e", "cd"})
	for _, first := range renamings() {
		back, ok := impl.BackNames(first)
		if !ok || !impl.IsRenaming(back) {
			t.Fatalf("BackNames(%v) = %v, %v", first, back, ok)
		}
		for color := range 6 {
			if back[first[color]] != color {
				t.Fatalf("BackNames(%v) = %v", first, back)
			}
		}
		one, ok1 := impl.NamesBehind(first, back)
		two, ok2 := impl.NamesBehind(back, first)
		if !ok1 || !ok2 || one != unchanged || two != unchanged {
			t.Fatalf("NamesBehind of %v and %v = %v, %v and %v, %v", first, back, one, ok1, two, ok2)
		}
		named, _ := impl.RenameRack(r, first)
		for _, second := range renamings() {
			both, ok := impl.NamesBehind(first, second)
			together, _ := impl.RenameRack(r, both)
			if apart, _ := impl.RenameRack(named, second); !ok || !impl.IsRenaming(both) || together != apart {
				t.Fatalf("NamesBehind(%v, %v) = %v, %v", first, second, both, ok)
			}
			for color := range 6 {
				if both[color] != second[first[color]] {
					t.Fatalf("NamesBehind(%v, %v) = %v", first, second, both)
				}
			}
		}
	}
}

func TestNamesExamples(t *testing.T) {
	turn, exchange := [6]int{0, 2, 3, 1, 4, 5}, [6]int{0, 2, 1, 3, 4, 5}
	back, one := impl.BackNames(turn)
	both, two := impl.NamesBehind(turn, exchange)
	other, three := impl.NamesBehind(exchange, turn)
	if !one || !two || !three || back != [6]int{0, 3, 1, 2, 4, 5} || both != [6]int{0, 1, 3, 2, 4, 5} || other != [6]int{0, 3, 2, 1, 4, 5} {
		t.Error(back, one, both, two, other, three)
	}
	if same, ok := impl.BackNames(unchanged); !ok || same != unchanged {
		t.Error("BackNames of the renaming that changes nothing", same, ok)
	}
	if same, ok := impl.NamesBehind(unchanged, turn); !ok || same != turn {
		t.Error("NamesBehind the renaming that changes nothing", same, ok)
	}
	if same, ok := impl.NamesBehind(turn, unchanged); !ok || same != turn {
		t.Error("NamesBehind with the renaming that changes nothing", same, ok)
	}
}

// distinctModel compares each pour with all before it.
func distinctModel(tubes [6]string) [][2]int {
	var distinct [][2]int
	steps := modelSteps(tubes)
	for k, s := range steps {
		leadsThere := func(other modelStep) bool { return modelForm(other.tubes) == modelForm(s.tubes) }
		if !slices.ContainsFunc(steps[:k], leadsThere) {
			distinct = append(distinct, s.pour)
		}
	}
	return distinct
}

func TestDistinctPours(t *testing.T) {
	fewer := 0
	for _, tubes := range slices.Concat(specialTubes(t), smallTubes(), someTubes(1000), dealtTubes(300)) {
		got, ok := impl.DistinctPours(rackOf(tubes))
		if want := distinctModel(tubes); !ok || !slices.Equal(got, want) {
			t.Fatalf("DistinctPours(%s) = %v, %v, not %v", textOf(tubes), got, ok, want)
		}
		if len(got) < len(modelSteps(tubes)) {
			fewer++
		}
	}
	if fewer < 100 {
		t.Error("only", fewer, "had pours that lead to the same form")
	}
}

func TestDistinctPoursExamples(t *testing.T) {
	for _, c := range []struct {
		text  string
		pours [][2]int
	}{
		{"..../..../..../..../..../....", nil},
		{"a.../..../..../..../..../....", nil},                      // idle pours alone
		{"abcd/abdc/bacd/badc/eeee/aaaa", nil},                      // full tubes alone
		{"ab../..../..../..../..../....", [][2]int{{0, 1}}},         // five empty tubes
		{"a.../a.../..../..../..../....", [][2]int{{0, 1}}},         // either onto the other one
		{"a.../aa../..../..../..../....", [][2]int{{0, 1}}},         // aaa either way
		{"aaa./aa../..../..../..../....", [][2]int{{0, 1}}},         // aaaa and a either way
		{"abaa/b.../aa../..../..../....", [][2]int{{0, 2}, {0, 3}}}, // aa onto the other one leads elsewhere
		{"ab../ab../..../..../..../....", [][2]int{{0, 1}, {0, 2}}},
		{"ab../cb../..../..../..../....", [][2]int{{0, 1}, {0, 2}, {1, 0}, {1, 2}}}, // forms that are alike, but others
		{"..../ba../..../a.../..../a...", [][2]int{{1, 0}, {1, 3}, {3, 1}, {3, 5}}},
	} {
		r, _ := impl.ParseRack(c.text)
		if pours, ok := impl.DistinctPours(r); !ok || !slices.Equal(pours, c.pours) {
			t.Errorf("DistinctPours(%s) = %v, %v", c.text, pours, ok)
		}
	}
}

func callsOfAlike(a impl.Rack, b impl.Rack) []rackCall {
	alike, ok1 := impl.AreAlike(a, b)
	names, ok2 := impl.RenamingTo(a, b)
	order, ok3 := impl.OrderTo(a, b)
	return []rackCall{{"AreAlike", ok1, !alike}, {"RenamingTo", ok2, names == [6]int{}}, {"OrderTo", ok3, order == [6]int{}}}
}

func callsOfClass(r impl.Rack) []rackCall {
	named, ok1 := impl.RenameRack(r, unchanged)
	ordered, ok2 := impl.OrderRack(r, unchanged)
	first, ok3 := impl.FirstForm(r)
	renamings, ok4 := impl.CountRenamings(r)
	orders, ok5 := impl.CountOrders(r)
	pours, ok6 := impl.DistinctPours(r)
	return []rackCall{
		{"RenameRack", ok1, named == impl.Rack{}}, {"OrderRack", ok2, ordered == impl.Rack{}}, {"FirstForm", ok3, first == impl.Rack{}},
		{"CountRenamings", ok4, renamings == 0}, {"CountOrders", ok5, orders == 0}, {"DistinctPours", ok6, len(pours) == 0},
	}
}

func TestAlikeFunctionsFailForBadRacks(t *testing.T) {
	fine := rackOf([6]string{"ab", "b", "a"})
	for _, r := range badRacks() {
		wantFailed(t, callsOfClass(r), r)
		wantFailed(t, callsOfAlike(r, r), r, r)
		wantFailed(t, callsOfAlike(r, fine), r, fine)
		wantFailed(t, callsOfAlike(fine, r), fine, r)
		wantFailed(t, callsOfAlike(impl.Rack{}, r), impl.Rack{}, r)
	}
}

func TestAlikeFunctionsFailForBadNames(t *testing.T) {
	for _, names := range badNames {
		for _, tubes := range [][6]string{{}, {"a", "bb", "ccc", "dddd", "eabc"}} {
			r, ok := impl.RenameRack(rackOf(tubes), names)
			wantFailed(t, []rackCall{{"RenameRack", ok, r == impl.Rack{}}}, textOf(tubes), names)
		}
		back, ok1 := impl.BackNames(names)
		one, ok2 := impl.NamesBehind(names, unchanged)
		two, ok3 := impl.NamesBehind(unchanged, names)
		three, ok4 := impl.NamesBehind(names, names)
		wantFailed(t, []rackCall{
			{"BackNames", ok1, back == [6]int{}}, {"NamesBehind", ok2, one == [6]int{}},
			{"NamesBehind", ok3, two == [6]int{}}, {"NamesBehind", ok4, three == [6]int{}},
		}, names)
	}
}

func TestAlikeFunctionsFailForBadOrders(t *testing.T) {
	for _, order := range badOrders {
		for _, tubes := range [][6]string{{}, {"a", "bb", "ccc", "dddd", "eabc"}} {
			r, ok := impl.OrderRack(rackOf(tubes), order)
			wantFailed(t, []rackCall{{"OrderRack", ok, r == impl.Rack{}}}, textOf(tubes), order)
		}
	}
}

func TestAlikeFunctionsSucceedForTheEmptyRack(t *testing.T) {
	for _, c := range slices.Concat(callsOfClass(impl.Rack{}), callsOfAlike(impl.Rack{}, impl.Rack{})) {
		if !c.ok {
			t.Errorf("%s of the empty Rack fails", c.name)
		}
	}
}

func TestAlikeFunctionsKeepTheirArguments(t *testing.T) {
	names, order := [6]int{0, 2, 3, 1, 5, 4}, [6]int{5, 0, 1, 2, 3, 4}
	for _, tubes := range specialTubes(t) {
		r := rackOf(tubes)
		named, _ := impl.RenameRack(r, names)
		ordered, _ := impl.OrderRack(r, order)
		callsOfClass(r)
		callsOfAlike(r, named)
		callsOfAlike(ordered, r)
		if r != rackOf(tubes) || named != rackOf(renamedModel(tubes, names)) || ordered != rackOf(orderedModel(tubes, order)) {
			t.Fatalf("%s is now %v, %v, %v", textOf(tubes), r, named, ordered)
		}
	}
	impl.BackNames(names)
	impl.NamesBehind(names, order)
	if names != [6]int{0, 2, 3, 1, 5, 4} || order != [6]int{5, 0, 1, 2, 3, 4} {
		t.Error("now", names, order)
	}
}

func TestDistinctPoursShareNoMemory(t *testing.T) {
	r := rackOf(tubesOf(t, "abaa/b.../aa../..../..../...."))
	kept := [][2]int{{0, 2}, {0, 3}}
	first, _ := impl.DistinctPours(r)
	second, _ := impl.DistinctPours(r)
	for k := range second[:cap(second)] {
		second[:cap(second)][k] = [2]int{-7, -7}
	}
	third, ok := impl.DistinctPours(r)
	if !ok || !slices.Equal(first, kept) || !slices.Equal(third, kept) {
		t.Error(first, third, ok)
	}
}

// TestFirstFormsAreTheSameInEachRun would fail for results that follow the order of a map.
func TestFirstFormsAreTheSameInEachRun(t *testing.T) {
	a, b := tubesOf(t, "abcd/eabc/deab/cdea/bcde/a..."), tubesOf(t, "..../..../e.../..../..../....")
	for range 50 {
		for _, tubes := range [][6]string{a, b} {
			first, _ := impl.FirstForm(rackOf(tubes))
			if text, _ := impl.RackText(first); text != firstModel(tubes) {
				t.Fatalf("FirstForm(%s) = %s", textOf(tubes), text)
			}
			checkAlike(t, tubes, tubes)
		}
	}
}
