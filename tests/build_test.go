package tests

import (
	"fmt"
	"slices"
	"strings"
	"testing"

	"loop.example/g01199/impl"
)

// The tests of promise 6: orders add cells one by one, are counted, and are found if there are some.

func TestLimitOfForms(t *testing.T) {
	expect(t, "MaxShape", []any{impl.MaxShape}, 10)
	for _, s := range []string{"ooooo/ooooo", "oo/oo/oo/oo/oo", "ooooooo/ooo....", "oooooo/o...../o...../o...../o...../......"} {
		expect(t, "IsForm "+s, []any{impl.IsForm(s)}, true)
		built, ok := impl.CanBuild(s)
		expect(t, "CanBuild "+s, []any{built, ok}, true, true)
		for _, cell := range numbersOf(s, '.') {
			dirs := addModel(s, cell)
			for _, dir := range []string{"u", "r", "d", "l"} {
				can, ok := impl.CanAdd(s, cell, dir)
				expect(t, fmt.Sprint("CanAdd ", s, cell, dir), []any{can, ok}, strings.Contains(dirs, dir), true)
			}
			if dirs == "" {
				continue
			}
			// The cell can be added, but the result is no form.
			failsWithZeros(t, "AddCell", s, cell)
			expect(t, "IsForm "+s, []any{impl.IsForm(withText(s, cell, "o"))}, false)
		}
	}
	nine, ok := impl.AddCell("ooooo/oooo.", 9)
	expect(t, "AddCell", []any{nine, ok}, "ooooo/ooooo", true)
}

func TestExampleOfForms(t *testing.T) {
	ways, ok := impl.FreeWays("oo./o..", 4)
	expect(t, "FreeWays", []any{ways, ok}, "ul", true)
	for dir, want := range map[string]bool{"u": true, "r": false, "d": false, "l": true} {
		can, ok := impl.CanAdd("oo./o..", 4, dir)
		expect(t, "CanAdd "+dir, []any{can, ok}, want, true)
	}
	count, ok := impl.CountOrders("ooo")
	expect(t, "CountOrders", []any{count, ok}, 4, true)
	for cell, want := range []int{1, 2, 1} {
		count, ok := impl.CountFromCell("ooo", cell)
		expect(t, "CountFromCell", []any{count, ok}, want, true)
	}
	count, ok = impl.CountFull(3)
	expect(t, "CountFull", []any{count, ok}, 6, true)
	count, ok = impl.CountBuilt(3)
	expect(t, "CountBuilt", []any{count, ok}, 6, true)
}

func TestIsForm(t *testing.T) {
	for _, s := range slices.Concat(sampleForms(), sampleTrays(), notForms(), allTrays(3, 2, "#.oa"), allTrays(3, 3, ".o"), allTrays(5, 2, ".o")) {
		want := isFormModel(s)
		expect(t, "IsForm "+s, []any{impl.IsForm(s)}, want)
		balls, ok := impl.CellsOfForm(s)
		if ok != want || ok && !slices.Equal(balls, numbersOf(s, 'o')) || !ok && len(balls) > 0 {
			t.Errorf("CellsOfForm(%q) is %v, %v", s, balls, ok)
		}
	}
}

func TestFormsOfOneBall(t *testing.T) {
	for _, size := range [][2]int{{1, 1}, {2, 1}, {1, 7}, {3, 3}, {7, 5}, {6, 6}} {
		for ball := range size[0] * size[1] {
			s := withText(freeText(size[0], size[1]), ball, "o")
			expect(t, "IsForm "+s, []any{impl.IsForm(s)}, true)
			balls, ok := impl.CellsOfForm(s)
			expect(t, "CellsOfForm "+s, []any{balls, ok}, []int{ball}, true)
			failsWithZeros(t, "TakeCell", s, ball)
			last, ok := impl.LastCells(s)
			expect(t, "LastCells "+s, []any{len(last), ok}, 0, true)
			built, ok := impl.CanBuild(s)
			expect(t, "CanBuild "+s, []any{built, ok}, true, true)
			order, ok := impl.FirstOrder(s)
			expect(t, "FirstOrder "+s, []any{order, ok}, []int{ball}, true)
			ways, ok := impl.WaysOfOrder(s, order)
			expect(t, "WaysOfOrder "+s, []any{ways, ok}, "", true)
			is, ok := impl.IsOrder(s, order)
			expect(t, "IsOrder "+s, []any{is, ok}, true, true)
			count, ok := impl.CountOrders(s)
			expect(t, "CountOrders "+s, []any{count, ok}, 1, true)
			count, ok = impl.CountFromCell(s, ball)
			expect(t, "CountFromCell "+s, []any{count, ok}, 1, true)
		}
	}
}

func TestCellsThatCanBeAdded(t *testing.T) {
	for _, s := range sampleForms() {
		for cell := range strings.ReplaceAll(s, "/", "") {
			isFree := cellOf(s, cell) == '.'
			ways, ok := impl.FreeWays(s, cell)
			expect(t, fmt.Sprint("FreeWays ", s, " ", cell), []any{ways, ok}, waysModel(s, cell), isFree)
			dirs := addModel(s, cell)
			for _, dir := range []string{"u", "r", "d", "l"} {
				can, ok := impl.CanAdd(s, cell, dir)
				expect(t, fmt.Sprint("CanAdd ", s, " ", cell, " ", dir), []any{can, ok}, strings.Contains(dirs, dir), true)
			}
			more := withText(s, cell, "o")
			if dirs == "" || !isFormModel(more) {
				failsWithZeros(t, "AddCell", s, cell)
				continue
			}
			added, ok := impl.AddCell(s, cell)
			expect(t, fmt.Sprint("AddCell ", s, " ", cell), []any{added, ok}, more, true)
			taken, ok := impl.TakeCell(added, cell)
			expect(t, fmt.Sprint("TakeCell ", added, " ", cell), []any{taken, ok}, s, true)
		}
	}
}

func TestCellsThatCanBeTaken(t *testing.T) {
	for _, s := range sampleForms() {
		var want []int
		for cell := range strings.ReplaceAll(s, "/", "") {
			left, canBeTaken := takeModel(s, cell)
			if !canBeTaken {
				failsWithZeros(t, "TakeCell", s, cell)
				continue
			}
			want = append(want, cell)
			taken, ok := impl.TakeCell(s, cell)
			expect(t, fmt.Sprint("TakeCell ", s, " ", cell), []any{taken, ok}, left, true)
			added, ok := impl.AddCell(taken, cell)
			expect(t, fmt.Sprint("AddCell ", taken, " ", cell), []any{added, ok}, s, true)
		}
		last, ok := impl.LastCells(s)
		if !ok || !slices.Equal(last, want) {
			t.Errorf("LastCells(%q) is %v, %v and should be %v", s, last, ok, want)
		}
	}
}

func TestKnownFreeWays(t *testing.T) {
	for _, c := range []struct {
		s     string
		cell  int
		ways  string
		isAdd bool
	}{
		// Each side, both with a ball beside the cell and without.
		{"ooo/o.o", 4, "u", true}, {"oo/.o/oo", 2, "r", true}, {"o.o/ooo", 1, "d", true}, {"oo/o./oo", 3, "l", true},
		{"ooo/o.o/o.o/o.o", 10, "u", true}, {"ooo/o.o/o.o/o.o", 4, "u", true}, {"oooo/...o/oooo", 4, "r", true}, {"oooo/...o/oooo", 6, "r", true},
		{"o.o/o.o/ooo", 1, "d", true}, {"o.o/o.o/ooo", 4, "d", true}, {"oooo/o.../oooo", 7, "l", true}, {"oooo/o.../oooo", 5, "l", true},
		{"ooooo/o...o/o...o", 12, "u", false}, {"ooo/..o/..o/..o/ooo", 6, "r", false}, {"o...o/o...o/ooooo", 2, "d", false}, {"ooo/o../o../o../ooo", 8, "l", false},
		// Two sides, that meet and that are against each other.
		{"oo./o..", 4, "ul", true}, {".o/oo", 0, "rd", true}, {"o./oo", 1, "dl", true}, {"oo/.o", 2, "ur", true},
		// Three sides, all four, and none.
		{"o.", 1, "udl", true}, {".o", 0, "urd", true}, {"o/.", 1, "url", true}, {"./o", 0, "rdl", true},
		{"o./..", 3, "urdl", false}, {"ooo/o.o/ooo", 4, "", false}, {"ooo/o.o/.oo", 4, "", false}, {"oooo/o..o/oooo", 5, "", false},
		// A free way, but no ball beside it; corners in common are no sides.
		{"o..", 2, "udl", false}, {".o/..", 2, "urdl", false}, {"oo../....", 7, "urdl", false},
		// A ball beside it, but no free way: the balls in its lines need not be beside it.
		{"oooo/o..o/oo.o", 5, "", false}, {"oooo/o..o/oo.o", 6, "u", true}, {"oooo/...o/.o.o/.ooo", 10, "", false},
		// Further cells of the line that are not on the way.
		{".o.", 0, "urd", true}, {".o.", 2, "udl", true}, {"./o/.", 2, "url", true},
	} {
		if cellOf(c.s, c.cell) != '.' || !isFormModel(c.s) {
			t.Fatalf("%q has no free cell %d", c.s, c.cell)
		}
		ways, ok := impl.FreeWays(c.s, c.cell)
		expect(t, fmt.Sprint("FreeWays ", c.s, " ", c.cell), []any{ways, ok}, c.ways, true)
		added, ok := impl.AddCell(c.s, c.cell)
		expect(t, fmt.Sprint("AddCell ", c.s, " ", c.cell), []any{added != "", ok}, c.isAdd, c.isAdd)
		for _, dir := range []string{"u", "r", "d", "l"} {
			can, ok := impl.CanAdd(c.s, c.cell, dir)
			expect(t, fmt.Sprint("CanAdd ", c.s, " ", c.cell, " ", dir), []any{can, ok}, c.isAdd && strings.Contains(c.ways, dir), true)
		}
	}
}

func TestBallsCannotBeAdded(t *testing.T) {
	for _, s := range knownForms() {
		for _, cell := range numbersOf(s, 'o') {
			for _, dir := range []string{"u", "r", "d", "l"} {
				can, ok := impl.CanAdd(s, cell, dir)
				expect(t, fmt.Sprint("CanAdd ", s, " ", cell, " ", dir), []any{can, ok}, false, true)
			}
			failsWithZeros(t, "FreeWays", s, cell)
			failsWithZeros(t, "AddCell", s, cell)
		}
	}
}

func TestKnownLastCells(t *testing.T) {
	for _, c := range []struct {
		s    string
		last []int
	}{
		{"oo", []int{0, 1}}, {"ooo", []int{0, 2}}, {"oo/o.", []int{1, 2}}, {"oo/oo", []int{0, 1, 2, 3}},
		// The rest falls apart without the middle.
		{".o./ooo/.o.", []int{1, 3, 5, 7}}, {"o.o/ooo", []int{0, 2}}, {"ooo/.o./ooo", []int{0, 2, 6, 8}},
		// The middle could not come in again, though the rest hangs together.
		{"ooo/ooo/ooo", []int{0, 1, 2, 3, 5, 6, 7, 8}}, {"ooo/ooo/oo.", []int{0, 1, 2, 3, 5, 6, 7}}, {"oooo/o.oo/.ooo", []int{3, 4, 7, 9, 11}},
		{"ooo/o.o/ooo", []int{0, 1, 2, 3, 5, 6, 7, 8}}, {"oooo/...o/.o.o/.ooo", []int{0, 9}},
	} {
		last, ok := impl.LastCells(c.s)
		expect(t, "LastCells "+c.s, []any{last, ok}, c.last, true)
		for _, ball := range numbersOf(c.s, 'o') {
			if !slices.Contains(c.last, ball) {
				failsWithZeros(t, "TakeCell", c.s, ball)
			}
		}
	}
}

// expectOrders compares what is told of the orders of a form with the model.
func expectOrders(t *testing.T, s string, known map[string]buildTold) {
	t.Helper()
	told := buildModel(s, known)
	count, ok := impl.CountOrders(s)
	expect(t, "CountOrders "+s, []any{count, ok}, told.count(), true)
	built, ok := impl.CanBuild(s)
	expect(t, "CanBuild "+s, []any{built, ok}, told.count() > 0, true)
	for _, ball := range numbersOf(s, 'o') {
		count, ok := impl.CountFromCell(s, ball)
		expect(t, fmt.Sprint("CountFromCell ", s, " ", ball), []any{count, ok}, told.counts[ball], true)
	}
	order, ok := impl.FirstOrder(s)
	expect(t, "FirstOrder "+s, []any{order, ok}, told.first, told.count() > 0)
	if ok {
		expectOrder(t, s, order, true)
	}
}

// expectOrder asks for a list of numbers of cells.
func expectOrder(t *testing.T, s string, order []int, want bool) {
	t.Helper()
	is, ok := impl.IsOrder(s, order)
	expect(t, fmt.Sprint("IsOrder ", s, " ", order), []any{is, ok}, want, true)
	firstWays, _ := orderModel(s, order)
	ways, ok := impl.WaysOfOrder(s, order)
	expect(t, fmt.Sprint("WaysOfOrder ", s, " ", order), []any{ways, ok}, firstWays, want)
}

func TestOrdersOfForms(t *testing.T) {
	known := map[string]buildTold{}
	for _, s := range sampleForms() {
		expectOrders(t, s, known)
	}
}

// TestAllListsOfBalls takes the balls of forms in each order.
func TestAllListsOfBalls(t *testing.T) {
	forms := []string{"o.o/ooo", "ooo/o.o", ".ooo./.....", "oo../.oo.", "ooo/.o./.oo", "oo/oo/oo", ".o./ooo/.o."}
	for n := 1; n <= 4; n++ {
		forms = append(forms, fullModel(n)...)
	}
	for _, s := range forms {
		count := 0
		for _, order := range permutationsOf(numbersOf(s, 'o')) {
			_, want := orderModel(s, order)
			expectOrder(t, s, order, want)
			if !want {
				continue
			}
			if count == 0 {
				first, ok := impl.FirstOrder(s)
				expect(t, "FirstOrder "+s, []any{first, ok}, order, true)
			}
			count++
		}
		got, ok := impl.CountOrders(s)
		expect(t, "CountOrders "+s, []any{got, ok}, count, true)
	}
}

// TestAllListsOfCells takes all lists of some cells, with free ones, with cells twice, too short and too long.
func TestAllListsOfCells(t *testing.T) {
	for _, s := range []string{"o", "o.", ".oo", "oo/o.", "../oo", "oo/oo"} {
		cells := len(strings.ReplaceAll(s, "/", ""))
		lists := [][]int{nil}
		for from := 0; from < len(lists) && len(lists[from]) <= 4; from++ {
			_, want := orderModel(s, lists[from])
			expectOrder(t, s, lists[from], want)
			for n := range cells {
				lists = append(lists, append(slices.Clone(lists[from]), n))
			}
		}
	}
}

func TestKnownOrders(t *testing.T) {
	for _, c := range []struct {
		s     string
		order []int
		ways  string
		ok    bool
	}{
		{"o", []int{0}, "", true}, {"oo", []int{0, 1}, "u", true}, {"oo", []int{1, 0}, "u", true},
		// From the middle, and from both ends.
		{"ooo", []int{1, 0, 2}, "uu", true}, {"ooo", []int{1, 2, 0}, "uu", true}, {"ooo", []int{0, 1, 2}, "uu", true}, {"ooo", []int{2, 1, 0}, "uu", true},
		{"ooo", []int{0, 2, 1}, "", false}, {"ooo", []int{2, 0, 1}, "", false},
		// A direction is the first one at the part that is there, not at the whole form.
		{"o/o", []int{0, 1}, "u", true}, {"o/o", []int{1, 0}, "r", true}, {"oo/oo", []int{3, 2, 0, 1}, "urd", true}, {"oo/oo", []int{0, 1, 3, 2}, "uuu", true},
		{"o.o/ooo", []int{0, 3, 4, 5, 2}, "uuud", true}, {"o.o/ooo", []int{4, 3, 5, 2, 0}, "uurr", true}, {"oo./.o./.oo", []int{8, 7, 4, 1, 0}, "urru", true},
		{"ooo/o.o", []int{3, 0, 1, 2, 5}, "ruuu", true}, {"ooo/o.o", []int{1, 0, 2, 3, 5}, "uuuu", true}, {"ooo/..o/ooo", []int{6, 7, 8, 5, 2, 1, 0}, "uurrrr", true},
		{"oo/o./oo", []int{0, 2, 4, 5, 1}, "uuud", true}, {"oo/.o/oo", []int{1, 3, 5, 4, 0}, "uuur", true}, {"ooo/ooo/ooo", []int{0, 1, 2, 3, 4, 6, 7, 8, 5}, "uuuuuuul", true},
		// The middle comes too late, just in time, and first.
		{"ooo/ooo/ooo", []int{0, 1, 2, 5, 8, 7, 6, 3, 4}, "", false}, {"ooo/ooo/ooo", []int{0, 1, 2, 5, 8, 7, 6, 4, 3}, "uuuuuurr", true},
		{"ooo/ooo/ooo", []int{4, 1, 3, 5, 7, 0, 2, 6, 8}, "ruuurduu", true},
		// Too few balls, too many, one twice, a free cell.
		{"ooo", nil, "", false}, {"ooo", []int{}, "", false}, {"o", nil, "", false}, {"ooo", []int{0}, "", false}, {"ooo", []int{0, 1}, "", false},
		{"ooo", []int{0, 1, 2, 2}, "", false}, {"ooo", []int{0, 1, 1}, "", false}, {"ooo", []int{0, 0, 1, 2}, "", false}, {"ooo", []int{0, 1, 2, 0}, "", false},
		{"ooo.", []int{0, 1, 2, 3}, "", false}, {"ooo.", []int{3, 2, 1, 0}, "", false}, {"ooo.", []int{1, 2, 3}, "", false}, {"ooo.", []int{3}, "", false},
	} {
		is, ok := impl.IsOrder(c.s, c.order)
		expect(t, fmt.Sprint("IsOrder ", c.s, " ", c.order), []any{is, ok}, c.ok, true)
		ways, ok := impl.WaysOfOrder(c.s, c.order)
		expect(t, fmt.Sprint("WaysOfOrder ", c.s, " ", c.order), []any{ways, ok}, c.ways, c.ok)
	}
}

func TestLimitOfOrders(t *testing.T) {
	const s = "ooooo/ooooo"
	ten := []int{0, 1, 2, 3, 4, 5, 6, 7, 8, 9}
	expectOrder(t, s, ten, true)
	expectOrder(t, s, []int{0, 1, 2, 3, 4, 5, 6, 7, 9, 8}, true)
	expectOrder(t, s, []int{0, 1, 2, 3, 4, 5, 6, 7, 8, 8}, false)
	expectOrder(t, s, []int{1, 2, 3, 4, 6, 7, 8, 9, 0, 5}, true)
	expectOrder(t, s, []int{0, 2, 1, 3, 4, 5, 6, 7, 8, 9}, false)
	expectOrder(t, "o", ten[:1], true)
	expectOrder(t, s, ten[:9], false)
	// Lists of exactly MaxShape numbers are taken for each form that has such cells.
	expectOrder(t, "oo.../.....", ten, false)
	expectOrder(t, "ooooo", []int{0, 1, 2, 3, 4, 4, 4, 4, 4, 4}, false)
	for last := range 10 {
		failsWithZeros(t, "IsOrder", s, append(slices.Clone(ten), last))
		failsWithZeros(t, "WaysOfOrder", s, append(slices.Clone(ten), last))
	}
}

func TestKnownOrdersCounted(t *testing.T) {
	for _, c := range []struct {
		s     string
		first []int
		from  []int
	}{
		{"o", []int{0}, []int{1}}, {"oo", []int{0, 1}, []int{1, 1}}, {"ooo", []int{0, 1, 2}, []int{1, 2, 1}}, {"oooo", []int{0, 1, 2, 3}, []int{1, 3, 3, 1}},
		{"oo/o.", []int{0, 1, 2}, []int{2, 1, 1}}, {"oo/oo", []int{0, 1, 2, 3}, []int{4, 4, 4, 4}}, {"o.o/ooo", []int{0, 3, 4, 5, 2}, []int{1, 1, 4, 6, 4}},
		{".o./ooo/.o.", []int{1, 4, 3, 5, 7}, []int{6, 6, 24, 6, 6}}, {"../.o", []int{3}, []int{1}}, {"...../.ooo.", []int{6, 7, 8}, []int{1, 2, 1}},
		// Around a hollow each next ball comes to one of the two ends, but the last one.
		{"ooo/o.o/ooo", []int{0, 1, 2, 3, 5, 6, 7, 8}, []int{64, 64, 64, 64, 64, 64, 64, 64}},
	} {
		first, ok := impl.FirstOrder(c.s)
		expect(t, "FirstOrder "+c.s, []any{first, ok}, c.first, true)
		sum := 0
		for i, ball := range numbersOf(c.s, 'o') {
			count, ok := impl.CountFromCell(c.s, ball)
			expect(t, fmt.Sprint("CountFromCell ", c.s, " ", ball), []any{count, ok}, c.from[i], true)
			sum += count
		}
		count, ok := impl.CountOrders(c.s)
		expect(t, "CountOrders "+c.s, []any{count, ok}, sum, true)
	}
	for s, want := range map[string]int{"ooo/ooo/ooo": 28800, "ooo/ooo/ooo/.o.": 160192, "ooooooo": 64} {
		count, ok := impl.CountOrders(s)
		expect(t, "CountOrders "+s, []any{count, ok}, want, true)
	}
}

// TestOrdersLeadThroughForms makes the first order by calls: each cell is added to a form, and can be taken again.
func TestOrdersLeadThroughForms(t *testing.T) {
	for _, s := range sampleForms() {
		order, _ := impl.FirstOrder(s)
		ways, _ := impl.WaysOfOrder(s, order)
		part := withText(strings.ReplaceAll(s, "o", "."), order[0], "o")
		for i, cell := range order[1:] {
			can, ok := impl.CanAdd(part, cell, ways[i:i+1])
			expect(t, fmt.Sprint("CanAdd ", part, " ", cell), []any{can, ok}, true, true)
			next, ok := impl.AddCell(part, cell)
			if !ok {
				t.Fatalf("the order %v of %q ends with %q", order, s, part)
			}
			back, ok := impl.TakeCell(next, cell)
			expect(t, fmt.Sprint("TakeCell ", next, " ", cell), []any{back, ok}, part, true)
			part = next
		}
		expect(t, "the end of the order of "+s, []any{part}, s)
	}
}

// TestFreeRowsAndColumnsDoNotMatter compares forms with those that fill their trays.
func TestFreeRowsAndColumnsDoNotMatter(t *testing.T) {
	for n := 1; n <= 5; n++ {
		for _, s := range fullModel(n) {
			w := strings.Index(s+"/", "/")
			want, _ := impl.CountOrders(s)
			wide := strings.ReplaceAll("."+s+".", "/", "./.")
			for _, wider := range []string{wide, freeText(w, 1) + "/" + s, s + "/" + freeText(w, 1), freeText(w+2, 1) + "/" + wide + "/" + freeText(w+2, 1)} {
				count, ok := impl.CountOrders(wider)
				expect(t, "CountOrders "+wider, []any{count, ok}, want, true)
			}
		}
	}
}

func TestTurnedForms(t *testing.T) {
	known := map[string]buildTold{}
	for _, s := range sampleForms() {
		turned, ok := impl.TurnForm(s)
		expect(t, "TurnForm "+s, []any{turned, ok}, eightTrays(s)[6], true)
		count, ok := impl.CountOrders(turned)
		expect(t, "CountOrders "+turned, []any{count, ok}, buildModel(s, known).count(), true)
		back := turned
		for range 3 {
			back, _ = impl.TurnForm(back)
		}
		expect(t, "four times TurnForm "+s, []any{back}, s)
		for _, cell := range numbersOf(s, '.') {
			w, h := strings.Index(s+"/", "/"), strings.Count(s, "/")+1
			ways, ok := impl.FreeWays(turned, cell%w*h+h-1-cell/w)
			want := []byte(turnedModel(waysModel(s, cell), 1))
			slices.SortFunc(want, func(a, b byte) int { return strings.IndexByte("urdl", a) - strings.IndexByte("urdl", b) })
			expect(t, fmt.Sprint("FreeWays of the turned ", s, " ", cell), []any{ways, ok}, string(want), true)
		}
	}
	for s, want := range map[string]string{"o": "o", "oo": "o/o", "o./oo": "oo/o.", "ooo/..o": ".o/.o/oo", "...o/....": "../../../.o"} {
		turned, ok := impl.TurnForm(s)
		expect(t, "TurnForm "+s, []any{turned, ok}, want, true)
	}
}

func TestFormsCounted(t *testing.T) {
	known := map[string]buildTold{}
	for n, want := range map[int]int{1: 1, 2: 2, 3: 6, 4: 19, 5: 63} {
		forms := fullModel(n)
		count, ok := impl.CountFull(n)
		expect(t, fmt.Sprint("CountFull ", n), []any{count, ok, len(forms)}, want, true, want)
		built := 0
		for _, s := range forms {
			if buildModel(s, known).first != nil {
				built++
			}
		}
		count, ok = impl.CountBuilt(n)
		expect(t, fmt.Sprint("CountBuilt ", n), []any{count, ok}, built, true)
	}
}

// TestFormsWithHollowsAreBuilt has forms with free cells, or with balls, that have no free way in the end.
// What is within comes in before the way is closed: the model finds orders of all these forms, too.
func TestFormsWithHollowsAreBuilt(t *testing.T) {
	known := map[string]buildTold{}
	for _, s := range append(fullModel(7),
		"ooo/o.o/ooo", "oooo/o..o/oooo", "ooo/o.o/o.o/ooo", "ooo/ooo/ooo", "oooo/oo.o/.ooo", "ooo./o.oo/oooo", "oooo/o..o/oo.o", "ooo/o.o/oo./.oo",
	) {
		expectOrders(t, s, known)
		built, ok := impl.CanBuild(s)
		expect(t, "CanBuild "+s, []any{built, ok}, true, true)
	}
}
