package tests

import (
	"fmt"
	"slices"
	"strings"
	"testing"

	"loop.example/g01199/impl"
)

// The tests of promise 8: classes are means over moves, still trays are counted, and corners are staircases.

// The most trays that a call counts.
const mostTrays = 1_000_000_000_000_000

func TestLimitsOfCounts(t *testing.T) {
	expect(t, "MaxListed", []any{impl.MaxListed}, 200)
	expect(t, "MaxLooked", []any{impl.MaxLooked}, 16)
}

func TestExampleOfCounts(t *testing.T) {
	n, ok := impl.CountTrays(2, 2, 1, 0)
	expect(t, "CountTrays", []any{n, ok}, 4, true)
	n, ok = impl.CountClasses(2, 2, 1, 0)
	expect(t, "CountClasses", []any{n, ok}, 1, true)
	for move, want := range []int{4, 0, 0, 0, 0, 2, 0, 2} {
		n, ok = impl.CountKept(2, 2, 1, 0, move)
		expect(t, fmt.Sprint("CountKept ", move), []any{n, ok}, want, true)
	}
	for _, dir := range []string{"u", "r", "d", "l"} {
		n, ok = impl.CountStill("../..", dir)
		expect(t, "CountStill "+dir, []any{n, ok}, 9, true)
	}
	n, ok = impl.CountCorner("../..", "ul")
	expect(t, "CountCorner", []any{n, ok}, 6, true)
}

func TestBinomials(t *testing.T) {
	row := []int{1}
	for n := range 37 {
		for k, want := range row {
			count, ok := impl.Binomial(n, k)
			expect(t, fmt.Sprint("Binomial ", n, " ", k), []any{count, ok}, want, true)
		}
		next := []int{1}
		for k := 1; k <= n; k++ {
			next = append(next, row[k-1]+row[k])
		}
		row = append(next, 1)
	}
	for _, c := range [][3]int{{0, 0, 1}, {1, 0, 1}, {1, 1, 1}, {5, 2, 10}, {36, 0, 1}, {36, 1, 36}, {36, 35, 36}, {36, 36, 1}, {36, 18, 9075135300}} {
		count, ok := impl.Binomial(c[0], c[1])
		expect(t, fmt.Sprint("Binomial ", c), []any{count, ok}, c[2], true)
	}
}

func TestMovesThatFit(t *testing.T) {
	for w := 1; w <= 7; w++ {
		for h := 1; h <= 7 && w*h <= 36; h++ {
			moves, ok := impl.MovesOf(w, h)
			expect(t, fmt.Sprint("MovesOf ", w, " ", h), []any{moves, ok}, fittingModel(w, h), true)
		}
	}
	for _, c := range []struct {
		w, h  int
		moves []int
	}{
		{1, 1, []int{0, 1, 2, 3, 4, 5, 6, 7}}, {6, 6, []int{0, 1, 2, 3, 4, 5, 6, 7}},
		{1, 2, []int{0, 2, 4, 6}}, {7, 1, []int{0, 2, 4, 6}}, {5, 7, []int{0, 2, 4, 6}}, {6, 5, []int{0, 2, 4, 6}},
	} {
		moves, ok := impl.MovesOf(c.w, c.h)
		expect(t, fmt.Sprint("MovesOf ", c.w, " ", c.h), []any{moves, ok}, c.moves, true)
	}
}

// TestMovesTurnAndMirror holds the moves of the model against the program's own turning and mirroring.
func TestMovesTurnAndMirror(t *testing.T) {
	for _, s := range greatTrays() {
		for move := range 8 {
			want := s
			if move >= 4 {
				want, _ = impl.MirrorTray(want)
			}
			for range move % 4 {
				want, _ = impl.TurnTray(want)
			}
			expect(t, fmt.Sprint("move ", move, " of ", s), []any{behindMove(s, move)}, want)
		}
	}
}

// expectFilling compares what is told of a filling with the trays of the model.
func expectFilling(t *testing.T, asked fillingAsked, told fillingTold) {
	t.Helper()
	w, h, walls, balls := asked.w, asked.h, asked.walls, asked.balls
	trays, ok := impl.CountTrays(w, h, walls, balls)
	expect(t, fmt.Sprint("CountTrays ", asked), []any{trays, ok}, told.trays, true)
	moves := fittingModel(w, h)
	for move := range 8 {
		if !slices.Contains(moves, move) {
			failsWithZeros(t, "CountKept", w, h, walls, balls, move)
			continue
		}
		kept, ok := impl.CountKept(w, h, walls, balls, move)
		expect(t, fmt.Sprint("CountKept ", asked, " ", move), []any{kept, ok}, told.kept[move], true)
	}
	classes, ok := impl.CountClasses(w, h, walls, balls)
	expect(t, fmt.Sprint("CountClasses ", asked), []any{classes, ok}, len(told.classes), true)
	if told.trays > 5000 || len(told.classes) > 200 {
		failsWithZeros(t, "ListClasses", w, h, walls, balls)
		return
	}
	list, ok := impl.ListClasses(w, h, walls, balls)
	expect(t, fmt.Sprint("ListClasses ", asked), []any{list, ok}, told.classes, true)
}

func TestAllSmallTraysAreCounted(t *testing.T) {
	for _, size := range [][2]int{
		{1, 1}, {2, 1}, {1, 2}, {3, 1}, {1, 3}, {4, 1}, {1, 4}, {5, 1}, {1, 5}, {6, 1}, {1, 6}, {7, 1}, {1, 7},
		{2, 2}, {3, 2}, {2, 3}, {4, 2}, {2, 4}, {3, 3},
	} {
		fillings := fillingsModel(size[0], size[1])
		cells := size[0] * size[1]
		expect(t, fmt.Sprint("fillings of ", size), []any{len(fillings)}, (cells+1)*(cells+2)/2)
		for asked, told := range fillings {
			expectFilling(t, asked, *told)
		}
	}
}

func TestGreaterTraysAreCounted(t *testing.T) {
	for _, asked := range []fillingAsked{
		{4, 3, 2, 1}, {3, 4, 1, 9}, {4, 4, 1, 1}, {4, 4, 2, 0}, {4, 4, 0, 3}, {4, 4, 13, 3}, {4, 4, 4, 0}, {5, 2, 4, 0}, {2, 5, 3, 3}, {5, 5, 1, 1}, {5, 5, 23, 1},
		{6, 6, 0, 0}, {6, 6, 36, 0}, {6, 6, 0, 36}, {6, 6, 1, 0}, {6, 6, 0, 1}, {6, 6, 1, 1}, {6, 6, 2, 0}, {6, 6, 0, 2}, {6, 6, 35, 1}, {6, 6, 34, 2}, {6, 6, 1, 34},
		{7, 5, 1, 1}, {7, 5, 2, 0}, {5, 7, 0, 2}, {5, 7, 33, 1}, {7, 5, 35, 0}, {7, 3, 2, 1}, {3, 7, 0, 3}, {6, 5, 1, 1}, {5, 6, 28, 1}, {7, 4, 0, 2},
	} {
		expectFilling(t, asked, fillingModel(asked))
	}
}

// expectUncounted has more trays than a call counts.
func expectUncounted(t *testing.T, asked fillingAsked) {
	t.Helper()
	failsWithZeros(t, "CountTrays", asked.w, asked.h, asked.walls, asked.balls)
	for move := range 8 {
		failsWithZeros(t, "CountKept", asked.w, asked.h, asked.walls, asked.balls, move)
	}
	failsWithZeros(t, "CountClasses", asked.w, asked.h, asked.walls, asked.balls)
	failsWithZeros(t, "ListClasses", asked.w, asked.h, asked.walls, asked.balls)
}

// TestClassesAreMeansOverMoves takes all numbers of walls and balls of all sizes.
func TestClassesAreMeansOverMoves(t *testing.T) {
	known := divider{}
	counted, uncounted := 0, 0
	for _, asked := range allFillings() {
		all := known.divided(asked.w*asked.h, asked.walls, asked.balls)
		if all > mostTrays {
			expectUncounted(t, asked)
			uncounted++
			continue
		}
		counted++
		trays, ok := impl.CountTrays(asked.w, asked.h, asked.walls, asked.balls)
		expect(t, fmt.Sprint("CountTrays ", asked), []any{trays, ok}, all, true)
		sum := 0
		moves := fittingModel(asked.w, asked.h)
		for _, move := range moves {
			kept, ok := impl.CountKept(asked.w, asked.h, asked.walls, asked.balls, move)
			expect(t, fmt.Sprint("CountKept ", asked, " ", move), []any{kept, ok}, known.keptModel(asked, move), true)
			sum += kept
		}
		classes, ok := impl.CountClasses(asked.w, asked.h, asked.walls, asked.balls)
		expect(t, fmt.Sprint("CountClasses ", asked), []any{classes * len(moves), ok}, sum, true)
	}
	if counted < 5000 || uncounted < 50 {
		t.Errorf("%d numbers of walls and balls are counted, %d are not", counted, uncounted)
	}
}

func TestKnownCountsOfTrays(t *testing.T) {
	for _, c := range []struct {
		asked          fillingAsked
		trays, classes int
	}{
		{fillingAsked{1, 1, 0, 0}, 1, 1}, {fillingAsked{1, 1, 1, 0}, 1, 1}, {fillingAsked{1, 1, 0, 1}, 1, 1},
		{fillingAsked{1, 2, 1, 0}, 2, 1}, {fillingAsked{2, 1, 1, 1}, 2, 1}, {fillingAsked{7, 1, 1, 0}, 7, 4}, {fillingAsked{1, 7, 0, 2}, 21, 12},
		{fillingAsked{2, 2, 1, 1}, 12, 2}, {fillingAsked{2, 2, 0, 2}, 6, 2}, {fillingAsked{3, 2, 1, 0}, 6, 2}, {fillingAsked{2, 3, 0, 1}, 6, 2},
		{fillingAsked{3, 3, 0, 1}, 9, 3}, {fillingAsked{3, 3, 2, 0}, 36, 8}, {fillingAsked{3, 3, 0, 3}, 84, 16}, {fillingAsked{3, 3, 4, 0}, 126, 23},
		{fillingAsked{6, 6, 36, 0}, 1, 1}, {fillingAsked{6, 6, 0, 36}, 1, 1}, {fillingAsked{6, 6, 0, 0}, 1, 1}, {fillingAsked{6, 6, 1, 0}, 36, 6},
		{fillingAsked{7, 5, 18, 17}, 4537567650, 1134474924},
	} {
		trays, ok := impl.CountTrays(c.asked.w, c.asked.h, c.asked.walls, c.asked.balls)
		expect(t, fmt.Sprint("CountTrays ", c.asked), []any{trays, ok}, c.trays, true)
		classes, ok := impl.CountClasses(c.asked.w, c.asked.h, c.asked.walls, c.asked.balls)
		expect(t, fmt.Sprint("CountClasses ", c.asked), []any{classes, ok}, c.classes, true)
	}
}

// TestLimitOfTrays has the numbers of trays that are nearest to 10^15: there are no trays of exactly so many.
func TestLimitOfTrays(t *testing.T) {
	for _, asked := range allFillings() {
		all := dividedModel(asked.w*asked.h, asked.walls, asked.balls)
		if all == mostTrays || all > 954667933018800 && all < 1041455926929600 {
			t.Errorf("there are %d trays of %v", all, asked)
		}
	}
	for _, asked := range []fillingAsked{{5, 7, 10, 12}, {7, 5, 12, 13}, {7, 5, 13, 10}} {
		n, ok := impl.CountTrays(asked.w, asked.h, asked.walls, asked.balls)
		expect(t, fmt.Sprint("CountTrays ", asked), []any{n, ok}, 954667933018800, true)
		n, ok = impl.CountKept(asked.w, asked.h, asked.walls, asked.balls, 0)
		expect(t, fmt.Sprint("CountKept ", asked), []any{n, ok}, 954667933018800, true)
		n, ok = impl.CountClasses(asked.w, asked.h, asked.walls, asked.balls)
		expect(t, fmt.Sprint("CountClasses ", asked), []any{n > 954667933018800/4, n < 954667933018800/4+1000000000, ok}, true, true, true)
	}
	for _, asked := range []fillingAsked{{5, 7, 11, 11}, {7, 5, 11, 13}, {5, 7, 13, 11}, {6, 6, 12, 12}, {6, 6, 10, 13}} {
		expectUncounted(t, asked)
	}
}

// TestTraysThatMovesKeep has moves that fit squares alone: quarters, and both that mirror by a diagonal.
func TestTraysThatMovesKeep(t *testing.T) {
	for _, c := range []struct {
		asked fillingAsked
		kept  [8]int
	}{
		{fillingAsked{1, 1, 1, 0}, [8]int{1, 1, 1, 1, 1, 1, 1, 1}},
		{fillingAsked{2, 2, 1, 1}, [8]int{12, 0, 0, 0, 0, 2, 0, 2}},
		{fillingAsked{2, 2, 0, 4}, [8]int{1, 1, 1, 1, 1, 1, 1, 1}},
		{fillingAsked{2, 2, 2, 2}, [8]int{6, 0, 2, 0, 2, 2, 2, 2}},
		{fillingAsked{3, 3, 1, 0}, [8]int{9, 1, 1, 1, 3, 3, 3, 3}},
		{fillingAsked{3, 3, 1, 4}, [8]int{630, 2, 6, 2, 18, 18, 18, 18}},
		{fillingAsked{3, 3, 2, 0}, [8]int{36, 0, 4, 0, 6, 6, 6, 6}},
		{fillingAsked{4, 4, 4, 0}, [8]int{1820, 4, 28, 4, 28, 52, 28, 52}},
		{fillingAsked{6, 6, 0, 1}, [8]int{36, 0, 0, 0, 0, 6, 0, 6}},
		{fillingAsked{3, 2, 1, 0}, [8]int{0: 6, 2: 0, 4: 2, 6: 0}},
		{fillingAsked{2, 3, 1, 0}, [8]int{0: 6, 2: 0, 4: 0, 6: 2}},
		{fillingAsked{7, 1, 1, 2}, [8]int{0: 105, 2: 3, 4: 3, 6: 105}},
		{fillingAsked{1, 7, 1, 2}, [8]int{0: 105, 2: 3, 4: 105, 6: 3}},
	} {
		for move := range 8 {
			if c.asked.w != c.asked.h && move%2 == 1 {
				failsWithZeros(t, "CountKept", c.asked.w, c.asked.h, c.asked.walls, c.asked.balls, move)
				continue
			}
			kept, ok := impl.CountKept(c.asked.w, c.asked.h, c.asked.walls, c.asked.balls, move)
			expect(t, fmt.Sprint("CountKept ", c.asked, " ", move), []any{kept, ok}, c.kept[move], true)
		}
	}
}

// TestListedClasses adds up the trays of all classes of all fillings for which they are listed.
func TestListedClasses(t *testing.T) {
	most, least := 0, mostTrays
	for _, asked := range allFillings() {
		trays, _ := impl.CountTrays(asked.w, asked.h, asked.walls, asked.balls)
		classes, ok := impl.CountClasses(asked.w, asked.h, asked.walls, asked.balls)
		if !ok {
			continue
		}
		if classes > 200 || trays > 5000 {
			failsWithZeros(t, "ListClasses", asked.w, asked.h, asked.walls, asked.balls)
			least = min(least, classes)
			continue
		}
		most = max(most, classes)
		if trays > 300 && (asked.walls+asked.w)%3 > 0 {
			continue
		}
		list, ok := impl.ListClasses(asked.w, asked.h, asked.walls, asked.balls)
		expect(t, fmt.Sprint("ListClasses ", asked), []any{len(list), slices.IsSorted(list), ok}, classes, true, true)
		different := map[string]bool{}
		for _, s := range list {
			for _, move := range fittingModel(asked.w, asked.h) {
				behind := behindMove(s, move)
				different[behind] = true
				expect(t, "ListClasses has "+s, []any{s <= behind}, true)
			}
		}
		expect(t, fmt.Sprint("trays of all classes of ", asked), []any{len(different)}, trays)
	}
	// No numbers of walls and balls have exactly 200 classes.
	expect(t, "numbers of classes next to MaxListed", []any{most, least}, 198, 208)
}

func TestLimitsOfListedClasses(t *testing.T) {
	for _, asked := range []fillingAsked{{6, 2, 5, 0}, {2, 6, 0, 7}, {6, 2, 7, 5}} {
		list, ok := impl.ListClasses(asked.w, asked.h, asked.walls, asked.balls)
		expect(t, fmt.Sprint("ListClasses ", asked), []any{len(list), ok}, 198, true)
	}
	for _, asked := range []fillingAsked{
		// 208 and 212 classes.
		{3, 4, 0, 5}, {4, 3, 7, 0}, {2, 5, 1, 3}, {5, 2, 6, 3},
		// 4845 trays, 5005, and more than are counted.
		{4, 5, 4, 0}, {5, 4, 0, 16}, {3, 5, 6, 0}, {5, 3, 0, 9}, {6, 6, 12, 12}, {6, 6, 18, 0},
	} {
		failsWithZeros(t, "ListClasses", asked.w, asked.h, asked.walls, asked.balls)
	}
}

func TestKnownClassesOfTrays(t *testing.T) {
	for _, c := range []struct {
		asked   fillingAsked
		classes []string
	}{
		{fillingAsked{2, 2, 1, 0}, []string{"#./.."}},
		// Classes of one tray.
		{fillingAsked{1, 1, 0, 0}, []string{"."}}, {fillingAsked{1, 1, 1, 0}, []string{"#"}}, {fillingAsked{1, 1, 0, 1}, []string{"o"}},
		{fillingAsked{6, 6, 0, 0}, []string{freeText(6, 6)}}, {fillingAsked{7, 5, 35, 0}, []string{strings.ReplaceAll(freeText(7, 5), ".", "#")}},
		{fillingAsked{5, 7, 0, 35}, []string{strings.ReplaceAll(freeText(5, 7), ".", "o")}},
		{fillingAsked{3, 3, 1, 8}, []string{"#oo/ooo/ooo", "o#o/ooo/ooo", "ooo/o#o/ooo"}},
		// Moves that do not fit make no trays, even if their texts were before these.
		{fillingAsked{1, 2, 1, 0}, []string{"#/."}}, {fillingAsked{2, 1, 1, 0}, []string{"#."}}, {fillingAsked{1, 3, 1, 1}, []string{"#/./o", "#/o/.", "./#/o"}},
		{fillingAsked{2, 3, 1, 1}, []string{"#./../.o", "#./../o.", "#./.o/..", "#./o./..", "#o/../..", "../#./.o", "../#./o.", "../#o/.."}},
		{fillingAsked{2, 2, 1, 1}, []string{"#./.o", "#./o."}}, {fillingAsked{2, 2, 0, 2}, []string{"../oo", ".o/o."}},
	} {
		list, ok := impl.ListClasses(c.asked.w, c.asked.h, c.asked.walls, c.asked.balls)
		expect(t, fmt.Sprint("ListClasses ", c.asked), []any{list, ok}, c.classes, true)
		expectFilling(t, c.asked, fillingModel(c.asked))
	}
}

func TestSmallTraysThatAreStill(t *testing.T) {
	for _, s := range wallTrays() {
		all := ballsModel(s)
		expectStates(t, s, all)
		for _, dir := range []string{"u", "r", "d", "l"} {
			expectStill(t, s, dir, all)
		}
		expectCorners(t, s, all)
	}
}

// expectStates counts the trays of the model with each number of balls.
func expectStates(t *testing.T, s string, all []ballsTold) {
	t.Helper()
	counts := make([]int, opensOf(s)+1)
	for _, told := range all {
		counts[told.balls]++
	}
	for balls, want := range counts {
		states, ok := impl.CountStates(s, balls)
		expect(t, fmt.Sprint("CountStates ", s, " ", balls), []any{states, ok}, want, true)
	}
}

// expectStill compares the counts in one direction, and what becomes of trays with so many balls.
func expectStill(t *testing.T, s, dir string, all []ballsTold) {
	t.Helper()
	cells := opensOf(s)
	counts, trays, moved := make([]int, cells+1), make([]int, cells+1), make([]int, cells+1)
	behind := make([]map[string]bool, cells+1)
	sum := 0
	for _, told := range all {
		if behind[told.balls] == nil {
			behind[told.balls] = map[string]bool{}
		}
		behind[told.balls][told.tilted[dir]] = true
		trays[told.balls]++
		moved[told.balls] += told.moved[dir]
		if strings.Contains(told.still, dir) {
			counts[told.balls]++
			sum++
		}
	}
	still, ok := impl.CountStill(s, dir)
	expect(t, "CountStill "+s+" "+dir, []any{still, ok}, sum, true)
	for balls := range cells + 1 {
		what := fmt.Sprint(s, " ", dir, " ", balls)
		still, ok := impl.CountStillWith(s, dir, balls)
		expect(t, "CountStillWith "+what, []any{still, ok}, counts[balls], true)
		tilted, ok := impl.CountTilted(s, dir, balls)
		expect(t, "CountTilted "+what, []any{tilted, ok}, len(behind[balls]), true)
		over, under := ratioModel(moved[balls], trays[balls])
		top, bottom, ok := impl.MeanMoved(s, dir, balls)
		expect(t, "MeanMoved "+what, []any{top, bottom, ok}, over, under, true)
	}
}

// expectCorners takes all texts of different directions.
func expectCorners(t *testing.T, s string, all []ballsTold) {
	t.Helper()
	known := map[string][]string{}
	for _, dirs := range textsOfDirections() {
		sorted := strings.Split(dirs, "")
		slices.Sort(sorted)
		key := strings.Join(sorted, "")
		if known[key] == nil {
			known[key] = stillTrays(all, key)
		}
		want := known[key]
		count, ok := impl.CountCorner(s, dirs)
		expect(t, "CountCorner "+s+" "+dirs, []any{count, ok}, len(want), true)
		if len(want) > 200 {
			failsWithZeros(t, "AllStill", s, dirs)
			continue
		}
		trays, ok := impl.AllStill(s, dirs)
		expect(t, "AllStill "+s+" "+dirs, []any{trays, ok}, want, true)
	}
}

func TestTraysWithoutBallsAreOneOfStillOnes(t *testing.T) {
	for _, s := range []string{"#", "##", "#/#", "###/###", strings.ReplaceAll(freeText(6, 6), ".", "#")} {
		expectStill(t, s, "u", ballsModel(s))
		for _, dirs := range textsOfDirections() {
			count, ok := impl.CountCorner(s, dirs)
			expect(t, "CountCorner "+s+" "+dirs, []any{count, ok}, 1, true)
			trays, ok := impl.AllStill(s, dirs)
			expect(t, "AllStill "+s+" "+dirs, []any{trays, ok}, []string{s}, true)
		}
	}
}

// TestStretchesOfOneCell has balls that cannot move.
func TestStretchesOfOneCell(t *testing.T) {
	for _, s := range []string{".", ".#.#.", ".#.#./#.#.#", "#.#.#.#/.#.#.#.", ".#.#.#/#.#.#./.#.#.#/#.#.#./.#.#.#"} {
		cells := opensOf(s)
		for _, dir := range []string{"u", "r", "d", "l"} {
			still, ok := impl.CountStill(s, dir)
			expect(t, "CountStill "+s+" "+dir, []any{still, ok}, 1<<cells, true)
			for balls := range cells + 1 {
				want := dividedModel(cells, balls, 0)
				count, ok := impl.CountStillWith(s, dir, balls)
				expect(t, fmt.Sprint("CountStillWith ", s, " ", dir, " ", balls), []any{count, ok}, want, true)
				if cells <= 16 {
					over, under, ok := impl.MeanMoved(s, dir, balls)
					expect(t, fmt.Sprint("MeanMoved ", s, " ", dir, " ", balls), []any{over, under, ok}, 0, 1, true)
				}
			}
		}
		if cells <= 16 {
			count, ok := impl.CountCorner(s, "rdlu")
			expect(t, "CountCorner "+s, []any{count, ok}, 1<<cells, true)
		}
	}
}

// TestGreatTraysThatAreStill goes by stretches: there are too many trays to make.
func TestGreatTraysThatAreStill(t *testing.T) {
	for _, s := range greatWalls() {
		cells := opensOf(s)
		for _, dir := range []string{"u", "r", "d", "l"} {
			stretches := stretchesModel(s, dir)
			product, sum := 1, 0
			for _, stretch := range stretches {
				product *= len(stretch) + 1
			}
			known := map[[2]int]int{}
			for balls := range cells + 1 {
				want := stillWithModel(stretches, balls, known)
				what := fmt.Sprint(s, " ", dir, " ", balls)
				count, ok := impl.CountStillWith(s, dir, balls)
				expect(t, "CountStillWith "+what, []any{count, ok}, want, true)
				count, ok = impl.CountTilted(s, dir, balls)
				expect(t, "CountTilted "+what, []any{count, ok}, want, true)
				sum += want
			}
			count, ok := impl.CountStill(s, dir)
			expect(t, "CountStill "+s+" "+dir, []any{count, sum, ok}, product, product, true)
		}
		for balls := range cells + 1 {
			count, ok := impl.CountStates(s, balls)
			expect(t, fmt.Sprint("CountStates ", s, " ", balls), []any{count, ok}, dividedModel(cells, balls, 0), true)
		}
	}
}

func TestKnownCountsOfStillTrays(t *testing.T) {
	for _, c := range []struct {
		s, dir string
		counts []int
	}{
		{".", "u", []int{1, 1}}, {"#", "r", []int{1}}, {"...", "r", []int{1, 1, 1, 1}}, {"...", "u", []int{1, 3, 3, 1}}, {"./.", "d", []int{1, 1, 1}},
		{"../..", "l", []int{1, 2, 3, 2, 1}}, {".#./...", "d", []int{1, 3, 5, 5, 3, 1}},
	} {
		for balls, want := range c.counts {
			count, ok := impl.CountStillWith(c.s, c.dir, balls)
			expect(t, fmt.Sprint("CountStillWith ", c.s, " ", c.dir, " ", balls), []any{count, ok}, want, true)
		}
	}
	for _, c := range []struct {
		s, dir string
		count  int
	}{
		{freeText(6, 6), "u", 117649}, {freeText(6, 6), "l", 117649}, {freeText(7, 5), "d", 279936}, {freeText(7, 5), "r", 32768},
		{"..#..#./..#..#./..#..#./..#..#./..#..#.", "r", 1889568}, {"#", "u", 1}, {".", "u", 2}, {"......#", "l", 7}, {".......", "u", 128},
	} {
		count, ok := impl.CountStill(c.s, c.dir)
		expect(t, "CountStill "+c.s+" "+c.dir, []any{count, ok}, c.count, true)
	}
}

// TestTraysBeforeStillOnes shares all trays out to those that become of them.
func TestTraysBeforeStillOnes(t *testing.T) {
	for _, s := range []string{".", "#.#", "...", "../..", ".../.#.", "..#/#../...", "..../.##.", ".../.../..."} {
		for _, dir := range []string{"u", "r", "d", "l"} {
			still, ok := impl.AllStill(s, dir)
			if !ok {
				t.Fatalf("AllStill fails for %s", s)
			}
			before, with, moved := map[int]int{}, map[int]int{}, map[int]int{}
			for _, tray := range still {
				balls, _ := impl.CountCells(tray, "o")
				count, _ := impl.CountBefore(tray, dir)
				before[balls] += count
				with[balls]++
			}
			for _, tray := range ballTexts(s) {
				balls, _ := impl.CountCells(tray, "o")
				cells, _ := impl.MovedCells(tray, dir)
				moved[balls] += cells
			}
			for balls := range opensOf(s) + 1 {
				states, _ := impl.CountStates(s, balls)
				count, _ := impl.CountTilted(s, dir, balls)
				over, under, _ := impl.MeanMoved(s, dir, balls)
				expect(t, fmt.Sprint("counts of ", s, " ", dir, " ", balls), []any{states, count, over * states}, before[balls], with[balls], under*moved[balls])
			}
		}
	}
}

// TestCornersAreStaircases has one number of balls in each row, never more than in the row before.
func TestCornersAreStaircases(t *testing.T) {
	for w := 1; w <= 7; w++ {
		for h := 1; h <= 7 && w*h <= 16; h++ {
			s := freeText(w, h)
			for dirs, want := range map[string]int{
				"ul": dividedModel(w+h, w, 0), "dr": dividedModel(w+h, w, 0), "ru": dividedModel(w+h, w, 0), "ld": dividedModel(w+h, w, 0),
				"": 1 << (w * h), "ud": 1 << w, "lr": 1 << h, "udr": w + 1, "lud": w + 1, "url": h + 1, "lrd": h + 1, "urdl": 2, "ldru": 2,
			} {
				count, ok := impl.CountCorner(s, dirs)
				expect(t, "CountCorner "+s+" "+dirs, []any{count, ok}, want, true)
				trays, ok := impl.AllStill(s, dirs)
				if want > 200 {
					failsWithZeros(t, "AllStill", s, dirs)
				} else {
					expect(t, "AllStill "+s+" "+dirs, []any{len(trays), ok}, want, true)
				}
			}
		}
	}
}

// TestStillInAllDirections has parts that are full of balls or free.
func TestStillInAllDirections(t *testing.T) {
	for _, s := range append(wallTrays(), greatWalls()...) {
		if opensOf(s) > 16 {
			continue
		}
		parts, _ := impl.PartsOf(s)
		count, ok := impl.CountCorner(s, "lrdu")
		expect(t, "CountCorner "+s, []any{count, ok}, 1<<len(parts), true)
	}
}

func TestKnownStillTrays(t *testing.T) {
	for _, c := range []struct {
		s, dirs string
		trays   []string
	}{
		{".", "", []string{".", "o"}}, {".", "u", []string{".", "o"}}, {"#", "", []string{"#"}}, {"#", "urdl", []string{"#"}},
		{"..", "", []string{"..", ".o", "o.", "oo"}}, {"..", "r", []string{"..", ".o", "oo"}}, {"..", "l", []string{"..", "o.", "oo"}}, {"..", "lr", []string{"..", "oo"}},
		{"..", "ud", []string{"..", ".o", "o.", "oo"}}, {"./.", "u", []string{"./.", "o/.", "o/o"}}, {"./.", "ud", []string{"./.", "o/o"}},
		{"../..", "ul", []string{"../..", "o./..", "o./o.", "oo/..", "oo/o.", "oo/oo"}}, {"../..", "lu", []string{"../..", "o./..", "o./o.", "oo/..", "oo/o.", "oo/oo"}},
		{"../..", "rd", []string{"../..", "../.o", "../oo", ".o/.o", ".o/oo", "oo/oo"}}, {"../..", "urdl", []string{"../..", "oo/oo"}},
		{".#./...", "dr", []string{".#./...", ".#./..o", ".#./.oo", ".#./ooo", ".#o/..o", ".#o/.oo", ".#o/ooo", "o#./ooo", "o#o/ooo"}},
		{".#.", "lrud", []string{".#.", ".#o", "o#.", "o#o"}},
	} {
		trays, ok := impl.AllStill(c.s, c.dirs)
		expect(t, "AllStill "+c.s+" "+c.dirs, []any{trays, ok}, c.trays, true)
		count, ok := impl.CountCorner(c.s, c.dirs)
		expect(t, "CountCorner "+c.s+" "+c.dirs, []any{count, ok}, len(c.trays), true)
		expectCorners(t, c.s, ballsModel(c.s))
	}
}

// TestLimitOfCellsThatAreLookedAt has trays of 16 cells that are no walls, and of 17.
func TestLimitOfCellsThatAreLookedAt(t *testing.T) {
	for _, c := range []struct {
		s, dirs string
		count   int
	}{
		{freeText(4, 4), "", 65536}, {freeText(4, 4), "u", 625}, {freeText(4, 4), "ul", 70}, {freeText(4, 4), "drul", 2},
		{"......./......#/...####", "rl", 8}, {"......./......#/...####", "ud", 128}, {".#.#.#/#.#.#./.#.#.#/#.#.#./.#.#.#/#####.", "dl", 65536},
	} {
		expect(t, "cells of "+c.s, []any{opensOf(c.s), impl.IsTray(c.s)}, 16, true)
		count, ok := impl.CountCorner(c.s, c.dirs)
		expect(t, "CountCorner "+c.s+" "+c.dirs, []any{count, ok}, c.count, true)
		trays, ok := impl.AllStill(c.s, c.dirs)
		expect(t, "AllStill "+c.s+" "+c.dirs, []any{len(trays) == c.count, ok}, c.count <= 200, c.count <= 200)
	}
	for _, s := range []string{"...../...../...../..###", "......./......./...####", "....../....../.....#", ".#.#.#/#.#.#./.#.#.#/#.#.#./.#.#.#/####..", ".#.#.#./#.#.#.#/.#.#.#./#.#.#.#/.#.#.##", freeText(6, 3), freeText(6, 6)} {
		expect(t, "cells of "+s, []any{opensOf(s) >= 17, impl.IsTray(s)}, true, true)
		for _, dirs := range textsOfDirections() {
			failsWithZeros(t, "CountCorner", s, dirs)
			failsWithZeros(t, "AllStill", s, dirs)
		}
		for _, dir := range []string{"u", "r", "d", "l"} {
			for balls := range opensOf(s) + 1 {
				failsWithZeros(t, "MeanMoved", s, dir, balls)
				_, ok := impl.CountStillWith(s, dir, balls)
				expect(t, "CountStillWith "+s, []any{ok}, true)
			}
			_, ok := impl.CountStill(s, dir)
			expect(t, "CountStill "+s, []any{ok}, true)
		}
	}
}

// TestLimitOfStillTrays has 199, 200, 201 and more trays that are still.
func TestLimitOfStillTrays(t *testing.T) {
	for _, c := range []struct {
		s, dirs string
		count   int
	}{
		{"..#./.#../..../..##/....", "ul", 199},
		{"......./....###/....###", "r", 200}, {"......./....###/....###", "l", 200}, {".#./#../.../.../..#", "u", 200}, {"...#.#./.#..#.#/#.###.#/##....#", "udr", 200},
		{".#./.#./..#/.../##./...", "ur", 201}, {"......./.#..#../##.#...", "ul", 202}, {"....../.....#/....##", "r", 210},
		{".......", "", 128}, {"....../..####", "", 256},
	} {
		count, ok := impl.CountCorner(c.s, c.dirs)
		expect(t, "CountCorner "+c.s+" "+c.dirs, []any{count, ok}, c.count, true)
		if c.count > 200 {
			failsWithZeros(t, "AllStill", c.s, c.dirs)
			continue
		}
		trays, ok := impl.AllStill(c.s, c.dirs)
		expect(t, "AllStill "+c.s+" "+c.dirs, []any{len(trays), slices.IsSorted(trays), ok}, c.count, true, true)
		for _, tray := range trays {
			walls, _ := impl.WallsOf(tray)
			ways, _ := impl.StillWays(tray)
			for _, dir := range strings.Split(c.dirs, "") {
				expect(t, tray+" of "+c.s, []any{walls, strings.Contains(ways, dir)}, c.s, true)
			}
		}
	}
}

func TestKnownMeans(t *testing.T) {
	for _, c := range []struct {
		s, dir      string
		balls       int
		over, under int
	}{
		// No balls, as many as there are cells, no room to move, no cells.
		{"..", "r", 0, 0, 1}, {"..", "r", 2, 0, 1}, {"..", "u", 1, 0, 1}, {".", "u", 0, 0, 1}, {".", "u", 1, 0, 1}, {"#", "l", 0, 0, 1}, {".#.", "l", 1, 0, 1},
		{freeText(4, 4), "d", 0, 0, 1}, {freeText(4, 4), "d", 16, 0, 1},
		// Whole numbers.
		{"...", "r", 1, 1, 1}, {"...", "l", 2, 1, 1}, {".....", "r", 1, 2, 1}, {".....", "l", 2, 3, 1}, {"...../.....", "r", 9, 2, 1},
		// Ratios, as they are and reduced.
		{"..", "r", 1, 1, 2}, {"../..", "u", 1, 1, 2}, {"../..", "u", 2, 2, 3}, {"../..", "u", 3, 1, 2}, {"..#.", "r", 1, 1, 3}, {".../.#.", "r", 2, 9, 10},
		{freeText(4, 4), "r", 1, 3, 2}, {freeText(4, 4), "r", 2, 14, 5}, {freeText(4, 4), "u", 8, 32, 5}, {"......./......#/...####", "l", 8, 52, 5}, {"...../.....", "r", 5, 50, 9},
	} {
		over, under, ok := impl.MeanMoved(c.s, c.dir, c.balls)
		expect(t, fmt.Sprint("MeanMoved ", c.s, " ", c.dir, " ", c.balls), []any{over, under, ok}, c.over, c.under, true)
	}
}

// TestMeansOfSixteenCells adds up what all trays with so many balls tell.
func TestMeansOfSixteenCells(t *testing.T) {
	for _, s := range []string{freeText(4, 4), "......./......#/...####", "..#../...../#.#../...#."} {
		expect(t, "cells of "+s, []any{opensOf(s)}, 16)
		var moved, trays [17]int
		for _, text := range ballTexts(s) {
			balls := strings.Count(text, "o")
			// Most of the trays are left out, as there are so many.
			if balls > 4 && balls < 12 && balls != 8 {
				continue
			}
			moved[balls] += tiltModel(text, "r").cells
			trays[balls]++
		}
		for balls, count := range trays {
			if count > 0 {
				over, under := ratioModel(moved[balls], count)
				top, bottom, ok := impl.MeanMoved(s, "r", balls)
				expect(t, fmt.Sprint("MeanMoved ", s, " ", balls), []any{top, bottom, ok}, over, under, true)
			}
		}
	}
}

// TestTurnedTraysCountAlike turns trays and directions together.
func TestTurnedTraysCountAlike(t *testing.T) {
	for _, s := range append(wallTrays(), greatWalls()...) {
		turned, _ := impl.TurnTray(s)
		for _, dirs := range []string{"u", "r", "d", "l"} {
			turnedDirs := turnedModel(dirs, 1)
			count, ok := impl.CountStill(s, dirs)
			again, againOk := impl.CountStill(turned, turnedDirs)
			expect(t, "CountStill "+turned+" "+turnedDirs, []any{again, againOk}, count, ok)
			for balls := 0; balls <= opensOf(s); balls += 3 {
				over, under, ok := impl.MeanMoved(s, dirs, balls)
				turnedOver, turnedUnder, turnedOk := impl.MeanMoved(turned, turnedDirs, balls)
				expect(t, "MeanMoved "+turned+" "+turnedDirs, []any{turnedOver, turnedUnder, turnedOk}, over, under, ok)
			}
		}
		for _, dirs := range []string{"ur", "ud", "uld"} {
			turnedDirs := turnedModel(dirs, 1)
			count, ok := impl.CountCorner(s, dirs)
			again, againOk := impl.CountCorner(turned, turnedDirs)
			expect(t, "CountCorner "+turned+" "+turnedDirs, []any{again, againOk}, count, ok)
		}
	}
}
