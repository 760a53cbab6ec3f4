package tests

import (
	"fmt"
	"math"
	"slices"
	"strings"
	"testing"

	"loop.example/g01199/impl"
)

// The tests of promise 11 for chapter 8.

func chapterEight() map[string]any {
	return map[string]any{
		"Binomial": impl.Binomial, "CountTrays": impl.CountTrays, "CountKept": impl.CountKept, "CountClasses": impl.CountClasses,
		"ListClasses": impl.ListClasses, "MovesOf": impl.MovesOf, "CountStates": impl.CountStates, "CountStill": impl.CountStill,
		"CountStillWith": impl.CountStillWith, "CountCorner": impl.CountCorner, "AllStill": impl.AllStill,
		"CountTilted": impl.CountTilted, "MeanMoved": impl.MeanMoved,
	}
}

// functionsOfFillings take numbers of columns, rows, walls and balls.
func functionsOfFillings() []string {
	return []string{"CountTrays", "CountClasses", "ListClasses"}
}

// functionsOfBallsIn take a tray without balls, a direction and a number of balls.
func functionsOfBallsIn() []string {
	return []string{"CountStillWith", "CountTilted", "MeanMoved"}
}

// functionsOfCorners take a tray without balls and different directions.
func functionsOfCorners() []string {
	return []string{"CountCorner", "AllStill"}
}

// argumentsToCount gives arguments with which the function succeeds.
func argumentsToCount(name string) []any {
	const s = ".../.#."
	switch name {
	case "Binomial":
		return []any{36, 17}
	case "CountTrays", "CountClasses", "ListClasses":
		return []any{3, 3, 2, 1}
	case "CountKept":
		return []any{3, 3, 2, 1, 5}
	case "MovesOf":
		return []any{5, 7}
	case "CountStates":
		return []any{s, 2}
	case "CountStill":
		return []any{s, "r"}
	case "CountCorner", "AllStill":
		return []any{s, "lu"}
	}
	return []any{s, "d", 2}
}

// failsAsFilling calls all functions that take a filling, and CountKept with all moves.
func failsAsFilling(t *testing.T, w, h, walls, balls int) {
	t.Helper()
	for _, name := range functionsOfFillings() {
		failsWithZeros(t, name, w, h, walls, balls)
	}
	for move := range 8 {
		failsWithZeros(t, "CountKept", w, h, walls, balls, move)
	}
}

// failsAsWalls calls all functions that take a tray without balls, with as many balls and in all directions.
func failsAsWalls(t *testing.T, s string, balls int) {
	t.Helper()
	failsWithZeros(t, "CountStates", s, balls)
	for _, dir := range []string{"u", "r", "d", "l"} {
		failsWithZeros(t, "CountStill", s, dir)
		failsInDirection(t, s, dir, balls)
		for _, name := range functionsOfCorners() {
			failsWithZeros(t, name, s, dir)
		}
	}
	for _, name := range functionsOfCorners() {
		failsWithZeros(t, name, s, "")
		failsWithZeros(t, name, s, "urdl")
	}
}

func failsInDirection(t *testing.T, s, dir string, balls int) {
	t.Helper()
	for _, name := range functionsOfBallsIn() {
		failsWithZeros(t, name, s, dir, balls)
	}
}

// greatNumbers are below or above all limits, some of them so that sums and products of them overflow.
func greatNumbers() []int {
	return []int{-1, -2, -7, -36, 37, 38, 49, 256, 1 << 16, 1 << 31, 1 << 32, 1<<32 + 1, 1<<33 + 2, 1 << 62, math.MaxInt, math.MaxInt - 1, math.MinInt, math.MinInt + 1}
}

func TestBinomialsOutsideFail(t *testing.T) {
	for _, n := range greatNumbers() {
		for _, k := range append(greatNumbers(), 0, 1, 2, 36) {
			failsWithZeros(t, "Binomial", n, k)
			failsWithZeros(t, "Binomial", k, n)
		}
	}
	for n := range 37 {
		failsWithZeros(t, "Binomial", n, n+1)
		failsWithZeros(t, "Binomial", n, -1)
	}
}

func TestSizesOfNoTraysAreNotCounted(t *testing.T) {
	sizes := [][2]int{{0, 0}, {0, 1}, {1, 0}, {8, 1}, {1, 8}, {8, 4}, {4, 8}, {9, 4}, {36, 1}, {1, 36}, {7, 6}, {6, 7}, {7, 7}, {-1, -1}, {-6, -6}, {-1, 1}, {1 << 32, 1 << 32}, {1<<32 + 2, 2}}
	for _, n := range greatNumbers() {
		sizes = append(sizes, [2]int{n, 1}, [2]int{1, n}, [2]int{n, n}, [2]int{n, 6})
	}
	for _, size := range sizes {
		failsWithZeros(t, "MovesOf", size[0], size[1])
		for _, filling := range [][2]int{{0, 0}, {1, 0}, {0, 1}, {-1, 0}, {0, -1}, {36, 0}} {
			failsAsFilling(t, size[0], size[1], filling[0], filling[1])
		}
	}
}

func TestNumbersOfWallsAndBallsOutsideFail(t *testing.T) {
	for _, size := range [][2]int{{1, 1}, {2, 1}, {1, 7}, {2, 2}, {3, 2}, {6, 6}, {7, 5}} {
		cells := size[0] * size[1]
		for _, n := range append(greatNumbers(), cells+1, cells+2, 2*cells) {
			for _, other := range []int{0, 1, cells, -1, n, -n} {
				// As many as there are cells at most for the smaller trays, too.
				if n+other >= 0 && n+other <= cells && n >= 0 && other >= 0 {
					t.Fatalf("%d and %d are in a tray of %v", n, other, size)
				}
				failsAsFilling(t, size[0], size[1], n, other)
				failsAsFilling(t, size[0], size[1], other, n)
			}
		}
		for walls := range cells + 1 {
			failsAsFilling(t, size[0], size[1], walls, cells-walls+1)
			_, ok := impl.CountTrays(size[0], size[1], walls, cells-walls)
			expect(t, fmt.Sprint("CountTrays ", size, " ", walls, " ", cells-walls), []any{ok}, true)
		}
	}
}

func TestMovesOutsideFail(t *testing.T) {
	moves := append(greatNumbers(), 8, 9, 12, 16, -3, -4, -8, 1<<32+4)
	for _, size := range [][2]int{{1, 1}, {2, 2}, {6, 6}, {2, 1}, {1, 7}, {7, 5}} {
		for _, move := range moves {
			failsWithZeros(t, "CountKept", size[0], size[1], 0, 0, move)
			failsWithZeros(t, "CountKept", size[0], size[1], 1, 0, move)
			failsWithZeros(t, "CountKept", size[0], size[1], 0, 1, move)
		}
	}
	for _, size := range [][2]int{{2, 1}, {1, 2}, {3, 2}, {6, 5}, {7, 5}, {5, 7}} {
		for _, move := range []int{1, 3, 5, 7} {
			for _, walls := range []int{0, 1, 2} {
				failsWithZeros(t, "CountKept", size[0], size[1], walls, 0, move)
				failsWithZeros(t, "CountKept", size[0], size[1], 0, walls, move)
			}
		}
	}
}

func TestTextsThatAreNoTraysAreNotCounted(t *testing.T) {
	for _, s := range notTrays() {
		for _, balls := range []int{0, 1, -1} {
			failsAsWalls(t, s, balls)
		}
	}
}

func TestTraysWithBallsAreNotCounted(t *testing.T) {
	for _, s := range []string{
		"o", "a", "f", "o.", ".o", ".a", "b#", "#/o", "./a", ".#/ao", "oo/oo", "a.o/.#.", "...../....o", ".../.../..f", "######/#####c",
		strings.ReplaceAll(freeText(6, 6), ".", "o"), withText(freeText(4, 4), 15, "e"),
	} {
		for _, balls := range []int{0, 1, 2, -1} {
			failsAsWalls(t, s, balls)
		}
	}
}

func TestBallsInNoDirectionsAreNotCounted(t *testing.T) {
	for _, s := range []string{".", "#", "..", ".../.#.", freeText(4, 4)} {
		for _, dir := range notDirections() {
			failsWithZeros(t, "CountStill", s, dir)
			failsInDirection(t, s, dir, 0)
			failsInDirection(t, s, dir, 1)
		}
	}
}

func TestDirectionsThatComeTwiceFail(t *testing.T) {
	texts := []string{
		"uu", "rr", "dd", "ll", "uru", "urr", "uur", "udlu", "lrdl", "urdd", "urdlu", "urdlr", "urdlurdl", "uuuu", strings.Repeat("lu", 20), strings.Repeat("d", 40), "urdll", "rurdl",
	}
	for _, text := range append(notWords(), texts...) {
		for _, s := range []string{".", "#", "..", ".../.#.", freeText(4, 4)} {
			for _, name := range functionsOfCorners() {
				failsWithZeros(t, name, s, text)
			}
		}
	}
}

func TestNumbersOfBallsInTraysOutsideFail(t *testing.T) {
	for _, s := range []string{".", "#", "##/##", "..", ".../.#.", ".#.#./#.#.#", freeText(4, 4), "......#/......#/....###", freeText(6, 6), freeText(7, 5)} {
		cells := opensOf(s)
		for _, balls := range append(greatNumbers(), cells+1, cells+2, 2*cells+1) {
			failsWithZeros(t, "CountStates", s, balls)
			for _, dir := range []string{"u", "r", "d", "l"} {
				failsInDirection(t, s, dir, balls)
			}
		}
		for _, balls := range []int{0, cells} {
			n, ok := impl.CountStates(s, balls)
			expect(t, fmt.Sprint("CountStates ", s, " ", balls), []any{n, ok}, 1, true)
			n, ok = impl.CountTilted(s, "u", balls)
			expect(t, fmt.Sprint("CountTilted ", s, " ", balls), []any{n, ok}, 1, true)
		}
	}
}

func TestArgumentsToCountSucceed(t *testing.T) {
	for name, function := range chapterEight() {
		list := argumentsToCount(name)
		if results, ok := call(function, list...); !ok {
			t.Errorf("%s%q fails with %v", name, list, results)
		}
	}
}

// TestListsOfCountsAreTheirOwn spoils what one call hands out, and asks the next one.
func TestListsOfCountsAreTheirOwn(t *testing.T) {
	for _, name := range []string{"MovesOf", "ListClasses", "AllStill"} {
		list := argumentsToCount(name)
		first, _ := call(chapterEight()[name], list...)
		want := fmt.Sprint(first)
		second, ok := call(chapterEight()[name], list...)
		spoil(first)
		expect(t, name+" told before", []any{fmt.Sprint(second), ok}, want, true)
		third, ok := call(chapterEight()[name], list...)
		expect(t, name+" told again", []any{fmt.Sprint(third), ok}, want, true)
	}
}

// TestTooGreatCountsDoNotDisturbLaterOnes has calls that fail between such that succeed.
func TestTooGreatCountsDoNotDisturbLaterOnes(t *testing.T) {
	for range 20 {
		failsAsFilling(t, 6, 6, 12, 12)
		failsWithZeros(t, "AllStill", freeText(4, 4), "")
		classes, ok := impl.ListClasses(2, 2, 1, 0)
		expect(t, "ListClasses", []any{classes, ok}, []string{"#./.."}, true)
		trays, ok := impl.AllStill("../..", "ul")
		expect(t, "AllStill", []any{slices.IsSorted(trays), len(trays), ok}, true, 6, true)
	}
}
