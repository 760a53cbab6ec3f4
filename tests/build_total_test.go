package tests

import (
	"fmt"
	"math"
	"slices"
	"strings"
	"testing"

	"loop.example/g01199/impl"
)

// The tests of promise 11 for chapter 6.

func chapterSix() map[string]any {
	return map[string]any{
		"IsForm": impl.IsForm, "CellsOfForm": impl.CellsOfForm, "FreeWays": impl.FreeWays, "CanAdd": impl.CanAdd,
		"AddCell": impl.AddCell, "TakeCell": impl.TakeCell, "LastCells": impl.LastCells, "CanBuild": impl.CanBuild,
		"FirstOrder": impl.FirstOrder, "IsOrder": impl.IsOrder, "CountOrders": impl.CountOrders, "WaysOfOrder": impl.WaysOfOrder,
		"CountFromCell": impl.CountFromCell, "TurnForm": impl.TurnForm, "CountBuilt": impl.CountBuilt, "CountFull": impl.CountFull,
	}
}

// functionsOfForms take a form alone.
func functionsOfForms() []string {
	return []string{"IsForm", "CellsOfForm", "LastCells", "CanBuild", "FirstOrder", "CountOrders", "TurnForm"}
}

// argumentsToBuild gives arguments with which the function succeeds.
func argumentsToBuild(name string) []any {
	const s = ".oo./.o.o/.ooo"
	switch name {
	case "FreeWays", "AddCell":
		return []any{s, 3}
	case "CanAdd":
		return []any{s, 3, "d"}
	case "TakeCell", "CountFromCell":
		return []any{s, 2}
	case "IsOrder", "WaysOfOrder":
		return []any{s, []int{9, 10, 11, 7, 5, 1, 2}}
	case "CountBuilt", "CountFull":
		return []any{4}
	}
	return []any{s}
}

// notForms are trays that are no forms, each for one reason.
func notForms() []string {
	return []string{
		// Without balls.
		".", "..", "./.", ".../...", freeText(6, 6),
		// With walls.
		"#", "#o", "o#", "oo/o#", "#.o", "ooo/o#o/ooo", "###/#o#/###", "ooooooo/######o",
		// With named balls.
		"a", "ao", "oa.", "o./f.", "ab/cd", "abcdef", ".b./ooo",
		// Balls that do not hang together, but for corners or over the end of a row.
		"o.o", "o/./o", "o./.o", ".o/o.", "..o/o..", "oo.oo", "o.o/o.o", ".oo/o..", "ooo/.../ooo", "o../.../..o", "ooooo/o...o/o.o.o",
		// With too many of them.
		"ooooo/ooooo/o....", "ooooooo/oooo...", "ooo/ooo/ooo/oo.", "......./ooooooo/...o.../...ooo.", strings.ReplaceAll(freeText(6, 6), ".", "o"),
		strings.ReplaceAll(freeText(7, 5), ".", "o"), "o.o.o.o/.o.o.o./o.o.o.o",
	}
}

// notCells are numbers of no cells of a form with so many cells.
func notCells(count int) []int {
	return []int{-1, -2, -count, count, count + 1, 2 * count, 36, 37, 256, 1 << 32, 1<<32 + 1, math.MaxInt, math.MinInt, math.MinInt + 1}
}

// notLists are lists with numbers that are no cells of any form, and lists that are too long.
func notLists() [][]int {
	return [][]int{
		{-1}, {0, -1}, {36}, {0, 1, 36}, {math.MaxInt}, {math.MinInt, 0}, {0, 1 << 32}, {1<<32 + 1, 0}, {0, 256},
		make([]int, 11), {0, 1, 2, 3, 4, 5, 6, 7, 8, 9, 10}, {-1, -1, -1, -1, -1, -1, -1, -1, -1, -1, -1}, make([]int, 1000000),
	}
}

func TestTextsThatAreNoFormsFail(t *testing.T) {
	for _, s := range append(notTrays(), notForms()...) {
		if isFormModel(s) {
			t.Fatalf("%q is a form", s)
		}
		for _, name := range functionsOfForms() {
			failsWithZeros(t, name, s)
		}
		for _, cell := range []int{0, 1, 2, 5, -1} {
			for _, name := range []string{"FreeWays", "AddCell", "TakeCell", "CountFromCell"} {
				failsWithZeros(t, name, s, cell)
			}
			for _, dir := range []string{"u", "r", "d", "l", "", "x"} {
				failsWithZeros(t, "CanAdd", s, cell, dir)
			}
		}
		for _, order := range append(notLists(), nil, []int{}, []int{0}, []int{0, 1}, []int{1, 0, 2}, []int{0, 2}, []int{0, 3}, []int{1, 2}, []int{2, 3}) {
			failsWithZeros(t, "IsOrder", s, order)
			failsWithZeros(t, "WaysOfOrder", s, order)
		}
	}
}

func TestNotFormsAreTrays(t *testing.T) {
	for _, s := range notForms() {
		expect(t, "IsTray "+s, []any{impl.IsTray(s)}, true)
	}
}

func TestCellsOutsideAFormFail(t *testing.T) {
	for _, s := range []string{"o", "o.", "oo./o..", "ooo/o.o/ooo", "ooooo/ooooo"} {
		for _, cell := range notCells(len(strings.ReplaceAll(s, "/", ""))) {
			for _, name := range []string{"FreeWays", "AddCell", "TakeCell", "CountFromCell"} {
				failsWithZeros(t, name, s, cell)
			}
			for _, dir := range []string{"u", "r", "d", "l", "x"} {
				failsWithZeros(t, "CanAdd", s, cell, dir)
			}
			for _, order := range [][]int{{cell}, {0, cell}, {cell, 0}, {0, 1, cell}, {cell, cell}, {0, 0, cell}} {
				failsWithZeros(t, "IsOrder", s, order)
				failsWithZeros(t, "WaysOfOrder", s, order)
			}
		}
	}
}

func TestOtherCellsThanAskedFail(t *testing.T) {
	for _, s := range knownForms() {
		for _, ball := range numbersOf(s, 'o') {
			failsWithZeros(t, "FreeWays", s, ball)
			failsWithZeros(t, "AddCell", s, ball)
		}
		for _, cell := range numbersOf(s, '.') {
			failsWithZeros(t, "TakeCell", s, cell)
			failsWithZeros(t, "CountFromCell", s, cell)
		}
	}
}

func TestCellsAddedInNoDirectionsFail(t *testing.T) {
	for _, dir := range notDirections() {
		for cell := range 6 {
			failsWithZeros(t, "CanAdd", "oo./o..", cell, dir)
		}
		failsWithZeros(t, "CanAdd", "o", 0, dir)
	}
}

func TestListsThatAreTooLongFail(t *testing.T) {
	for _, s := range []string{"o", "oo./o..", "ooooo/ooooo", "ooooooo/ooo....", withText(freeText(6, 6), 0, "o")} {
		for _, order := range notLists() {
			failsWithZeros(t, "IsOrder", s, order)
			failsWithZeros(t, "WaysOfOrder", s, order)
		}
	}
}

func TestNumbersOfBallsOutsideFail(t *testing.T) {
	for _, n := range []int{0, -1, -2, -5, 6, 7, 10, 11, 1 << 32, 1<<32 + 1, math.MaxInt, math.MinInt, math.MinInt + 1} {
		failsWithZeros(t, "CountBuilt", n)
		failsWithZeros(t, "CountFull", n)
	}
}

func TestArgumentsToBuildSucceed(t *testing.T) {
	for name, function := range chapterSix() {
		list := argumentsToBuild(name)
		if results, ok := call(function, list...); !ok {
			t.Errorf("%s%q fails with %v", name, list, results)
		}
	}
}

// TestOrdersStayAsTheyAre has orders, and other lists, with spare room behind their numbers.
func TestOrdersStayAsTheyAre(t *testing.T) {
	const s = "ooo/o.o"
	for _, order := range [][]int{{}, {1}, {3, 0, 1, 2, 5}, {1, 0, 3, 2, 5}, {5, 3, 2, 1, 0}, {0, 1, 2, 3}, {0, 1, 2, 3, 5, 5}, {0, 1, 2, 3, 4, 5, 5, 5, 5, 5}} {
		room := append(slices.Clone(order), 5, -1, 77)
		before := slices.Clone(room)
		for _, name := range []string{"IsOrder", "WaysOfOrder"} {
			want, wantOk := call(chapterSix()[name], s, slices.Clip(slices.Clone(order)))
			got, ok := call(chapterSix()[name], s, room[:len(order)])
			expect(t, fmt.Sprint(name, " ", order), []any{got, ok}, want, wantOk)
			if !slices.Equal(room, before) {
				t.Fatalf("%s changes %v, and what is behind it, to %v", name, before, room)
			}
		}
	}
}

// TestListsOfFormsAreTheirOwn spoils what one call hands out, and asks the next one.
func TestListsOfFormsAreTheirOwn(t *testing.T) {
	const s = "ooo/o.o/.oo"
	for _, function := range []func(string) ([]int, bool){impl.CellsOfForm, impl.LastCells, impl.FirstOrder} {
		first, ok := function(s)
		want := slices.Clone(first)
		second, secondOk := function(s)
		if !ok || !secondOk || len(want) < 2 {
			t.Fatalf("%v, %v and %v, %v", first, ok, second, secondOk)
		}
		spoil([]any{first})
		expect(t, "what was told before", []any{second}, want)
		third, ok := function(s)
		expect(t, "what is told again", []any{third, ok}, want, true)
	}
}
