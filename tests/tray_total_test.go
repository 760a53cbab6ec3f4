package tests

import (
	"fmt"
	"maps"
	"math"
	"reflect"
	"slices"
	"strings"
	"testing"

	"loop.example/g01199/impl"
)

// The tests of promise 11: every function accepts all arguments without panicking and modifies none of them.
// Those for chapter 1 alone, and those that go over all functions.

func allFunctions() map[string]any {
	functions := map[string]any{}
	maps.Copy(functions, chapterOne())
	maps.Copy(functions, chapterTwo())
	maps.Copy(functions, chapterThree())
	maps.Copy(functions, chapterFour())
	maps.Copy(functions, chapterFive())
	maps.Copy(functions, chapterSix())
	maps.Copy(functions, chapterSeven())
	maps.Copy(functions, chapterEight())
	maps.Copy(functions, chapterNine())
	maps.Copy(functions, chapterTen())
	return functions
}

func chapterOne() map[string]any {
	return map[string]any{
		"IsTray": impl.IsTray, "SizeOf": impl.SizeOf, "CellAt": impl.CellAt, "PutAt": impl.PutAt,
		"CountCells": impl.CountCells, "BallsOf": impl.BallsOf, "PlaceOf": impl.PlaceOf,
		"TurnTray": impl.TurnTray, "MirrorTray": impl.MirrorTray, "TransposeTray": impl.TransposeTray,
		"LeastTray": impl.LeastTray, "KeepersOf": impl.KeepersOf, "PartsOf": impl.PartsOf,
		"WayBetween": impl.WayBetween, "EmptyTray": impl.EmptyTray, "WallsOf": impl.WallsOf,
		"CropTray": impl.CropTray, "JoinTrays": impl.JoinTrays, "BesideTrays": impl.BesideTrays,
	}
}

// call returns the results of a call, the last of which is always a bool in these chapters.
func call(function any, arguments ...any) ([]any, bool) {
	var in []reflect.Value
	for _, argument := range arguments {
		in = append(in, reflect.ValueOf(argument))
	}
	var out []any
	for _, result := range reflect.ValueOf(function).Call(in) {
		out = append(out, result.Interface())
	}
	return out[:len(out)-1], out[len(out)-1].(bool)
}

func failsWithZeros(t *testing.T, name string, arguments ...any) {
	t.Helper()
	results, ok := call(allFunctions()[name], arguments...)
	if ok {
		t.Errorf("%s%q succeeds with %v", name, arguments, results)
	}
	areZeros(t, name, arguments, results)
}

func areZeros(t *testing.T, name string, arguments, results []any) {
	t.Helper()
	for _, result := range results {
		v := reflect.ValueOf(result)
		if !(v.IsZero() || v.Kind() == reflect.Slice && v.Len() == 0) {
			t.Errorf("%s%q fails with %v", name, arguments, results)
		}
	}
}

func TestTextsThatAreNoTraysFail(t *testing.T) {
	for _, s := range notTrays() {
		for _, name := range []string{
			"IsTray", "SizeOf", "BallsOf", "TurnTray", "MirrorTray", "TransposeTray", "LeastTray",
			"KeepersOf", "PartsOf", "WallsOf", "CropTray",
		} {
			failsWithZeros(t, name, s)
		}
		failsWithZeros(t, "CellAt", s, 0, 0)
		failsWithZeros(t, "PutAt", s, 0, 0, "b")
		failsWithZeros(t, "CountCells", s, ".")
		failsWithZeros(t, "PlaceOf", s, "a")
		failsWithZeros(t, "WayBetween", s, 0, 0)
		for _, other := range []string{".", "..", ".../...", "./.", "", s} {
			failsWithZeros(t, "JoinTrays", s, other)
			failsWithZeros(t, "JoinTrays", other, s)
			failsWithZeros(t, "BesideTrays", s, other)
			failsWithZeros(t, "BesideTrays", other, s)
		}
	}
}

func TestInvalidTextDoesNotBecomeATray(t *testing.T) {
	failsWithZeros(t, "PutAt", "g", 0, 0, ".")
	failsWithZeros(t, "PutAt", "aa", 0, 0, ".")
	failsWithZeros(t, "PutAt", "./..", 0, 0, ".")
	failsWithZeros(t, "BesideTrays", "./..", "../.")
	failsWithZeros(t, "BesideTrays", "", ".")
	failsWithZeros(t, "BesideTrays", "./", "./.")
}

func TestCellsThatThereAreNotFail(t *testing.T) {
	const s = ".#./ao."
	for _, place := range [][2]int{
		{-1, 0}, {0, -1}, {3, 0}, {0, 2}, {3, 2}, {-1, 1}, {3, -1}, {-3, 1}, {1, -1}, {2, 2}, {4, 1},
		{math.MaxInt, 0}, {0, math.MaxInt}, {math.MinInt, 0}, {0, math.MinInt}, {math.MaxInt, math.MaxInt},
		{math.MinInt, math.MaxInt}, {0, 1 << 62}, {1 << 32, 1 << 32},
	} {
		failsWithZeros(t, "CellAt", s, place[0], place[1])
		failsWithZeros(t, "PutAt", s, place[0], place[1], "#")
	}
	for _, n := range []int{-1, -2, 6, 7, 36, math.MaxInt, math.MinInt, 1 << 32} {
		failsWithZeros(t, "WayBetween", s, n, 0)
		failsWithZeros(t, "WayBetween", s, 0, n)
		failsWithZeros(t, "WayBetween", s, n, n)
	}
}

func TestTextsOfNoCellFail(t *testing.T) {
	for _, cell := range []string{"", "g", "A", "/", "..", "#.", "ab", ".#.oabcdef", "\x00", " ", "é", "o/", "abcdef", "/."} {
		failsWithZeros(t, "PutAt", "..", 0, 0, cell)
		failsWithZeros(t, "CountCells", "..", cell)
		failsWithZeros(t, "PlaceOf", "ab.o#", cell)
	}
	for _, name := range []string{"o", ".", "#", "c", "f"} {
		failsWithZeros(t, "PlaceOf", "ab.o#", name)
	}
}

func TestTraysOfWallsAloneAreNotCropped(t *testing.T) {
	for _, s := range []string{"#", "##", "#/#", "###/###/###", strings.ReplaceAll(freeText(6, 6), ".", "#")} {
		failsWithZeros(t, "CropTray", s)
	}
}

// awkwardValues are valid and invalid arguments of a type.
func awkwardValues(kind reflect.Type) []any {
	switch kind {
	case reflect.TypeFor[int]():
		return []any{0, 1, 3, -1, 7, 35, 36, math.MaxInt, math.MinInt, math.MinInt + 1, 1 << 32}
	case reflect.TypeFor[[]int]():
		lists := []any{[]int(nil), []int{}, []int{0}, []int{0, 1}, []int{1, 0, 2}, []int{0, 0}, []int{3, 3, 3}}
		for _, list := range notLists() {
			lists = append(lists, list)
		}
		return lists
	case reflect.TypeFor[impl.Board]():
		boards := []any{boardFrom("0"), boardFrom("12/03"), boardFrom("123/405/678")}
		for _, b := range notBoards() {
			boards = append(boards, b)
		}
		return boards
	case reflect.TypeFor[impl.Puzzle]():
		puzzles := []any{puzzleFrom("a./..:a:3"), puzzleFrom("a#.:a:2"), puzzleFrom(reachesMore + ":b:11")}
		for _, p := range notPuzzles() {
			puzzles = append(puzzles, p)
		}
		return puzzles
	case reflect.TypeFor[impl.Desk]():
		desks := []any{impl.FirstDesk(), impl.Desk{Tray: "a./..", Done: strings.Repeat("ul", 20)}, impl.Desk{Tray: reachesMore}}
		for _, d := range notDesks() {
			desks = append(desks, d)
		}
		return desks
	}
	return []any{
		"", ".", "a", "#", "/", "g", "\x00", "é", ".#/ao", "aa", freeText(6, 6), freeText(7, 7), strings.Repeat("#/", 5000),
		"o", "oo./..a", "o/o", "oo./o..", "ooooo/ooooo", "u", "l", "urdl", "urx", strings.Repeat("r", 40), strings.Repeat("d", 41), "0", "1,2/0,3", "a./..:a:3", "tilt r\ndone\n", strings.Repeat("reach\n", 50),
	}
}

// TestAllArgumentsAreAccepted calls each function with every combination of awkward values: a panic ends the test.
func TestAllArgumentsAreAccepted(t *testing.T) {
	for name, function := range allFunctions() {
		kind := reflect.TypeOf(function)
		lists := [][]any{nil}
		for i := range kind.NumIn() {
			var longer [][]any
			for _, list := range lists {
				for _, v := range awkwardValues(kind.In(i)) {
					longer = append(longer, append(slices.Clone(list), v))
				}
			}
			lists = longer
		}
		for _, list := range lists {
			if results, ok := call(function, list...); !ok {
				areZeros(t, name, list, results)
			}
		}
	}
}

func TestArgumentsStayAsTheyAre(t *testing.T) {
	for _, s := range greatTrays() {
		before := strings.Clone(s)
		for name, function := range allFunctions() {
			list := argumentsFor(name, function, s)
			given := fmt.Sprint(list)
			first, firstOk := call(function, list...)
			want := fmt.Sprint(first, firstOk)
			spoil(first)
			second, secondOk := call(function, list...)
			if got := fmt.Sprint(second, secondOk); got != want {
				t.Errorf("%s%q: %s, then %s", name, list, want, got)
			}
			if got := fmt.Sprint(list); got != given {
				t.Errorf("%s: the arguments %s become %s", name, given, got)
			}
		}
		if s != before {
			t.Errorf("%q becomes %q", before, s)
		}
	}
}

// argumentsFor gives a tray for each text but those of cells, names, directions, words, shapes and forms, 0 for each number but the sizes of boards and the cells of balls, and a board for each board.
func argumentsFor(name string, function any, tray string) []any {
	if _, isBuild := chapterSix()[name]; isBuild {
		return argumentsToBuild(name)
	}
	if _, isMachine := chapterSeven()[name]; isMachine {
		return argumentsOfMachines(name)
	}
	if _, isCount := chapterEight()[name]; isCount {
		return argumentsToCount(name)
	}
	if _, isPuzzle := chapterNine()[name]; isPuzzle {
		return argumentsOfPuzzles(name)
	}
	if _, isConsole := chapterTen()[name]; isConsole {
		return argumentsOfConsole(name)
	}
	var list []any
	kind := reflect.TypeOf(function)
	for i := range kind.NumIn() {
		switch kind.In(i) {
		case reflect.TypeFor[int]():
			list = append(list, 0)
		case reflect.TypeFor[impl.Board]():
			list = append(list, boardFrom("123/405"))
		default:
			list = append(list, tray)
		}
	}
	switch name {
	case "SolvedBoard", "CountBoards", "HardestBoards":
		return []any{2, 3}
	case "MoveHole", "MoveByWord":
		list[1] = "r"
	case "ParseBoard":
		return []any{"1,2/0,3"}
	case "PutAt", "CountCells", "PlaceOf", "CellsOfBall":
		list[len(list)-1] = "a"
	case "WordToCell":
		return []any{tray, "a", 0}
	case "PieceAt", "ShapeOf":
		return []any{tray, strings.IndexAny(strings.ReplaceAll(tray, "/", ""), "oabcdef")}
	case "IsShapeReached":
		return []any{tray, "o", "rd"}
	case "PathOfBall":
		return []any{tray, "a", "rdlu"}
	case "AreSameWords":
		return []any{tray, "rdlu", "rd"}
	case "TurnWord":
		return []any{"rdlu", 3}
	case "ShortWord", "OppositeWord", "IsWord":
		return []any{"rdlu"}
	}
	_, isTilt := chapterTwo()[name]
	_, isStick := chapterFive()[name]
	if (isTilt || isStick) && len(list) == 2 {
		return []any{tray, "r"}
	}
	return list
}

// spoil overwrites lists of a result, and what would follow them.
func spoil(results []any) {
	for _, result := range results {
		switch list := result.(type) {
		case []int:
			for n := range list {
				list[n] = -7
			}
			_ = append(list, -7, -7)
		case [][]int:
			for _, inner := range list {
				spoil([]any{inner})
			}
		case []string:
			for n := range list {
				list[n] = "spoilt"
			}
			_ = append(list, "spoilt", "spoilt")
		case [][]string:
			for _, inner := range list {
				spoil([]any{inner})
			}
		case impl.Board:
			spoil([]any{list.Cells})
		case []impl.Board:
			for _, inner := range list {
				spoil([]any{inner})
			}
		}
	}
}

func TestPartsShareNoMemory(t *testing.T) {
	const s = "..#.#a/##.#o#/..#.#."
	want, _ := impl.PartsOf(s)
	for i := range want {
		parts, ok := impl.PartsOf(s)
		if !ok || len(parts) < 5 {
			t.Fatalf("PartsOf is %v, %v", parts, ok)
		}
		spoil([]any{parts[i]})
		for j := range parts {
			if j != i && !slices.Equal(parts[j], want[j]) {
				t.Errorf("part %d changes with part %d: %v", j, i, parts[j])
			}
		}
	}
}
