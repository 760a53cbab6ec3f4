package tests

import (
	"math"
	"slices"
	"strings"
	"testing"

	"loop.example/g01199/impl"
)

// The tests of promise 11 for chapter 4.

func chapterFour() map[string]any {
	return map[string]any{
		"IsBoard": impl.IsBoard, "SolvedBoard": impl.SolvedBoard, "HoleOf": impl.HoleOf, "HoleWays": impl.HoleWays,
		"MoveHole": impl.MoveHole, "MoveByWord": impl.MoveByWord, "ParityOf": impl.ParityOf, "CanSolve": impl.CanSolve,
		"SolveBoard": impl.SolveBoard, "CountBoards": impl.CountBoards, "HardestBoards": impl.HardestBoards,
		"ManhattanOf": impl.ManhattanOf, "MirrorBoard": impl.MirrorBoard, "BoardText": impl.BoardText,
		"ParseBoard": impl.ParseBoard,
	}
}

// functionsOfBoards take a board alone.
func functionsOfBoards() []string {
	return []string{"IsBoard", "HoleOf", "HoleWays", "ParityOf", "CanSolve", "SolveBoard", "ManhattanOf", "MirrorBoard", "BoardText"}
}

// firstNumbers returns the numbers below n, the greatest one first.
func firstNumbers(n int) []int {
	var numbers []int
	for number := range n {
		numbers = append(numbers, n-1-number)
	}
	return numbers
}

func notBoards() []impl.Board {
	boards := []impl.Board{
		{}, {Width: 1}, {Width: 2}, {Width: 3}, {Width: 1, Cells: []int{}}, {Width: 3, Cells: []int{}}, {Width: -1, Cells: []int{}},
		{Width: 1, Cells: []int{1}}, {Width: 1, Cells: []int{-1}}, {Width: 2, Cells: []int{0}}, {Width: 3, Cells: []int{0}},
		{Width: 2, Cells: []int{0, 0}}, {Width: 2, Cells: []int{1, 1}}, {Width: 2, Cells: []int{1, 2}}, {Width: 2, Cells: []int{0, 2}},
		{Width: 2, Cells: []int{1, 2, 3, 4}}, {Width: 2, Cells: []int{1, 2, 3, 3}}, {Width: 2, Cells: []int{0, 2, 3, 0}},
		{Width: 2, Cells: []int{-1, 1, 2, 3}}, {Width: 2, Cells: []int{0, 1, 2, 4}}, {Width: 2, Cells: []int{0, 1, 2, 9}},
		{Width: 2, Cells: []int{0, 1, 2, 1 << 32}}, {Width: 2, Cells: []int{0, 1, 2, math.MaxInt}}, {Width: 2, Cells: []int{0, 1, 2, math.MinInt}},
		{Width: 2, Cells: []int{0, 1, 2, 256 + 3}}, {Width: 2, Cells: []int{0, 1, 2, -253}},
		{Width: 3, Cells: []int{1, 2, 3, 4, 5, 6, 7, 8, 9}}, {Width: 3, Cells: []int{1, 2, 3, 4, 5, 6, 7, 8, 8}},
		{Width: 3, Cells: make([]int, 9)}, {Width: 3, Cells: make([]int, 1000000)},
	}
	for _, width := range []int{0, 4, 5, 6, 9, 10, 12, -1, -2, -3, 1 << 32, 1<<32 + 1, math.MaxInt, math.MinInt} {
		for _, count := range []int{0, 1, 2, 3, 4, 6, 8, 9, 12, 16} {
			boards = append(boards, impl.Board{Width: width, Cells: firstNumbers(count)})
		}
	}
	for width := 1; width <= 3; width++ {
		for count := range 20 {
			if count%width != 0 || count/width > 3 {
				boards = append(boards, impl.Board{Width: width, Cells: firstNumbers(count)})
			}
		}
	}
	return boards
}

func TestBoardsThatAreNoneFail(t *testing.T) {
	for _, b := range notBoards() {
		for _, name := range functionsOfBoards() {
			failsWithZeros(t, name, b)
		}
		for _, word := range []string{"", "u", "r", "d", "l", "x", "ud", strings.Repeat("u", 41)} {
			failsWithZeros(t, "MoveHole", b, word)
			failsWithZeros(t, "MoveByWord", b, word)
		}
	}
}

func TestMovesInNoDirectionsFail(t *testing.T) {
	for _, s := range []string{"0", "10", "123/405/678"} {
		for _, dir := range notDirections() {
			failsWithZeros(t, "MoveHole", boardFrom(s), dir)
		}
		for _, word := range notWords() {
			failsWithZeros(t, "MoveByWord", boardFrom(s), word)
		}
	}
}

func TestSizesOfNoBoardsFail(t *testing.T) {
	for _, wrong := range []int{0, 4, 5, 6, 9, -1, -2, -3, 1 << 32, 1<<32 + 1, math.MaxInt, math.MinInt, math.MinInt + 1} {
		for _, name := range []string{"SolvedBoard", "CountBoards", "HardestBoards"} {
			for _, other := range []int{1, 2, 3, 0, -1, wrong} {
				failsWithZeros(t, name, wrong, other)
				failsWithZeros(t, name, other, wrong)
			}
		}
	}
}

func TestTextsThatAreNoBoardsFail(t *testing.T) {
	for _, s := range []string{
		"", " ", ",", "/", "//", ",/,", "1", "-0", "+0", "00", "0 ", " 0", "0,", ",0", "0/", "/0", "0x0", "0.", "0\n", "\x00", "é", "a",
		"1,,0", "1, 0", "1 ,0", "1;0", "1 0", "10", "1,0,", "1,0/", "/1,0", "1//0", "1/,0", "01,0", "1,00", "+1,0", "1,-0", "0,0", "1,1", "1,2", "0,2",
		"1,2/0", "1/2,0", "1,2/3,0/", "1,2/3", "1,2/3,4", "1,2/3,3", "1,2/03,0", "1,2/+3,0", "1,2/-3,0", "1,2/0,4", "1,2\\3,0", "1,2/3,0 ",
		"1,2,3/4,5/0", "1,2/3,4,5/0", "1,2,3,0", "1/2/3/0", "1,2,3,4/5,6,7,0", "1,2/3,4/5,6/7,0", "1,2,3/4,5,6/7,8,9", "1,2,3/4,5,6/7,8,8",
		"1,2,3/4,5,6/7,8,0/", "1,2,3/4,5,6/7,8,0/9,10,11", "1,2,3/4,5,6/7,8", "1_0,0", "1,2/3,18446744073709551616", "1,18446744073709551616",
		"1,9223372036854775808", "１,0", "1,0x0", "1,0e0", strings.Repeat("0", 100000), strings.Repeat("0,", 100000), strings.Repeat("/", 100000),
	} {
		failsWithZeros(t, "ParseBoard", s)
	}
}

// TestCellsBehindABoardStayHidden has boards with spare room behind their cells.
func TestCellsBehindABoardStayHidden(t *testing.T) {
	for _, s := range []string{"0", "12/03", "102", "123/405/678"} {
		room := append(slices.Clone(boardFrom(s).Cells), 77, 78, 79)
		before := slices.Clone(room)
		b := boardFrom(s)
		spacious := impl.Board{Width: b.Width, Cells: room[:len(b.Cells)]}
		for name, function := range chapterFour() {
			list := argumentsFor(name, function, s)
			if _, isBoard := list[0].(impl.Board); !isBoard {
				continue
			}
			list[0] = b
			want, wantOk := call(function, list...)
			list[0] = spacious
			got, ok := call(function, list...)
			expect(t, name+" "+s, []any{got, ok}, want, wantOk)
			spoil(got)
			if !slices.Equal(room, before) {
				t.Fatalf("%s changes the cells of %s, and those behind them, to %v", name, s, room)
			}
		}
	}
}

// TestMovesHandOutNoCells spoils boards that come back as they are.
func TestMovesHandOutNoCells(t *testing.T) {
	b := boardFrom("12/30")
	for _, list := range [][]any{{"MoveByWord", b, ""}, {"MoveByWord", b, "ud"}, {"MoveHole", b, "u"}, {"MirrorBoard", b}} {
		results, ok := call(allFunctions()[list[0].(string)], list[1:]...)
		if !ok {
			t.Errorf("%q fails", list)
		}
		spoil(results)
		expect(t, "the board behind a call", []any{b}, boardFrom("12/30"))
	}
}
