package tests

import (
	"fmt"
	"math"
	"slices"
	"strconv"
	"strings"
	"testing"

	"loop.example/g01199/impl"
)

// The tests of promise 11 for chapter 9.

func chapterNine() map[string]any {
	return map[string]any{
		"IsPuzzle": impl.IsPuzzle, "IsSolvedBy": impl.IsSolvedBy, "SolutionOf": impl.SolutionOf, "LengthOf": impl.LengthOf,
		"CountSolutions": impl.CountSolutions, "AllSolutions": impl.AllSolutions, "ReplayOf": impl.ReplayOf,
		"FirstSolved": impl.FirstSolved, "HardestGoal": impl.HardestGoal, "NeedlessWalls": impl.NeedlessWalls,
		"TurnPuzzle": impl.TurnPuzzle, "MakePuzzle": impl.MakePuzzle, "PuzzleText": impl.PuzzleText, "ParsePuzzle": impl.ParsePuzzle,
	}
}

// functionsOfSolutions take a puzzle, and ask for its solutions.
func functionsOfSolutions() []string {
	return []string{"SolutionOf", "LengthOf", "CountSolutions", "AllSolutions", "NeedlessWalls"}
}

// functionsOfTries take a puzzle and a word, which the last one needs to solve it.
func functionsOfTries() []string {
	return []string{"IsSolvedBy", "ReplayOf", "FirstSolved"}
}

// argumentsOfPuzzles gives arguments with which the function succeeds.
func argumentsOfPuzzles(name string) []any {
	switch name {
	case "IsSolvedBy", "ReplayOf", "FirstSolved":
		return []any{puzzleFrom("a.#/...:a:4"), "rdl"}
	case "HardestGoal":
		return []any{"a.#/...", "a"}
	case "MakePuzzle":
		return []any{3, 4, 137}
	case "ParsePuzzle":
		return []any{"a.#/...:a:4"}
	}
	return []any{puzzleFrom("##./#../a.#:a:5")}
}

// notPuzzles are no puzzles, each for one reason.
func notPuzzles() []impl.Puzzle {
	puzzles := []impl.Puzzle{{}, {Tray: "a"}, {Name: "a"}, {Tray: "a./.#", Name: "a", Goal: 3}, {Tray: "#a", Name: "a", Goal: 0}}
	for _, s := range notTrays() {
		puzzles = append(puzzles, impl.Puzzle{Tray: s, Name: "a", Goal: 0})
	}
	for _, name := range notNames() {
		puzzles = append(puzzles, impl.Puzzle{Tray: "ab.o#", Name: name, Goal: 2})
	}
	for _, goal := range notCells(4) {
		puzzles = append(puzzles, impl.Puzzle{Tray: "a./..", Name: "a", Goal: goal})
	}
	return puzzles
}

// notNames are the names of no balls in the tray ab.o#.
func notNames() []string {
	return []string{
		"", "c", "d", "e", "f", "g", "o", ".", "#", "/", ":", "A", "B", "ab", "aa", "ba", "a ", " a", "a.", "abcdef", "\x00", "a\x00", "é", "`", "\xff",
		strings.Repeat("a", 1000),
	}
}

func failsAsPuzzle(t *testing.T, p impl.Puzzle) {
	t.Helper()
	for _, name := range append(functionsOfSolutions(), "IsPuzzle", "TurnPuzzle", "PuzzleText") {
		failsWithZeros(t, name, p)
	}
	for _, name := range functionsOfTries() {
		for _, word := range []string{"", "u", "rdlu", strings.Repeat("rd", 20), "x", strings.Repeat("u", 41)} {
			failsWithZeros(t, name, p, word)
		}
	}
}

func TestWhatIsNoPuzzleFails(t *testing.T) {
	for _, p := range notPuzzles() {
		failsAsPuzzle(t, p)
		// Nor has it a text that could be read back.
		failsWithZeros(t, "ParsePuzzle", textOfPuzzle(p))
	}
}

func TestGoalsThatAreWallsFail(t *testing.T) {
	for _, s := range greatTrays() {
		for _, name := range namesIn(s) {
			for _, n := range append(numbersOf(s, '#'), notCells(len(cellsOf(s)))...) {
				if n >= 0 && n < len(cellsOf(s)) && cellsOf(s)[n] != '#' {
					continue
				}
				p := impl.Puzzle{Tray: s, Name: name, Goal: n}
				expect(t, fmt.Sprint("IsPuzzle ", p), []any{impl.IsPuzzle(p)}, false)
				failsAsPuzzle(t, p)
			}
		}
	}
}

func TestHardestGoalsOfNoBallsFail(t *testing.T) {
	for _, s := range notTrays() {
		for _, name := range []string{"a", "b", "", "aa"} {
			failsWithZeros(t, "HardestGoal", s, name)
		}
	}
	for _, name := range notNames() {
		for _, s := range []string{"ab.o#", ".", "#", "ab/.."} {
			failsWithZeros(t, "HardestGoal", s, name)
		}
	}
}

func TestTextsThatAreNoWordsAreNotTried(t *testing.T) {
	for _, word := range notWords() {
		for _, text := range []string{"a:a:0", "a./..:a:3", "a./..:a:0", "a#.:a:2", ".a.b.:b:4", reachesMore + ":b:11"} {
			for _, name := range functionsOfTries() {
				failsWithZeros(t, name, puzzleFrom(text), word)
			}
		}
	}
	// Not even a beginning of such a text that would solve the puzzle is told.
	for _, word := range []string{"rdx", "rd ", "rd" + strings.Repeat("u", 39), "rdlurdlU"} {
		failsWithZeros(t, "FirstSolved", puzzleFrom("a./..:a:3"), word)
	}
}

func TestSizesOfNoMadePuzzlesFail(t *testing.T) {
	for _, n := range append(greatNumbers(), 0, 1, 6, 7, -5) {
		for _, other := range []int{2, 3, 5, n} {
			for _, seed := range []int{0, 1, 137, 9999} {
				failsWithZeros(t, "MakePuzzle", n, other, seed)
				failsWithZeros(t, "MakePuzzle", other, n, seed)
			}
		}
	}
}

func TestSeedsOutsideFail(t *testing.T) {
	for _, seed := range []int{-1, -2, -137, -9999, 10000, 10001, 10006, 10007, 10008, 1 << 32, 1<<32 + 1, math.MaxInt, math.MaxInt / 137, math.MinInt, math.MinInt + 1} {
		for w := 2; w <= 5; w++ {
			for h := 2; h <= 5; h++ {
				failsWithZeros(t, "MakePuzzle", w, h, seed)
			}
		}
	}
}

func TestTextsOfNoPuzzlesFail(t *testing.T) {
	for _, text := range []string{
		"", ":", "::", ":::", "a", "a:", "a:a", "a:a:", "a:a:0:", ":a:a:0", "a:a:0:0", "a::0", ":a:0", "a:a:0\n", "\na:a:0", "a:a:0 ", " a:a:0", "a :a:0", "a: a:0", "a:a: 0",
		"a./..:a", "a./..:3", "a./..:a3", "a./..a:3", "a./..", "a./..:a:3:", "a./..:a:3:3", "a./..::a:3", "a./..:a::3", "a./..;a;3", "a./..:a:3/", "a./../:a:3",
		"a./..:a:+3", "a./..:a:-3", "a./..:a:-0", "a./..:a:+0", "a./..:a:03", "a./..:a:00", "a./..:a:3.0", "a./..:a:3e0", "a./..:a:0x3", "a./..:a:0b1", "a./..:a:0o3", "a./..:a:0_3", "a./..:a:1_1",
		"a./..:a:4", "a./..:a:36", "a./..:a:-1", "a./..:a:x", "a./..:a:a", "a./..:a:r", "a./..:a:³", "a./..:a:٣", "a./..:a:three", "a./..:a:\x03", "a./..:a:3\x00",
		"a./..:b:3", "a./..:o:3", "a./..:.:3", "a./..:A:3", "a./..:aa:3", "a./..:a.:3", "a./.#:a:3", "#a:a:0", "g./..:g:3", "a./.:a:2", "aa/..:a:3", "../..:a:3",
		"a./..:a:4294967299", "a./..:a:9223372036854775807", "a./..:a:9223372036854775808", "a./..:a:18446744073709551616", "a./..:a:18446744073709551619", "a./..:a:-9223372036854775808", "a./..:a:-18446744073709551613",
		"a./..:a:" + strings.Repeat("0", 100) + "3", "a./..:a:" + strings.Repeat("9", 1000), "a./..:a:1" + strings.Repeat("0", 63), strings.Repeat(":", 100000), strings.Repeat("a:", 100000), strings.Repeat("a./..:a:3", 2), "a./..:a:3\na./..:a:3",
	} {
		failsWithZeros(t, "ParsePuzzle", text)
	}
	// The text of each puzzle is the only one that is read as this.
	for _, p := range samplePuzzles()[:200] {
		text := textOfPuzzle(p)
		for _, other := range []string{text + " ", text + "0", " " + text, text[:len(text)-1], text[1:], strings.ToUpper(text), strings.Replace(text, ":", "", 1), text + "\x00"} {
			if q, ok := impl.ParsePuzzle(other); ok && textOfPuzzle(q) != other {
				t.Errorf("%q is read as %v", other, q)
			}
		}
		failsWithZeros(t, "ParsePuzzle", p.Tray+":"+p.Name+":+"+strconv.Itoa(p.Goal))
		failsWithZeros(t, "ParsePuzzle", p.Tray+":"+p.Name+":0"+strconv.Itoa(p.Goal))
	}
}

func TestArgumentsOfPuzzlesSucceed(t *testing.T) {
	for name, function := range chapterNine() {
		list := argumentsOfPuzzles(name)
		if results, ok := call(function, list...); !ok {
			t.Errorf("%s%q fails with %v", name, list, results)
		}
	}
}

// TestListsOfPuzzlesAreTheirOwn spoils what one call hands out, and asks the next one.
func TestListsOfPuzzlesAreTheirOwn(t *testing.T) {
	for _, c := range []struct {
		name string
		list []any
	}{
		{"AllSolutions", []any{puzzleFrom("a./..:a:3")}}, {"AllSolutions", []any{puzzleFrom(oneHundred)}}, {"AllSolutions", []any{puzzleFrom("a:a:0")}},
		{"ReplayOf", []any{puzzleFrom("a./..:a:3"), "rdlu"}}, {"ReplayOf", []any{puzzleFrom("a:a:0"), ""}},
		{"NeedlessWalls", []any{puzzleFrom("#b#/###:b:1")}}, {"NeedlessWalls", []any{puzzleFrom("##./#../a.#:a:5")}},
	} {
		first, _ := call(chapterNine()[c.name], c.list...)
		want := fmt.Sprint(first)
		second, ok := call(chapterNine()[c.name], c.list...)
		spoil(first)
		expect(t, c.name+" told before", []any{fmt.Sprint(second), ok}, want, true)
		third, ok := call(chapterNine()[c.name], c.list...)
		expect(t, c.name+" told again", []any{fmt.Sprint(third), ok}, want, true)
	}
}

// TestReplaysAreAlwaysToldAlike calls often: the trays come from a goroutine, and so does the answer.
func TestReplaysAreAlwaysToldAlike(t *testing.T) {
	p, word := puzzleFrom(farTray+":a:3"), strings.Repeat("urdl", 10)
	want := replayModel(p.Tray, word)
	for range 300 {
		trays, ok := impl.ReplayOf(p, word)
		if !ok || !slices.Equal(trays, want) {
			t.Fatalf("ReplayOf is %q, %v and should be %q", trays, ok, want)
		}
	}
}
