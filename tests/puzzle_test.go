package tests

import (
	"fmt"
	"slices"
	"strings"
	"testing"

	"loop.example/g01199/impl"
)

// The tests of promise 9: solutions are shortest, all are told, and made puzzles have the hardest goals.

func TestExampleOfPuzzles(t *testing.T) {
	p := impl.Puzzle{Tray: "a./..", Name: "a", Goal: 3}
	expect(t, "IsPuzzle", []any{impl.IsPuzzle(p)}, true)
	length, ok := impl.LengthOf(p)
	expect(t, "LengthOf", []any{length, ok}, 2, true)
	words, ok := impl.AllSolutions(p)
	expect(t, "AllSolutions", []any{words, ok}, []string{"rd", "dr"}, true)
	goal, length, ok := impl.HardestGoal("a.#/...", "a")
	expect(t, "HardestGoal", []any{goal, length, ok}, 4, 2, true)
	words, ok = impl.AllSolutions(impl.Puzzle{Tray: "a.#/...", Name: "a", Goal: 4})
	expect(t, "AllSolutions", []any{words, ok}, []string{"rd"}, true)
	length, ok = impl.LengthOf(impl.Puzzle{Tray: "a.#/...", Name: "a", Goal: 5})
	expect(t, "LengthOf", []any{length, ok}, 2, true)
}

// TestPuzzlesAreTold takes all names and goals, those that make no puzzle with them.
func TestPuzzlesAreTold(t *testing.T) {
	for _, s := range slices.Concat(allTrays(2, 2, "#.oab"), allTrays(3, 1, "#.oa"), greatTrays()) {
		for _, name := range strings.Split("abcdefo.#", "") {
			for goal := -1; goal <= len(cellsOf(s)); goal++ {
				p := impl.Puzzle{Tray: s, Name: name, Goal: goal}
				expect(t, fmt.Sprint("IsPuzzle ", p), []any{impl.IsPuzzle(p)}, isPuzzleModel(p))
			}
		}
	}
}

// expectSolutions holds what is told of solutions against all of them: none if the puzzle is not solved.
func expectSolutions(t *testing.T, p impl.Puzzle, want []string) {
	t.Helper()
	what, isSolved, first := fmt.Sprint(p), len(want) > 0, ""
	if isSolved {
		first = want[0]
	}
	word, ok := impl.SolutionOf(p)
	expect(t, "SolutionOf "+what, []any{word, ok}, first, isSolved)
	length, ok := impl.LengthOf(p)
	expect(t, "LengthOf "+what, []any{length, ok}, len(first), isSolved)
	count, ok := impl.CountSolutions(p)
	expect(t, "CountSolutions "+what, []any{count, ok}, len(want), isSolved)
	words, ok := impl.AllSolutions(p)
	if len(want) > 100 {
		isSolved, want = false, nil
	}
	expect(t, "AllSolutions "+what, []any{words, ok}, want, isSolved)
}

// hasNoSolutions is for what the document lets fail where solutions are asked for. All else is told of such a puzzle.
func hasNoSolutions(t *testing.T, p impl.Puzzle) {
	t.Helper()
	for _, name := range functionsOfSolutions() {
		failsWithZeros(t, name, p)
	}
	for _, name := range functionsOfTries()[:2] {
		if results, ok := call(chapterNine()[name], p, "urdl"); !ok {
			t.Errorf("%s of %v fails with %v", name, p, results)
		}
	}
	text, ok := impl.PuzzleText(p)
	expect(t, fmt.Sprint("PuzzleText ", p), []any{impl.IsPuzzle(p), text, ok}, true, textOfPuzzle(p), true)
}

func TestSolutions(t *testing.T) {
	for _, s := range sampleReached() {
		told := reachModel(s)
		for _, p := range puzzlesOf(s) {
			words := told.solutions(p.Name, p.Goal)
			if len(words) > 0 && len(words[0]) > 40 {
				words = nil
			}
			expectSolutions(t, p, words)
			if len(words) == 0 {
				hasNoSolutions(t, p)
			}
		}
	}
}

// TestSolutionsAreShortest tries all words that are not longer.
func TestSolutionsAreShortest(t *testing.T) {
	for _, p := range samplePuzzles() {
		length, ok := impl.LengthOf(p)
		if !ok || length > 4 || len(p.Tray) > 20 {
			continue
		}
		words, ok := impl.AllSolutions(p)
		expect(t, fmt.Sprint("AllSolutions ", p), []any{words, ok}, triedModel(p, length), true)
	}
}

func TestSolutionsSolve(t *testing.T) {
	for _, p := range samplePuzzles() {
		words, _ := impl.AllSolutions(p)
		for _, word := range words {
			is, ok := impl.IsSolvedBy(p, word)
			expect(t, fmt.Sprint("IsSolvedBy ", p, word), []any{is, ok}, true, true)
			beginning, ok := impl.FirstSolved(p, word)
			expect(t, fmt.Sprint("FirstSolved ", p, word), []any{beginning, ok}, word, true)
		}
	}
}

func TestBallsInTheirGoals(t *testing.T) {
	for _, text := range []string{
		"a:a:0", "a./..:a:0", "ab:b:1", "#a#:a:1", ".a.:a:1", ".../.f./...:f:4", "a.o/.#.:a:0", "oo/ao:a:2", "a#/#b:b:3", ".../..c:c:5",
		withText(freeText(6, 6), 35, "d") + ":d:35", reachesAll + ":b:11", reachesAll + ":a:0", farTray + ":c:14",
	} {
		p := puzzleFrom(text)
		expect(t, "IsPuzzle "+text, []any{impl.IsPuzzle(p)}, true)
		expectSolutions(t, p, []string{""})
		is, ok := impl.IsSolvedBy(p, "")
		expect(t, "IsSolvedBy "+text, []any{is, ok}, true, true)
		for _, word := range []string{"", "u", "rdlu", strings.Repeat("dr", 20)} {
			beginning, ok := impl.FirstSolved(p, word)
			expect(t, "FirstSolved "+text+" "+word, []any{beginning, ok}, "", true)
		}
		trays, ok := impl.ReplayOf(p, "")
		expect(t, "ReplayOf "+text, []any{trays, ok}, []string{p.Tray}, true)
	}
}

func TestGoalsThatAreOnlyPassed(t *testing.T) {
	for _, c := range []struct{ text, word string }{
		{"a..:a:1", "rlrl"}, {"..a:a:1", "l"}, {"a/././.:a:2", "dud"}, {"a../.../...:a:5", "rdlu"}, {"a../.../...:a:1", "rr"}, {"a...b:a:2", "r"},
		{".../a../...:a:4", "rul"},
	} {
		p := puzzleFrom(c.text)
		is, ok := impl.IsSolvedBy(p, c.word)
		expect(t, "IsSolvedBy "+c.text, []any{is, ok}, false, true)
		failsWithZeros(t, "FirstSolved", p, c.word)
		hasNoSolutions(t, p)
	}
	// Another ball, or a wall, makes the ball stop where it only passed.
	for text, want := range map[string][]string{"a.o:a:1": {"r"}, "a.#:a:1": {"r"}, "a.b:a:1": {"r"}, "a/./#:a:1": {"d"}} {
		expectSolutions(t, puzzleFrom(text), want)
	}
}

func TestGoalsThatNoWordReaches(t *testing.T) {
	for _, text := range []string{
		"a#.:a:2", "ab:a:1", "ab:b:0", "a#/#b:a:3", "a#/#b:b:0", "ao/oo:a:3", "a.o:a:2", "oa:a:0", ".#a/.##:a:3", "a.b/###:b:0", "ab/..:b:2",
		withText(freeText(6, 6), 0, "a") + ":a:14",
	} {
		p := puzzleFrom(text)
		hasNoSolutions(t, p)
		for _, word := range sampleWords()[:85] {
			is, ok := impl.IsSolvedBy(p, word)
			expect(t, "IsSolvedBy "+text+" "+word, []any{is, ok}, false, true)
			failsWithZeros(t, "FirstSolved", p, word)
		}
	}
}

func TestPuzzlesOfOneRowOrColumn(t *testing.T) {
	for text, want := range map[string][]string{
		"a:a:0": {""}, "a.:a:1": {"r"}, ".a:a:0": {"l"}, "a/.:a:1": {"d"}, "./a:a:0": {"u"},
		".a.....:a:6": {"r"}, ".a.....:a:0": {"l"}, ".a.....:a:1": {""}, ".a.....:a:3": nil, "./././b/./.:b:5": {"d"}, "./././b/./.:b:4": nil,
		".#.a.o#:a:4": {"r"}, ".#.a.o#:a:2": {"l"}, ".#.a.o#:a:0": nil, ".a.b.:b:1": {"l"}, ".a.b.:a:3": {"r"}, ".a.b.:b:4": {"r"}, ".a.b.:b:0": nil,
		"o/a/.:a:1": {""}, "o/a/.:a:2": {"d"}, "./c/o:c:0": {"u"}, "./c/o:c:1": {""}, "././f/#:f:0": {"u"},
	} {
		expectSolutions(t, puzzleFrom(text), want)
	}
}

func TestBallsBesideOthers(t *testing.T) {
	for text, want := range map[string][]string{
		"ao./...:a:1": {"r"}, "oa./...:a:1": {""}, "oa./...:a:2": {"r"}, "oa./...:a:4": {"d"}, "ab/..:b:3": {"d"}, "b./a.:b:1": {"r"}, "abc/...:b:4": {"d"},
		"a.b/.o.:a:1": {"r"}, "a.o/.#.:a:4": nil, "a.o/.#.:a:3": {"d"},
	} {
		expectSolutions(t, puzzleFrom(text), want)
	}
}

// TestNamesOfOtherBallsDoNotMatter gives all balls of a tray other names: the ball that was a has another one, too.
func TestNamesOfOtherBallsDoNotMatter(t *testing.T) {
	for tray, renamed := range map[string]string{"ab./.c./..#": "fe./.d./..#", "..a/b#./...": "..d/c#./...", "a.b.c/....#": "c.a.b/....#"} {
		name := renamed[strings.Index(tray, "a"):][:1]
		for _, n := range numbersOf(tray, '.') {
			words, ok := impl.AllSolutions(impl.Puzzle{Tray: tray, Name: "a", Goal: n})
			p := impl.Puzzle{Tray: renamed, Name: name, Goal: n}
			got, gotOk := impl.AllSolutions(p)
			expect(t, fmt.Sprint("AllSolutions ", p), []any{got, gotOk}, words, ok)
		}
	}
}

func TestNumbersOfSolutions(t *testing.T) {
	for text, want := range map[string]int{
		"a./..:a:3": 2, "a./..:a:1": 1, ".../.a./...:a:8": 2, "..#../.a.../.....:a:0": 2,
		ninetyNine: 99, oneHundred: 100, oneHundredToo: 100, oneHundredAndTwo: 102, oneThousand: 1024,
	} {
		p := puzzleFrom(text)
		words := reachModel(p.Tray).solutions(p.Name, p.Goal)
		expect(t, "the model "+text, []any{len(words)}, want)
		expectSolutions(t, p, words)
		if want > 100 {
			failsWithZeros(t, "AllSolutions", p)
		}
	}
}

func TestTraysOfPuzzlesThatReachExactlyTheLimit(t *testing.T) {
	told := reachModel(reachesAll)
	for _, p := range puzzlesOf(reachesAll) {
		words := told.solutions(p.Name, p.Goal)
		expectSolutions(t, p, words)
	}
	for _, name := range []string{"a", "b"} {
		goal, length := told.hardest(name)
		got, gotLength, ok := impl.HardestGoal(reachesAll, name)
		expect(t, "HardestGoal "+name, []any{got, gotLength, ok}, goal, length, true)
	}
}

// TestTraysOfPuzzlesThatReachMore has goals that are reached, the cells of the balls themselves among them: words are tried, but no solutions are told.
func TestTraysOfPuzzlesThatReachMore(t *testing.T) {
	for _, p := range puzzlesOf(reachesMore) {
		hasNoSolutions(t, p)
		failsWithZeros(t, "HardestGoal", p.Tray, p.Name)
		isThere := strings.Index(cellsOf(p.Tray), p.Name) == p.Goal
		is, ok := impl.IsSolvedBy(p, "")
		expect(t, fmt.Sprint("IsSolvedBy ", p), []any{is, ok}, isThere, true)
		for _, word := range []string{"", "l", "urdl", "drul"} {
			want, found := firstSolvedModel(p, word)
			beginning, ok := impl.FirstSolved(p, word)
			expect(t, fmt.Sprint("FirstSolved ", p, word), []any{beginning, ok}, want, found)
		}
	}
}

func TestSolutionsOfExactlyMaxWordDirections(t *testing.T) {
	told := reachModel(farBallTray)
	const word = "uldruldruldruldruldruldruldruldruldrurdl"
	p := impl.Puzzle{Tray: farBallTray, Name: "c", Goal: 19}
	words := told.solutions("c", 19)
	expect(t, "the model", []any{len(words[0]), words[0]}, 40, word)
	expectSolutions(t, p, words)
	is, ok := impl.IsSolvedBy(p, word)
	expect(t, "IsSolvedBy", []any{is, ok}, true, true)
	beginning, ok := impl.FirstSolved(p, word)
	expect(t, "FirstSolved", []any{beginning, ok}, word, true)
	failsWithZeros(t, "FirstSolved", p, word[:39])
	failsWithZeros(t, "FirstSolved", p, word+"u")
	trays, ok := impl.ReplayOf(p, word)
	expect(t, "ReplayOf", []any{len(trays), ok}, 41, true)

	p.Goal = 9
	expect(t, "the model", []any{len(told.solutions("c", 9)[0])}, 41)
	hasNoSolutions(t, p)
	turned, ok := impl.TurnPuzzle(p)
	expect(t, "TurnPuzzle", []any{turned, ok}, turnedPuzzleModel(p), true)
	hasNoSolutions(t, turned)
}

func TestHardestGoalsOfExactlyMaxWordDirections(t *testing.T) {
	for text, want := range map[string]int{farGoal: 40, farGoalToo: 40, "###aooo/#.#ooo#/o#.oooo/##.####/..#####:a:16": 39} {
		p := puzzleFrom(text)
		goal, length := reachModel(p.Tray).hardest(p.Name)
		expect(t, "the model "+text, []any{goal, length}, p.Goal, want)
		goal, length, ok := impl.HardestGoal(p.Tray, p.Name)
		expect(t, "HardestGoal "+text, []any{goal, length, ok}, p.Goal, want, true)
	}
	for _, text := range []string{farBallTray + ":c:9", "ooao#/o#o#./oooo.:a:3", ".#ao/.ooo/o#oo/ooo#:a:13"} {
		p := puzzleFrom(text)
		goal, length := reachModel(p.Tray).hardest(p.Name)
		expect(t, "the model "+text, []any{goal, length > 40}, p.Goal, true)
		failsWithZeros(t, "HardestGoal", p.Tray, p.Name)
	}
}

func TestReplays(t *testing.T) {
	words := sampleWords()
	for i, p := range samplePuzzles() {
		// Each puzzle has some of the words.
		for _, word := range []string{"", words[i%len(words)], words[i*7%len(words)], words[len(words)-1-i%13]} {
			what := fmt.Sprint(p, " ", word)
			want := replayModel(p.Tray, word)
			trays, ok := impl.ReplayOf(p, word)
			expect(t, "ReplayOf "+what, []any{trays, ok}, want, true)
			is, ok := impl.IsSolvedBy(p, word)
			expect(t, "IsSolvedBy "+what, []any{is, ok}, isSolvedModel(p, want[len(word)]), true)
			first, found := firstSolvedModel(p, word)
			beginning, ok := impl.FirstSolved(p, word)
			expect(t, "FirstSolved "+what, []any{beginning, ok}, first, found)
		}
	}
}

func TestKnownReplays(t *testing.T) {
	p := impl.Puzzle{Tray: "a./..", Name: "a", Goal: 3}
	trays, ok := impl.ReplayOf(p, "rdl")
	expect(t, "ReplayOf", []any{trays, ok}, []string{"a./..", ".a/..", "../.a", "../a."}, true)
	trays, ok = impl.ReplayOf(p, "uu")
	expect(t, "ReplayOf", []any{trays, ok}, []string{"a./..", "a./..", "a./.."}, true)
	for _, c := range []struct {
		word      string
		is        bool
		beginning string
		found     bool
	}{
		{"", false, "", false}, {"r", false, "", false}, {"rd", true, "rd", true}, {"rdl", false, "rd", true}, {"rdlr", true, "rd", true},
		{"urrd", true, "urrd", true}, {"ulul", false, "", false}, {"drul", false, "dr", true}, {strings.Repeat("u", 38) + "rd", true, strings.Repeat("u", 38) + "rd", true},
		{strings.Repeat("rdlu", 10), false, "rd", true}, {strings.Repeat("rdlu", 9) + "rd", true, "rd", true}, {strings.Repeat("ul", 20), false, "", false},
	} {
		is, ok := impl.IsSolvedBy(p, c.word)
		expect(t, "IsSolvedBy "+c.word, []any{is, ok}, c.is, true)
		beginning, ok := impl.FirstSolved(p, c.word)
		expect(t, "FirstSolved "+c.word, []any{beginning, ok}, c.beginning, c.found)
	}
}

func TestHardestGoals(t *testing.T) {
	for _, s := range sampleReached() {
		told := reachModel(s)
		for _, name := range namesIn(s) {
			wantGoal, wantLength := told.hardest(name)
			isWord := wantLength <= 40
			if !isWord {
				wantGoal, wantLength = 0, 0
			}
			goal, length, ok := impl.HardestGoal(s, name)
			expect(t, "HardestGoal "+s+" "+name, []any{goal, length, ok}, wantGoal, wantLength, isWord)
		}
	}
}

func TestKnownHardestGoals(t *testing.T) {
	for _, c := range []struct {
		s, name      string
		goal, length int
	}{
		// Several goals are as hard: the first one of them is told.
		{"a.#/...", "a", 4, 2}, {".../.a./...", "a", 0, 2}, {".a.", "a", 0, 1}, {"..a./....", "a", 4, 2}, {"./b/.", "b", 0, 1},
		// One alone is the hardest.
		{"a./..", "a", 3, 2}, {"../.a", "a", 0, 2}, {"a..", "a", 2, 1}, {"a.o", "a", 1, 1}, {"a.b", "b", 1, 1}, {"##./#../a.#", "a", 2, 4},
		// The ball never moves: its own cell is the only one.
		{"a", "a", 0, 0}, {"ab", "b", 1, 0}, {"#f#", "f", 1, 0}, {"oo/ao", "a", 2, 0}, {"..#c", "c", 3, 0}, {"###/#e#/###", "e", 4, 0},
	} {
		goal, length, ok := impl.HardestGoal(c.s, c.name)
		expect(t, "HardestGoal "+c.s+" "+c.name, []any{goal, length, ok}, c.goal, c.length, true)
	}
}

func expectWalls(t *testing.T, p impl.Puzzle, want []int, wantOk bool) {
	t.Helper()
	walls, ok := impl.NeedlessWalls(p)
	if ok != wantOk || !slices.Equal(walls, want) {
		t.Errorf("NeedlessWalls of %v: %v, %v and should be %v, %v", p, walls, ok, want, wantOk)
	}
}

func TestNeedlessWalls(t *testing.T) {
	for i, p := range samplePuzzles() {
		// Of the many puzzles it takes some.
		if i%7 == 0 {
			want, wantOk := needlessModel(p)
			expectWalls(t, p, want, wantOk)
		}
	}
}

func TestKnownNeedlessWalls(t *testing.T) {
	for text, want := range map[string][]int{
		"##./#../a.#:a:5": {0}, "a.#/...:a:5": {2}, "a.#/...:a:4": nil, "a#./...:a:2": nil, "a./..:a:3": nil, "a:a:0": nil,
		"a#:a:0": {1}, "#b#/###:b:1": {0, 2, 3, 4, 5}, "a.#.:a:1": nil, "#../#.a:a:4": {0}, "#../#.a:a:1": {0, 3},
	} {
		expectWalls(t, puzzleFrom(text), want, true)
	}
}

// TestWallsTakenOut has a wall that does not matter, and others that make the length greater and smaller, or the puzzle fail.
func TestWallsTakenOut(t *testing.T) {
	p := puzzleFrom("##./#../a.#:a:5")
	for wall, want := range map[int][]string{0: {"rur"}, 1: {"rurd"}, 3: {"ur"}, 8: nil} {
		expectSolutions(t, withoutWall(p, wall), want)
	}
	expectSolutions(t, p, []string{"rur"})
	// A puzzle that fails has no needless walls, even if it does not fail without one of them.
	for _, c := range []struct {
		text string
		wall int
		want string
	}{{"a#.:a:2", 1, "r"}, {"a#/#.:a:3", 1, "rd"}, {"a#/#.:a:3", 2, "dr"}} {
		hasNoSolutions(t, puzzleFrom(c.text))
		expectSolutions(t, withoutWall(puzzleFrom(c.text), c.wall), []string{c.want})
	}
}

// TestWallsBetweenExactlyTheLimitOfTrays takes walls out so that exactly as many trays are reached as may be, and so that one more is.
func TestWallsBetweenExactlyTheLimitOfTrays(t *testing.T) {
	for _, s := range []string{reachesAll, reachesMore} {
		told, decided := reachModel(s), 0
		for _, n := range numbersOf(s, '.') {
			closed := withText(s, n, "#")
			if countModel(closed) > 300 {
				continue
			}
			for _, p := range puzzlesOf(closed) {
				length, isSolved := lengthModel(p)
				words := told.solutions(p.Name, p.Goal)
				if !isSolved || len(words) == 0 || len(words[0]) != length {
					continue
				}
				decided++
				walls, ok := impl.NeedlessWalls(p)
				if !ok || slices.Contains(walls, n) != (s == reachesAll) {
					t.Errorf("NeedlessWalls of %v, without %d %s, is %v, %v", p, n, s, walls, ok)
				}
			}
		}
		if decided == 0 {
			t.Errorf("no wall decides for %s", s)
		}
	}
}

func TestTurnedPuzzles(t *testing.T) {
	for _, p := range samplePuzzles() {
		want := turnedPuzzleModel(p)
		turned, ok := impl.TurnPuzzle(p)
		expect(t, fmt.Sprint("TurnPuzzle ", p), []any{turned, ok}, want, true)
		for range 3 {
			turned, _ = impl.TurnPuzzle(turned)
		}
		expect(t, fmt.Sprint("TurnPuzzle four times ", p), []any{turned}, p)
	}
	p, ok := impl.TurnPuzzle(puzzleFrom("a.#/...:a:4"))
	expect(t, "TurnPuzzle", []any{p, ok}, puzzleFrom(".a/../.#:a:2"), true)
}

// TestTurnedPuzzlesHaveTurnedSolutions compares them without their order, which turning changes.
func TestTurnedPuzzlesHaveTurnedSolutions(t *testing.T) {
	for _, p := range samplePuzzles() {
		words, ok := impl.AllSolutions(p)
		turned, _ := impl.TurnPuzzle(p)
		turnedWords, turnedOk := impl.AllSolutions(turned)
		var want []string
		for _, word := range words {
			want = append(want, turnedModel(word, 1))
		}
		slices.SortFunc(want, compareWords)
		expect(t, fmt.Sprint("AllSolutions ", turned), []any{turnedWords, turnedOk}, want, ok)
	}
}

func TestMadePuzzles(t *testing.T) {
	failed := 0
	for w := 2; w <= 5; w++ {
		for h := 2; h <= 5; h++ {
			for _, seed := range []int{0, 1, 2, 5, 73, 111, 131, 477, 1314, 1605, 4711, 9998, 9999} {
				s := madeModel(w, h, seed)
				var want impl.Puzzle
				isMade := countModel(s) <= 300
				if isMade {
					goal, _ := reachModel(s).hardest("a")
					want = impl.Puzzle{Tray: s, Name: "a", Goal: goal}
				} else {
					failed++
				}
				p, ok := impl.MakePuzzle(w, h, seed)
				expect(t, fmt.Sprint("MakePuzzle ", w, h, seed), []any{p, ok}, want, isMade)
			}
		}
	}
	if failed == 0 {
		t.Error("no puzzle fails")
	}
}

// TestMadePuzzlesHaveTheHardestGoals takes many seeds, and asks the program for the goals of the trays.
func TestMadePuzzlesHaveTheHardestGoals(t *testing.T) {
	for seed := 0; seed <= 9999; seed += 37 {
		w, h := 2+seed%4, 2+seed/4%4
		s := madeModel(w, h, seed)
		goal, length, ok := impl.HardestGoal(s, "a")
		p, made := impl.MakePuzzle(w, h, seed)
		if !ok {
			expect(t, fmt.Sprint("MakePuzzle ", w, h, seed), []any{p, made}, impl.Puzzle{}, false)
			continue
		}
		expect(t, fmt.Sprint("MakePuzzle ", w, h, seed), []any{p, made}, impl.Puzzle{Tray: s, Name: "a", Goal: goal}, true)
		got, ok := impl.LengthOf(p)
		expect(t, fmt.Sprint("LengthOf ", p), []any{got, ok}, length, true)
	}
}

// TestKnownMadePuzzles has the numbers 187, 5792, 3138, 9799 and 1712 for the first one.
func TestKnownMadePuzzles(t *testing.T) {
	for _, c := range []struct {
		w, h, seed int
		text       string
	}{
		{2, 2, 0, "a./..:a:3"}, {2, 2, 9999, "a#/#.:a:0"}, {5, 5, 9999, ".a#.#/#.###/##..#/.##.#/..#.#:a:0"},
		{2, 5, 0, "../../.a/o./#.:a:2"}, {2, 5, 9999, ".#/#./#a/.#/##:a:3"}, {5, 2, 0, "...../ao.#.:a:2"}, {5, 2, 9999, ".##.#/a.###:a:0"},
	} {
		p, ok := impl.MakePuzzle(c.w, c.h, c.seed)
		expect(t, fmt.Sprint("MakePuzzle ", c.w, c.h, c.seed), []any{p, ok}, puzzleFrom(c.text), true)
	}
	// The tray made from this seed reaches too many others.
	expect(t, "the model", []any{countModel(madeModel(5, 5, 0))}, 301)
	failsWithZeros(t, "MakePuzzle", 5, 5, 0)
	// The one made from this seed does not, but its hardest goal needs more than MaxWord directions.
	far := madeModel(5, 5, 5614)
	goal, length := reachModel(far).hardest("a")
	expect(t, "the model", []any{far, countModel(far) <= 300, goal, length}, "...../ao.#./###../##o../#..o.", true, 21, 41)
	failsWithZeros(t, "MakePuzzle", 5, 5, 5614)
	failsWithZeros(t, "HardestGoal", far, "a")
}

func TestPuzzleTexts(t *testing.T) {
	for _, p := range samplePuzzles() {
		want := textOfPuzzle(p)
		text, ok := impl.PuzzleText(p)
		expect(t, fmt.Sprint("PuzzleText ", p), []any{text, ok}, want, true)
		read, ok := impl.ParsePuzzle(text)
		expect(t, "ParsePuzzle "+text, []any{read, ok}, p, true)
	}
	text, ok := impl.PuzzleText(impl.Puzzle{Tray: "a./..", Name: "a", Goal: 3})
	expect(t, "PuzzleText", []any{text, ok}, "a./..:a:3", true)
	p, ok := impl.ParsePuzzle(withText(freeText(6, 6), 0, "f") + ":f:35")
	expect(t, "ParsePuzzle", []any{p, ok}, impl.Puzzle{Tray: withText(freeText(6, 6), 0, "f"), Name: "f", Goal: 35}, true)
}
