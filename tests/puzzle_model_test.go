package tests

import (
	"slices"
	"strconv"
	"strings"

	"loop.example/g01199/impl"
)

// The models of chapter 9 sort all shortest words to all trays, and try words; the program goes back from the solved trays.

func cellsOf(s string) string {
	return strings.ReplaceAll(s, "/", "")
}

func isPuzzleModel(p impl.Puzzle) bool {
	if !isTrayModel(p.Tray) || len(p.Name) != 1 || p.Name < "a" || p.Name > "f" || !strings.Contains(p.Tray, p.Name) {
		return false
	}
	cells := cellsOf(p.Tray)
	return p.Goal >= 0 && p.Goal < len(cells) && cells[p.Goal] != '#'
}

func isSolvedModel(p impl.Puzzle, tray string) bool {
	return strings.Index(cellsOf(tray), p.Name) == p.Goal
}

// solutions returns the shortest ones of all words to trays in which the ball stands in the goal, however long they are.
func (told reachTold) solutions(name string, goal int) []string {
	var words []string
	for u, shortest := range told.words {
		if strings.Index(cellsOf(u), name) == goal {
			words = append(words, shortest...)
		}
	}
	slices.SortFunc(words, compareWords)
	return slices.DeleteFunc(words, func(word string) bool { return len(word) > len(words[0]) })
}

// triedModel tries all words of at most n directions, and returns those of the least length that solve the puzzle, in order.
func triedModel(p impl.Puzzle, n int) []string {
	words, trays := []string{""}, []string{p.Tray}
	for length := 0; ; length++ {
		var solutions, longer, next []string
		for i, word := range words {
			if isSolvedModel(p, trays[i]) {
				solutions = append(solutions, word)
			}
		}
		if len(solutions) > 0 || length == n {
			return solutions
		}
		for i, word := range words {
			for _, dir := range strings.Split("urdl", "") {
				longer = append(longer, word+dir)
				next = append(next, tiltModel(trays[i], dir).tray)
			}
		}
		words, trays = longer, next
	}
}

func replayModel(s, word string) []string {
	trays := []string{s}
	for _, dir := range strings.Split(word, "") {
		s = tiltModel(s, dir).tray
		trays = append(trays, s)
	}
	return trays
}

func firstSolvedModel(p impl.Puzzle, word string) (string, bool) {
	for length, tray := range replayModel(p.Tray, word) {
		if isSolvedModel(p, tray) {
			return word[:length], true
		}
	}
	return "", false
}

// hardest returns the goal and its length, however great it is.
func (told reachTold) hardest(name string) (int, int) {
	goal, greatest := -1, -1
	for cell, word := range told.wordsOfBall(name) {
		if len(word) > greatest || len(word) == greatest && cell < goal {
			goal, greatest = cell, len(word)
		}
	}
	return goal, greatest
}

// lengthModel fails as the document says for puzzles that have no solutions, or too long ones.
func lengthModel(p impl.Puzzle) (int, bool) {
	if countModel(p.Tray) > 300 {
		return 0, false
	}
	word, found := reachModel(p.Tray).wordsOfBall(p.Name)[p.Goal]
	if !found || len(word) > 40 {
		return 0, false
	}
	return len(word), true
}

// withoutWall returns the puzzle with a free cell for a wall.
func withoutWall(p impl.Puzzle, wall int) impl.Puzzle {
	p.Tray = withText(p.Tray, wall, ".")
	return p
}

func needlessModel(p impl.Puzzle) ([]int, bool) {
	length, ok := lengthModel(p)
	if !ok {
		return nil, false
	}
	var needless []int
	for _, n := range numbersOf(p.Tray, '#') {
		if opened, ok := lengthModel(withoutWall(p, n)); ok && opened == length {
			needless = append(needless, n)
		}
	}
	return needless, true
}

// turnedPuzzleModel marks the goal, turns the tray with the mark, and looks for it.
func turnedPuzzleModel(p impl.Puzzle) impl.Puzzle {
	const turned = 6
	marked := eightTrays(withText(p.Tray, p.Goal, "*"))[turned]
	return impl.Puzzle{Tray: eightTrays(p.Tray)[turned], Name: p.Name, Goal: strings.Index(cellsOf(marked), "*")}
}

// madeModel takes the numbers from a list.
func madeModel(w, h, seed int) string {
	numbers := []int{seed}
	for n := range w*h + 1 {
		numbers = append(numbers, (numbers[n]*137+187)%10007)
	}
	ball := numbers[w*h+1] % (w * h)
	return textFrom(w, h, func(x, y int) byte {
		n := y*w + x
		number := numbers[n+1]
		switch {
		case n == ball:
			return 'a'
		case number%5 == 0 || number%5 == 1:
			return '#'
		case number%11 == 2:
			return 'o'
		}
		return '.'
	})
}

func textOfPuzzle(p impl.Puzzle) string {
	return p.Tray + ":" + p.Name + ":" + strconv.Itoa(p.Goal)
}

// namesIn are the names of the balls in a tray.
func namesIn(s string) []string {
	return slices.DeleteFunc(strings.Split("abcdef", ""), func(name string) bool { return !strings.Contains(s, name) })
}

// puzzlesOf are all puzzles with a tray.
func puzzlesOf(s string) []impl.Puzzle {
	var puzzles []impl.Puzzle
	for _, name := range namesIn(s) {
		for n, cell := range cellsOf(s) {
			if cell != '#' {
				puzzles = append(puzzles, impl.Puzzle{Tray: s, Name: name, Goal: n})
			}
		}
	}
	return puzzles
}

// samplePuzzles are puzzles whose trays reach 300 trays at most, and others.
func samplePuzzles() []impl.Puzzle {
	var puzzles []impl.Puzzle
	for _, s := range slices.Concat(sampleReached(), greatTrays(), []string{reachesMore}) {
		puzzles = append(puzzles, puzzlesOf(s)...)
	}
	return puzzles
}

// puzzleFrom reads a text that is told by a test.
func puzzleFrom(text string) impl.Puzzle {
	parts := strings.Split(text, ":")
	goal, err := strconv.Atoi(parts[2])
	if err != nil {
		panic(err)
	}
	return impl.Puzzle{Tray: parts[0], Name: parts[1], Goal: goal}
}

const (
	// These puzzles have so many solutions, of 17, 16, 21, 17 and 28 directions.
	oneHundred       = "oo.oo#/#o##oo/#...#o/#o###a:a:4"
	oneHundredToo    = ".oooo#/#o##oo/#...#a/#o###o:a:3"
	ninetyNine       = "#.ooo#/.o##oo/#...#o/#o##oa:a:3"
	oneHundredAndTwo = "#ooo.#/oo##oo/#...#o/oo###a:a:4"
	oneThousand      = "ooo.o/o###a/oo.oo:a:5"

	// The hardest goals of these balls need 40 directions.
	farGoal    = "oa..o.#/bo...../o......:a:16"
	farGoalToo = "oooo./.#o#o/#oaoo:a:11"
)
