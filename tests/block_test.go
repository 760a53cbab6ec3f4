package tests

import (
	"maps"
	"slices"
	"strconv"
	"strings"
	"testing"

	"loop.example/g01199/impl"
)

// The tests of promise 4: boards can be solved exactly if their parity lets them, by shortest words.

func TestLimitsOfBoards(t *testing.T) {
	expect(t, "MaxBlocks and MaxSolved", []any{impl.MaxBlocks, impl.MaxSolved}, 9, 6)
}

func TestExampleOfBoards(t *testing.T) {
	b := impl.Board{Width: 2, Cells: []int{1, 2, 0, 3}}
	parsed, ok := impl.ParseBoard("1,2/0,3")
	expect(t, "ParseBoard", []any{parsed, ok}, b, true)
	n, ok := impl.ParityOf(b)
	expect(t, "ParityOf", []any{n, ok}, 0, true)
	word, ok := impl.SolveBoard(b)
	expect(t, "SolveBoard", []any{word, ok}, "r", true)
	n, ok = impl.CountBoards(2, 2)
	expect(t, "CountBoards", []any{n, ok}, 12, true)
	n, ok = impl.CountBoards(3, 1)
	expect(t, "CountBoards", []any{n, ok}, 3, true)
}

func TestBoardOfOneCell(t *testing.T) {
	one := impl.Board{Width: 1, Cells: []int{0}}
	expect(t, "IsBoard", []any{impl.IsBoard(one)}, true)
	b, ok := impl.SolvedBoard(1, 1)
	expect(t, "SolvedBoard", []any{b, ok}, one, true)
	n, ok := impl.HoleOf(one)
	expect(t, "HoleOf", []any{n, ok}, 0, true)
	text, ok := impl.HoleWays(one)
	expect(t, "HoleWays", []any{text, ok}, "", true)
	b, ok = impl.MoveByWord(one, "")
	expect(t, "MoveByWord", []any{b, ok}, one, true)
	n, ok = impl.ParityOf(one)
	expect(t, "ParityOf", []any{n, ok}, 0, true)
	can, ok := impl.CanSolve(one)
	expect(t, "CanSolve", []any{can, ok}, true, true)
	text, ok = impl.SolveBoard(one)
	expect(t, "SolveBoard", []any{text, ok}, "", true)
	n, ok = impl.CountBoards(1, 1)
	expect(t, "CountBoards", []any{n, ok}, 1, true)
	n, boards, ok := impl.HardestBoards(1, 1)
	expect(t, "HardestBoards", []any{n, boards, ok}, 0, []impl.Board{one}, true)
	n, ok = impl.ManhattanOf(one)
	expect(t, "ManhattanOf", []any{n, ok}, 0, true)
	b, ok = impl.MirrorBoard(one)
	expect(t, "MirrorBoard", []any{b, ok}, one, true)
	text, ok = impl.BoardText(one)
	expect(t, "BoardText", []any{text, ok}, "0", true)
	b, ok = impl.ParseBoard("0")
	expect(t, "ParseBoard", []any{b, ok}, one, true)
}

// TestIsBoardOnSmallNumbers takes all lists of at most four numbers near the valid ones, with all widths near them.
func TestIsBoardOnSmallNumbers(t *testing.T) {
	lists := [][]int{nil}
	for from := 0; from < len(lists); from++ {
		cells := lists[from]
		sorted := slices.Sorted(slices.Values(cells))
		for width := -1; width <= 5; width++ {
			want := width >= 1 && width <= 3 && len(cells) > 0 && len(cells)%width == 0 && len(cells)/width <= 3
			for n, number := range sorted {
				want = want && n == number
			}
			if got := impl.IsBoard(impl.Board{Width: width, Cells: cells}); got != want {
				t.Errorf("IsBoard of %d and %v is %v", width, cells, got)
			}
		}
		for number := -1; len(cells) < 4 && number <= 4; number++ {
			lists = append(lists, append(slices.Clone(cells), number))
		}
	}
}

func TestSolvedBoards(t *testing.T) {
	for _, size := range boardSizes() {
		want := boardFrom(solvedModel(size[0], size[1]))
		b, ok := impl.SolvedBoard(size[0], size[1])
		expect(t, "SolvedBoard", []any{b, ok}, want, true)
		word, ok := impl.SolveBoard(b)
		expect(t, "SolveBoard", []any{word, ok}, "", len(b.Cells) <= 6)
		n, ok := impl.ParityOf(b)
		expect(t, "ParityOf", []any{n, ok}, 0, true)
		n, ok = impl.ManhattanOf(b)
		expect(t, "ManhattanOf", []any{n, ok}, 0, true)
		can, ok := impl.CanSolve(b)
		expect(t, "CanSolve", []any{can, ok}, true, true)
	}
	b, ok := impl.SolvedBoard(3, 2)
	expect(t, "SolvedBoard", []any{b, ok}, impl.Board{Width: 3, Cells: []int{1, 2, 3, 4, 5, 0}}, true)
	b, ok = impl.SolvedBoard(2, 3)
	expect(t, "SolvedBoard", []any{b, ok}, impl.Board{Width: 2, Cells: []int{1, 2, 3, 4, 5, 0}}, true)
}

func TestMovesOfTheHole(t *testing.T) {
	for _, s := range sampleBoards() {
		b := boardFrom(s)
		expect(t, "IsBoard "+s, []any{impl.IsBoard(b)}, true)
		at, ok := impl.HoleOf(b)
		expect(t, "HoleOf "+s, []any{at, ok}, slices.Index(b.Cells, 0), true)
		parity, _ := impl.ParityOf(b)
		ways := ""
		for _, dir := range []string{"u", "r", "d", "l"} {
			want, canMove := moveModel(s, dir)
			next, ok := impl.MoveHole(b, dir)
			again, againOk := impl.MoveByWord(b, dir)
			if !canMove {
				failsWithZeros(t, "MoveHole", b, dir)
				failsWithZeros(t, "MoveByWord", b, dir)
				continue
			}
			ways += dir
			expect(t, "MoveHole "+s+" "+dir, []any{next, ok}, boardFrom(want), true)
			expect(t, "MoveByWord "+s+" "+dir, []any{again, againOk}, boardFrom(want), true)
			kept, ok := impl.ParityOf(next)
			expect(t, "ParityOf behind "+dir+" from "+s, []any{kept, ok}, parity, true)
		}
		got, ok := impl.HoleWays(b)
		expect(t, "HoleWays "+s, []any{got, ok}, ways, true)
	}
}

func TestHoleWaysOfKnownBoards(t *testing.T) {
	for s, want := range map[string]string{
		"0": "", "01": "r", "10": "l", "102": "rl", "0/1": "d", "1/0/2": "ud", "1/2/0": "u",
		"01/23": "rd", "12/30": "ul", "012/345": "rd", "102/345": "rdl", "123/405": "url",
		"123/405/678": "urdl", "123/456/780": "ul", "123/456/078": "ur", "120/453/678": "dl", "123/045/678": "urd",
	} {
		ways, ok := impl.HoleWays(boardFrom(s))
		expect(t, "HoleWays "+s, []any{ways, ok}, want, true)
	}
}

func TestMovesByWords(t *testing.T) {
	for _, s := range []string{"0", "012", "1/0/2", "12/30", "012/345", "12/30/45", "123/405/678", "876/543/210"} {
		b := boardFrom(s)
		for _, word := range sampleWords() {
			want, canMove := moveWordModel(s, word)
			if !canMove {
				failsWithZeros(t, "MoveByWord", b, word)
				continue
			}
			next, ok := impl.MoveByWord(b, word)
			expect(t, "MoveByWord "+s+" "+word, []any{next, ok}, boardFrom(want), true)
			back, _ := impl.OppositeWord(word)
			letters := []byte(back)
			slices.Reverse(letters)
			again, ok := impl.MoveByWord(next, string(letters))
			expect(t, "MoveByWord "+s+" "+word+" and back", []any{again, ok}, b, true)
		}
	}
}

func TestMovesByWordsOfMaxWordDirections(t *testing.T) {
	b := boardFrom("01/23")
	for _, word := range []string{strings.Repeat("rl", 20), strings.Repeat("rdlu", 10)} {
		want, _ := moveWordModel("01/23", word)
		next, ok := impl.MoveByWord(b, word)
		expect(t, "MoveByWord "+word, []any{next, ok}, boardFrom(want), true)
		failsWithZeros(t, "MoveByWord", b, word+"r")
	}
	failsWithZeros(t, "MoveByWord", b, strings.Repeat("rl", 19)+"rr")
}

func TestMovesThatCannotBeMadeAnywhereInAWord(t *testing.T) {
	for _, word := range []string{"rr", "rl", "dd", "du", "l", "u", "lr", "ud", "rdlul", "rdrd"} {
		want, canMove := moveWordModel("01/23", word)
		next, ok := impl.MoveByWord(boardFrom("01/23"), word)
		if canMove {
			expect(t, "MoveByWord "+word, []any{next, ok}, boardFrom(want), true)
		} else {
			failsWithZeros(t, "MoveByWord", boardFrom("01/23"), word)
		}
	}
}

func TestParities(t *testing.T) {
	for _, s := range sampleBoards() {
		n, ok := impl.ParityOf(boardFrom(s))
		expect(t, "ParityOf "+s, []any{n, ok}, parityModel(s), true)
	}
}

// TestParitiesOfKnownBoards has boards whose parity is another one if the hole is counted as the least number, or not at all.
func TestParitiesOfKnownBoards(t *testing.T) {
	for s, want := range map[string]int{
		"0": 0, "10": 0, "01": 0, "120": 0, "102": 0, "012": 0, "210": 1, "021": 1, "0/1": 0, "2/0/1": 1,
		"12/30": 0, "12/03": 0, "10/32": 0, "01/32": 0, "21/30": 1, "32/10": 1, "31/20": 0,
		"123/450": 0, "123/405": 0, "123/540": 1, "120/453": 0, "012/345": 0,
		"123/456/780": 0, "123/456/870": 1, "012/345/678": 0, "876/543/210": 0,
	} {
		n, ok := impl.ParityOf(boardFrom(s))
		expect(t, "ParityOf "+s, []any{n, ok}, want, true)
	}
}

func TestBoardsThatCanBeSolved(t *testing.T) {
	for _, size := range boardSizes() {
		w, h := size[0], size[1]
		if w*h > 6 {
			continue
		}
		solutions := solutionsModel(w, h)
		count := 0
		for _, s := range allBoards(w, h) {
			b := boardFrom(s)
			words := solutions[s]
			can, ok := impl.CanSolve(b)
			expect(t, "CanSolve "+s, []any{can, ok}, words != nil, true)
			if words == nil {
				failsWithZeros(t, "SolveBoard", b)
				continue
			}
			count++
			word, ok := impl.SolveBoard(b)
			expect(t, "SolveBoard "+s, []any{word, ok}, words[0], true)
			solved, ok := impl.MoveByWord(b, word)
			expect(t, "MoveByWord "+s+" "+word, []any{solved, ok}, boardFrom(solvedModel(w, h)), true)
		}
		n, ok := impl.CountBoards(w, h)
		expect(t, "CountBoards", []any{n, ok}, count, true)
	}
}

// TestGreatBoardsThatCanBeSolved goes on from the solved board of three columns and three rows to all that moves make.
func TestGreatBoardsThatCanBeSolved(t *testing.T) {
	reached := []string{solvedModel(3, 3)}
	isReached := map[string]bool{reached[0]: true}
	for n := 0; n < len(reached); n++ {
		for _, dir := range []string{"u", "r", "d", "l"} {
			if next, ok := moveModel(reached[n], dir); ok && !isReached[next] {
				isReached[next] = true
				reached = append(reached, next)
			}
		}
	}
	n, ok := impl.CountBoards(3, 3)
	expect(t, "CountBoards", []any{n, ok}, len(reached), true)
	for _, s := range sampleBoards() {
		if len(s) == len("123/456/780") {
			can, ok := impl.CanSolve(boardFrom(s))
			expect(t, "CanSolve "+s, []any{can, ok}, isReached[s], true)
		}
	}
	for n := 0; n < len(reached); n += 97 {
		can, ok := impl.CanSolve(boardFrom(reached[n]))
		expect(t, "CanSolve "+reached[n], []any{can, ok}, true, true)
		// One more exchange of two blocks changes the parity.
		other := strings.NewReplacer("1", "2", "2", "1").Replace(reached[n])
		can, ok = impl.CanSolve(boardFrom(other))
		expect(t, "CanSolve "+other, []any{can, ok}, false, true)
	}
}

// TestLinesThatCanBeSolved has boards of one row or one column, where no block passes another one.
func TestLinesThatCanBeSolved(t *testing.T) {
	for s, want := range map[string]string{
		"0": "", "10": "", "01": "r", "120": "", "102": "r", "012": "rr", "0/1": "d", "1/0": "", "1/0/2": "d", "0/1/2": "dd",
	} {
		can, ok := impl.CanSolve(boardFrom(s))
		expect(t, "CanSolve "+s, []any{can, ok}, true, true)
		word, ok := impl.SolveBoard(boardFrom(s))
		expect(t, "SolveBoard "+s, []any{word, ok}, want, true)
	}
	for _, s := range []string{"210", "021", "201", "2/1/0", "0/2/1", "2/0/1"} {
		can, ok := impl.CanSolve(boardFrom(s))
		expect(t, "CanSolve "+s, []any{can, ok}, false, true)
		failsWithZeros(t, "SolveBoard", boardFrom(s))
	}
}

// TestSeveralShortestSolutions has all boards with several shortest words.
func TestSeveralShortestSolutions(t *testing.T) {
	for _, size := range [][2]int{{2, 2}, {2, 3}, {3, 2}} {
		several := 0
		for s, words := range solutionsModel(size[0], size[1]) {
			if len(words) > 1 {
				several++
				word, ok := impl.SolveBoard(boardFrom(s))
				expect(t, "SolveBoard "+s, []any{word, ok}, words[0], true)
			}
		}
		if several == 0 {
			t.Errorf("all boards of %v have one shortest word", size)
		}
	}
}

func TestGreatBoardsAreNotSolved(t *testing.T) {
	for _, s := range []string{"123/456/780", "123/456/708", "123/456/870", "012/345/678"} {
		failsWithZeros(t, "SolveBoard", boardFrom(s))
	}
	failsWithZeros(t, "HardestBoards", 3, 3)
}

func TestCountsOfBoards(t *testing.T) {
	want := [][]int{{1, 2, 3}, {2, 12, 360}, {3, 360, 181440}}
	for _, size := range boardSizes() {
		n, ok := impl.CountBoards(size[0], size[1])
		expect(t, "CountBoards", []any{n, ok}, want[size[0]-1][size[1]-1], true)
	}
}

func TestHardestBoards(t *testing.T) {
	for _, size := range boardSizes() {
		w, h := size[0], size[1]
		if w*h > 6 {
			continue
		}
		solutions := solutionsModel(w, h)
		greatest := 0
		for _, words := range solutions {
			greatest = max(greatest, len(words[0]))
		}
		var want []impl.Board
		for _, s := range slices.Sorted(maps.Keys(solutions)) {
			if len(solutions[s][0]) == greatest {
				want = append(want, boardFrom(s))
			}
		}
		n, boards, ok := impl.HardestBoards(w, h)
		expect(t, "HardestBoards", []any{n, boards, ok}, greatest, want, true)
		for _, b := range boards {
			word, ok := impl.SolveBoard(b)
			expect(t, "SolveBoard", []any{len(word), ok}, greatest, true)
		}
	}
}

func TestKnownHardestBoards(t *testing.T) {
	n, boards, ok := impl.HardestBoards(3, 1)
	expect(t, "HardestBoards", []any{n, boards, ok}, 2, []impl.Board{boardFrom("012")}, true)
	n, boards, ok = impl.HardestBoards(1, 2)
	expect(t, "HardestBoards", []any{n, boards, ok}, 1, []impl.Board{boardFrom("0/1")}, true)
	n, boards, ok = impl.HardestBoards(2, 2)
	expect(t, "HardestBoards", []any{n, boards, ok}, 6, []impl.Board{boardFrom("03/21")}, true)
	n, boards, ok = impl.HardestBoards(3, 2)
	expect(t, "HardestBoards", []any{n, boards, ok}, 21, []impl.Board{boardFrom("450/123")}, true)
	n, boards, ok = impl.HardestBoards(2, 3)
	expect(t, "HardestBoards", []any{n, boards, ok}, 21, []impl.Board{boardFrom("21/43/05")}, true)
}

func TestManhattan(t *testing.T) {
	for _, s := range sampleBoards() {
		b := boardFrom(s)
		n, ok := impl.ManhattanOf(b)
		expect(t, "ManhattanOf "+s, []any{n, ok}, manhattanModel(s), true)
		if word, canSolve := impl.SolveBoard(b); canSolve && len(word) < n {
			t.Errorf("ManhattanOf %s is %d, and it is solved by %s", s, n, word)
		}
	}
	for s, want := range map[string]int{"0": 0, "01": 1, "012": 2, "210": 2, "2/0/1": 3, "12/03": 1, "03/21": 6, "876/543/210": 16} {
		n, ok := impl.ManhattanOf(boardFrom(s))
		expect(t, "ManhattanOf "+s, []any{n, ok}, want, true)
	}
}

func TestMirroredBoards(t *testing.T) {
	mirrored := strings.NewReplacer("u", "l", "l", "u", "r", "d", "d", "r")
	for _, s := range sampleBoards() {
		b := boardFrom(s)
		m, ok := impl.MirrorBoard(b)
		expect(t, "MirrorBoard "+s, []any{m, ok}, boardFrom(mirrorModel(s)), true)
		again, ok := impl.MirrorBoard(m)
		expect(t, "MirrorBoard twice "+s, []any{again, ok}, b, true)
		canSolve, _ := impl.CanSolve(b)
		can, ok := impl.CanSolve(m)
		expect(t, "CanSolve mirrored "+s, []any{can, ok}, canSolve, true)
		if word, canWord := impl.SolveBoard(b); canWord {
			solved, ok := impl.MoveByWord(m, mirrored.Replace(word))
			want, _ := impl.SolvedBoard(m.Width, len(m.Cells)/m.Width)
			expect(t, "MoveByWord mirrored "+s, []any{solved, ok}, want, true)
		}
	}
}

func TestKnownMirroredBoards(t *testing.T) {
	for s, want := range map[string]string{
		"0": "0", "12/03": "10/32", "123/450": "12/34/50", "213/450": "32/14/50", "0/1/2": "012",
		"123/456/780": "123/456/780", "213/456/780": "423/156/780", "120/453/786": "123/456/078",
	} {
		m, ok := impl.MirrorBoard(boardFrom(s))
		expect(t, "MirrorBoard "+s, []any{boardTextFrom(m), ok}, want, true)
	}
}

func TestTextsOfBoards(t *testing.T) {
	for _, s := range sampleBoards() {
		b := boardFrom(s)
		want := strings.ReplaceAll(strings.Join(strings.Split(s, ""), ","), ",/,", "/")
		text, ok := impl.BoardText(b)
		expect(t, "BoardText "+s, []any{text, ok}, want, true)
		parsed, ok := impl.ParseBoard(want)
		expect(t, "ParseBoard "+want, []any{parsed, ok}, b, true)
	}
	for text, want := range map[string]impl.Board{
		"0":                 {Width: 1, Cells: []int{0}},
		"2,0,1":             {Width: 3, Cells: []int{2, 0, 1}},
		"2/0/1":             {Width: 1, Cells: []int{2, 0, 1}},
		"5,3/1,0/2,4":       {Width: 2, Cells: []int{5, 3, 1, 0, 2, 4}},
		"8,7,6/0,1,2/3,5,4": {Width: 3, Cells: []int{8, 7, 6, 0, 1, 2, 3, 5, 4}},
	} {
		b, ok := impl.ParseBoard(text)
		expect(t, "ParseBoard "+text, []any{b, ok}, want, true)
	}
}

// TestTextsNearBoards puts each of some bytes at each place of a board's text, instead of the byte there and ahead of it, and takes each byte out.
func TestTextsNearBoards(t *testing.T) {
	isText := map[string]bool{}
	for _, size := range boardSizes() {
		if size[0]*size[1] <= 6 {
			for _, s := range allBoards(size[0], size[1]) {
				text, _ := impl.BoardText(boardFrom(s))
				isText[text] = true
			}
		}
	}
	for _, text := range []string{"0", "1,0", "1/0", "2,0,1", "1,2/0,3", "1,2/3,4/0,5", "1,2,3/4,0,5"} {
		for n := range len(text) + 1 {
			var near []string
			for _, put := range strings.Split("0123456789+-_ ,/.x\x00\n", "") {
				near = append(near, text[:n]+put+text[n:], text[:n]+put+text[min(n+1, len(text)):])
			}
			near = append(near, text[:n]+text[min(n+1, len(text)):], text[:n], text[n:], text[:n]+"0x"+text[n:])
			for _, s := range near {
				b, ok := impl.ParseBoard(s)
				if ok != isText[s] {
					t.Errorf("ParseBoard(%s) is %v, %v", strconv.Quote(s), b, ok)
				}
				if !ok {
					failsWithZeros(t, "ParseBoard", s)
				}
			}
		}
	}
}
