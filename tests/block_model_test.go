package tests

import (
	"maps"
	"math/rand"
	"slices"
	"strconv"
	"strings"

	"loop.example/g01199/impl"
)

// The models of chapter 4 write boards as texts of digits, with / between rows, and keep all shortest words to the solved one;
// the program keeps numbers of moves, and takes its words from those.

func boardFrom(s string) impl.Board {
	var b impl.Board
	for _, row := range strings.Split(s, "/") {
		b.Width = len(row)
		for _, digit := range row {
			b.Cells = append(b.Cells, int(digit-'0'))
		}
	}
	return b
}

// boardTextFrom gives the digits of any cells of at most one digit each.
func boardTextFrom(b impl.Board) string {
	var text strings.Builder
	for n, number := range b.Cells {
		if n > 0 && n%b.Width == 0 {
			text.WriteByte('/')
		}
		text.WriteString(strconv.Itoa(number))
	}
	return text.String()
}

func solvedModel(w, h int) string {
	rows := make([]string, h)
	for n := range w * h {
		rows[n/w] += strconv.Itoa((n + 1) % (w * h))
	}
	return strings.Join(rows, "/")
}

// moveModel looks for the hole in the text, and for what stands beside it, above it or below it there.
func moveModel(s, dir string) (string, bool) {
	line := strings.IndexByte(s+"/", '/') + 1
	from := strings.IndexByte(s, '0')
	to := from + map[string]int{"u": -line, "r": 1, "d": line, "l": -1}[dir]
	if to < 0 || to >= len(s) || s[to] == '/' {
		return "", false
	}
	text := []byte(s)
	text[from], text[to] = text[to], text[from]
	return string(text), true
}

func moveWordModel(s, word string) (string, bool) {
	for _, dir := range strings.Split(word, "") {
		next, ok := moveModel(s, dir)
		if !ok {
			return "", false
		}
		s = next
	}
	return s, true
}

// solutionsModel returns for all boards that can be solved all shortest words that do it, in the order of directions.
func solutionsModel(w, h int) map[string][]string {
	opposite := map[string]string{"u": "d", "r": "l", "d": "u", "l": "r"}
	layer := []string{solvedModel(w, h)}
	words := map[string][]string{layer[0]: {""}}
	for len(layer) > 0 {
		found := map[string][]string{}
		for _, s := range layer {
			for dir, back := range opposite {
				before, ok := moveModel(s, back)
				if !ok || words[before] != nil {
					continue
				}
				for _, word := range words[s] {
					found[before] = append(found[before], dir+word)
				}
			}
		}
		for s, list := range found {
			slices.SortFunc(list, compareWords)
			words[s] = list
		}
		layer = slices.Collect(maps.Keys(found))
	}
	return words
}

// parityModel counts the cycles of the numbers, the hole told as the number of the last cell, and the steps of the hole.
func parityModel(s string) int {
	width := strings.IndexByte(s+"/", '/')
	digits := strings.ReplaceAll(s, "/", "")
	last := len(digits) - 1
	at := strings.IndexByte(digits, '0')
	parity := len(digits) + (last%width - at%width) + (last/width - at/width)
	isSeen := map[int]bool{}
	for n := range digits {
		if isSeen[n] {
			continue
		}
		parity++
		for ; !isSeen[n]; n = (int(digits[n]-'0') + last) % len(digits) {
			isSeen[n] = true
		}
	}
	return parity % 2
}

// placeModel returns the column and the row of a digit.
func placeModel(s string, digit rune) (int, int) {
	for y, row := range strings.Split(s, "/") {
		if x := strings.IndexRune(row, digit); x >= 0 {
			return x, y
		}
	}
	panic("no digit: " + string(digit))
}

func manhattanModel(s string) int {
	b := boardFrom(s)
	solved := solvedModel(b.Width, len(b.Cells)/b.Width)
	sum := 0
	for _, digit := range strings.Trim(strings.ReplaceAll(solved, "/", ""), "0") {
		x, y := placeModel(s, digit)
		homeX, homeY := placeModel(solved, digit)
		sum += max(x-homeX, homeX-x) + max(y-homeY, homeY-y)
	}
	return sum
}

// mirrorModel reads the columns as rows, with each digit taken for the one that is solved at the mirrored place.
func mirrorModel(s string) string {
	b := boardFrom(s)
	height := len(b.Cells) / b.Width
	solved, target := solvedModel(b.Width, height), strings.Split(solvedModel(height, b.Width), "/")
	rows := make([]string, b.Width)
	for _, row := range strings.Split(s, "/") {
		for x, digit := range row {
			homeX, homeY := placeModel(solved, digit)
			rows[x] += string(target[homeX][homeY])
		}
	}
	return strings.Join(rows, "/")
}

// permutations returns all orders of the numbers below n, in lexicographic order.
func permutations(n int) [][]int {
	lists := [][]int{nil}
	for range n {
		var longer [][]int
		for _, list := range lists {
			for number := range n {
				if !slices.Contains(list, number) {
					longer = append(longer, append(slices.Clone(list), number))
				}
			}
		}
		lists = longer
	}
	return lists
}

// boardSizes are the numbers of columns and rows of all boards.
func boardSizes() [][2]int {
	var sizes [][2]int
	for w := 1; w <= 3; w++ {
		for h := 1; h <= 3; h++ {
			sizes = append(sizes, [2]int{w, h})
		}
	}
	return sizes
}

// allBoards are all boards of a size, as texts.
func allBoards(w, h int) []string {
	var boards []string
	for _, cells := range permutations(w * h) {
		boards = append(boards, boardTextFrom(impl.Board{Width: w, Cells: cells}))
	}
	return boards
}

// sampleBoards are all boards of at most six cells, and boards of nine made by a fixed seed.
func sampleBoards() []string {
	var boards []string
	for _, size := range boardSizes() {
		if size[0]*size[1] <= 6 {
			boards = append(boards, allBoards(size[0], size[1])...)
		}
	}
	random := rand.New(rand.NewSource(4))
	boards = append(boards, solvedModel(3, 3), "123/456/870", "012/345/678", "876/543/210")
	for range 500 {
		boards = append(boards, boardTextFrom(impl.Board{Width: 3, Cells: random.Perm(9)}))
	}
	return boards
}
