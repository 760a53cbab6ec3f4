package tests

import (
	"bytes"
	"cmp"
	"math/rand"
	"slices"
	"strings"
)

// The models of chapter 2 push balls cell by cell; the program takes them straight to their places.

// isOpenAhead tells where a cell leads to in a direction, if there is a cell that is no wall.
func isOpenAhead(rows []string, x, y int, dir string) (int, int, bool) {
	switch dir {
	case "u":
		y--
	case "r":
		x++
	case "d":
		y++
	case "l":
		x--
	default:
		panic("no direction: " + dir)
	}
	inside := x >= 0 && y >= 0 && y < len(rows) && x < len(rows[y])
	return x, y, inside && rows[y][x] != '#'
}

// stepModel looks for a free cell ahead of each ball in the tray as it is, and returns how many balls move.
func stepModel(s, dir string) (string, int) {
	rows := strings.Split(s, "/")
	next := make([][]byte, len(rows))
	for y, row := range rows {
		next[y] = []byte(strings.Map(func(c rune) rune {
			if c != '#' {
				return '.'
			}
			return c
		}, row))
	}
	moved := 0
	for y, row := range rows {
		for x := range len(row) {
			if row[x] == '#' || row[x] == '.' {
				continue
			}
			toX, toY := x, y
			atX, atY, open := isOpenAhead(rows, x, y, dir)
			firstX, firstY := atX, atY
			for ; open; atX, atY, open = isOpenAhead(rows, atX, atY, dir) {
				if rows[atY][atX] == '.' {
					toX, toY = firstX, firstY
					moved++
					break
				}
			}
			next[toY][toX] = row[x]
		}
	}
	return string(bytes.Join(next, []byte("/"))), moved
}

// A tiltTold is what steps tell of a tilt, made until no ball moves.
type tiltTold struct {
	tray  string
	steps int
	balls int
	cells int
}

func tiltModel(s, dir string) tiltTold {
	told := tiltTold{tray: s}
	for {
		next, moved := stepModel(told.tray, dir)
		if moved == 0 {
			return told
		}
		if told.steps == 0 {
			// A ball that moves at all moves in the first step.
			told.balls = moved
		}
		told.tray = next
		told.steps++
		told.cells += moved
	}
}

func wordModel(s, word string) string {
	for _, dir := range strings.Split(word, "") {
		s = tiltModel(s, dir).tray
	}
	return s
}

// stretchesModel reads rows, or columns, from one side to the other, and turns the lists round if the end is at that side.
func stretchesModel(s, dir string) [][]int {
	rows := strings.Split(s, "/")
	w, h := len(rows[0]), len(rows)
	var lines [][]int
	if dir == "l" || dir == "r" {
		for y := range h {
			var line []int
			for x := range w {
				line = append(line, y*w+x)
			}
			lines = append(lines, line)
		}
	} else {
		for x := range w {
			var line []int
			for y := range h {
				line = append(line, y*w+x)
			}
			lines = append(lines, line)
		}
	}
	cells := strings.Join(rows, "")
	var stretches [][]int
	for _, line := range lines {
		var stretch []int
		for _, n := range append(line, -1) {
			if n >= 0 && cells[n] != '#' {
				stretch = append(stretch, n)
			} else if len(stretch) > 0 {
				stretches = append(stretches, stretch)
				stretch = nil
			}
		}
	}
	slices.SortFunc(stretches, func(a, b []int) int { return cmp.Compare(a[0], b[0]) })
	if dir == "r" || dir == "d" {
		for _, stretch := range stretches {
			slices.Reverse(stretch)
		}
	}
	return stretches
}

// periodModel tells the numbers as they are, however great.
func periodModel(s, word string) (int, int) {
	seen := map[string]int{}
	for n := 0; ; n++ {
		if first, found := seen[s]; found {
			return first, n - first
		}
		seen[s] = n
		s = wordModel(s, word)
	}
}

func isWordModel(s string) bool {
	if len(s) > 40 {
		return false
	}
	for _, c := range []byte(s) {
		if c != 'u' && c != 'r' && c != 'd' && c != 'l' {
			return false
		}
	}
	return true
}

func turnedModel(word string, k int) string {
	for range k {
		word = strings.NewReplacer("u", "r", "r", "d", "d", "l", "l", "u").Replace(word)
	}
	return word
}

// notWords are texts that are no words, each for one reason.
func notWords() []string {
	return []string{
		"x", "U", "R", "D", "L", " ", "u ", " u", "u r", "u,r", "u/r", "-", "0", "a", "o", ".", "#", "/",
		"\x00", "u\x00", "\xff", "u\xffu", "é", "uér", "uxu", "xuu", "uux", "urdlx", "urdl\n", "↑",
		strings.Repeat("u", 41), strings.Repeat("urdl", 10) + "u", strings.Repeat("x", 40),
		strings.Repeat("u", 39) + "x", strings.Repeat("é", 20), strings.Repeat("r", 100000),
	}
}

// notDirections are words of more or fewer directions than one, and texts that are no words.
func notDirections() []string {
	return append(notWords(), "", "uu", "ur", "ru", "rd", "lr", "urdl", strings.Repeat("u", 40))
}

// sampleWords are all short words, and longer ones made by a fixed seed.
func sampleWords() []string {
	words := []string{""}
	for from := 0; from < 1+4+16; from++ {
		for _, dir := range "urdl" {
			words = append(words, words[from]+string(dir))
		}
	}
	return append(words, longWords()...)
}

func longWords() []string {
	numbers := rand.New(rand.NewSource(2))
	words := []string{strings.Repeat("u", 40), strings.Repeat("urdl", 10), strings.Repeat("uurrddll", 5)}
	for length := 4; length <= 40; length += 3 {
		word := make([]byte, length)
		for i := range word {
			word[i] = "urdl"[numbers.Intn(4)]
		}
		words = append(words, string(word))
	}
	return words
}
