package tests

import (
	"math/rand"
	"slices"
	"strings"
)

// The models of chapter 5 find by inequalities how far each piece moves in all; the program makes one step after the other.

func isBallText(c byte) bool {
	return c != '#' && c != '.'
}

// piecesModel gives each ball the least number that comes over from its neighbours, until nothing changes.
func piecesModel(s string) [][]int {
	rows := strings.Split(s, "/")
	w := len(rows[0])
	cells := strings.Join(rows, "")
	least := make([]int, len(cells))
	for n := range least {
		least[n] = n
	}
	changed := true
	even := func(a, b int) {
		if isBallText(cells[a]) && isBallText(cells[b]) && least[a] != least[b] {
			least[a] = min(least[a], least[b])
			least[b] = least[a]
			changed = true
		}
	}
	for changed {
		changed = false
		for n := range cells {
			if n%w > 0 {
				even(n-1, n)
			}
			if n >= w {
				even(n-w, n)
			}
		}
	}
	byLeast := map[int]int{}
	var pieces [][]int
	for n := range cells {
		if !isBallText(cells[n]) {
			continue
		}
		i, found := byLeast[least[n]]
		if !found {
			i = len(pieces)
			byLeast[least[n]] = i
			pieces = append(pieces, nil)
		}
		pieces[i] = append(pieces[i], n)
	}
	return pieces
}

// movesModel knows two things: a ball moves no further than to the end of its stretch,
// and no further than the room up to a ball of another piece ahead of it, and what that one moves, together.
// The greatest numbers that keep to this are found by lowering those that do not.
func movesModel(s, dir string) []int {
	pieces := piecesModel(s)
	owner := map[int]int{}
	for i, piece := range pieces {
		for _, n := range piece {
			owner[n] = i
		}
	}
	moves := slices.Repeat([]int{7}, len(pieces))
	stretches := stretchesModel(s, dir)
	for changed := true; changed; {
		changed = false
		for _, stretch := range stretches {
			for k, n := range stretch {
				i, found := owner[n]
				if !found {
					continue
				}
				most := k
				for j, other := range stretch[:k] {
					if ahead, found := owner[other]; found && ahead != i {
						most = min(most, moves[ahead]+k-j-1)
					}
				}
				if most < moves[i] {
					moves[i] = most
					changed = true
				}
			}
		}
	}
	return moves
}

// movedModel moves no piece by more cells than told.
func movedModel(s, dir string, most int) string {
	rows := strings.Split(s, "/")
	w := len(rows[0])
	before := strings.Join(rows, "")
	after := []byte(before)
	for n := range after {
		if isBallText(after[n]) {
			after[n] = '.'
		}
	}
	moves := movesModel(s, dir)
	ahead := map[string]int{"u": -w, "r": 1, "d": w, "l": -1}[dir]
	for i, piece := range piecesModel(s) {
		for _, n := range piece {
			after[n+min(moves[i], most)*ahead] = before[n]
		}
	}
	return textFrom(w, len(rows), func(x, y int) byte { return after[y*w+x] })
}

func stickModel(s, dir string) string {
	return movedModel(s, dir, 7)
}

func stickWordModel(s, word string) string {
	for _, dir := range strings.Split(word, "") {
		s = stickModel(s, dir)
	}
	return s
}

// oneModel makes all words, in their order, each as often as it comes.
func oneModel(s string) (string, bool) {
	words, trays := []string{""}, []string{s}
	for length := 0; ; length++ {
		for i, u := range trays {
			if len(piecesModel(u)) <= 1 {
				return words[i], true
			}
		}
		if length == 5 {
			return "", false
		}
		var longer, behind []string
		for i, u := range trays {
			for _, dir := range []string{"u", "r", "d", "l"} {
				longer = append(longer, words[i]+dir)
				behind = append(behind, stickModel(u, dir))
			}
		}
		words, trays = longer, behind
	}
}

func shapeModel(s string, piece []int) string {
	w := strings.Index(s+"/", "/")
	left, right, top, bottom := w, -1, piece[0]/w, piece[len(piece)-1]/w
	for _, n := range piece {
		left, right = min(left, n%w), max(right, n%w)
	}
	return slices.Min(eightTrays(textFrom(right-left+1, bottom-top+1, func(x, y int) byte {
		if slices.Contains(piece, (top+y)*w+left+x) {
			return 'o'
		}
		return '.'
	})))
}

func shapesModel(s string) []string {
	var shapes []string
	for _, piece := range piecesModel(s) {
		shapes = append(shapes, shapeModel(s, piece))
	}
	return shapes
}

func greatestModel(s string) int {
	greatest := 0
	for _, piece := range piecesModel(s) {
		greatest = max(greatest, len(piece))
	}
	return greatest
}

// sampleSticks are all trays of some cells with few kinds of them, known ones, and greater ones made by a fixed seed.
func sampleSticks() []string {
	return slices.Concat(
		allTrays(1, 1, "#.oa"), allTrays(4, 1, "#.oa"), allTrays(1, 4, "#.oa"), allTrays(2, 2, "#.oab"),
		allTrays(3, 2, "#.o"), allTrays(2, 3, "#.o"), allTrays(3, 3, ".o"), knownSticks(), crowdedTrays(),
	)
}

// crowdedTrays have many balls, and few walls or none.
func crowdedTrays() []string {
	numbers := rand.New(rand.NewSource(5))
	var trays []string
	for w := 2; w <= 7; w++ {
		for h := 2; h <= 7 && w*h <= 36; h++ {
			for kind := range 9 {
				walls, balls := kind%3, 1+kind/3
				names := "abcdef"
				trays = append(trays, textFrom(w, h, func(x, y int) byte {
					number := numbers.Intn(10)
					switch {
					case number < walls:
						return '#'
					case number >= walls+balls:
						return '.'
					case names == "" || numbers.Intn(2) == 0:
						return 'o'
					}
					name := names[0]
					names = names[1:]
					return name
				}))
			}
		}
	}
	return trays
}

const (
	// The shortest words to one piece have 5 directions in oneOfFive, and 6 in oneOfSix.
	oneOfFive = "oo.#/.#../oo.o"
	oneOfSix  = "o..#o/o#.o."

	// Directions alone never make one piece of neverOne: a wall keeps the balls apart.
	neverOne = "o#/#o"
)

// knownSticks are trays in which pieces block each other, pass by each other, or come together only behind many directions or never.
func knownSticks() []string {
	return []string{
		"oo./..a", ".oo/..a", "o.../.o#.", "a.oo../..o.o#", "o.o.o", "oo./o#.", "o#o/...", oneOfFive, oneOfSix, neverOne,
		"..o##/o.#oo/#...o", ".#.../.o#../#...o/oo.#o", "o.o/o../ooo", freeText(6, 6), strings.ReplaceAll(freeText(6, 6), ".", "o"),
	}
}
