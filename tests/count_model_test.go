package tests

import (
	"math/big"
	"slices"
	"strings"
)

// The models of chapter 8 make the texts of all trays and look at each; where there are too many, they go by how many cells change places. The program goes by products, cycles and sets.

// behindMove is the tray behind a move, read from the text.
func behindMove(s string, move int) string {
	return eightTrays(s)[[]int{0, 6, 3, 5, 1, 7, 2, 4}[move]]
}

// fittingModel are the moves behind which a free tray is the same.
func fittingModel(w, h int) []int {
	var moves []int
	for move := range 8 {
		if behindMove(freeText(w, h), move) == freeText(w, h) {
			moves = append(moves, move)
		}
	}
	return moves
}

// A fillingAsked is the size of trays with numbers of walls and balls.
type fillingAsked struct{ w, h, walls, balls int }

// A fillingTold is what all trays of a filling tell, one by one.
type fillingTold struct {
	trays   int
	kept    [8]int
	classes []string
}

func (told *fillingTold) look(s string, moves []int) {
	told.trays++
	least := s
	for _, move := range moves {
		behind := behindMove(s, move)
		least = min(least, behind)
		if behind == s {
			told.kept[move]++
		}
	}
	if least == s {
		told.classes = append(told.classes, s)
	}
}

// fillingsModel looks at all trays of a size, with any numbers of walls and balls.
func fillingsModel(w, h int) map[fillingAsked]*fillingTold {
	moves := fittingModel(w, h)
	all := map[fillingAsked]*fillingTold{}
	for _, s := range allTrays(w, h, "#.o") {
		asked := fillingAsked{w, h, strings.Count(s, "#"), strings.Count(s, "o")}
		if all[asked] == nil {
			all[asked] = &fillingTold{}
		}
		all[asked].look(s, moves)
	}
	return all
}

// fillingModel makes the trays of one filling alone.
func fillingModel(asked fillingAsked) fillingTold {
	var told fillingTold
	moves := fittingModel(asked.w, asked.h)
	for _, s := range filledTexts(asked, "") {
		told.look(s, moves)
	}
	return told
}

// filledTexts goes on from the beginning of a text, in the order of texts.
func filledTexts(asked fillingAsked, s string) []string {
	n := len(strings.ReplaceAll(s, "/", ""))
	left := asked.w*asked.h - n - asked.walls - asked.balls
	if asked.walls < 0 || asked.balls < 0 || left < 0 {
		return nil
	}
	if n == asked.w*asked.h {
		return []string{s}
	}
	if n > 0 && n%asked.w == 0 {
		s += "/"
	}
	lessWalls, lessBalls := asked, asked
	lessWalls.walls--
	lessBalls.balls--
	return slices.Concat(filledTexts(lessWalls, s+"#"), filledTexts(asked, s+"."), filledTexts(lessBalls, s+"o"))
}

// allFillings are those of all sizes.
func allFillings() []fillingAsked {
	var all []fillingAsked
	for w := 1; w <= 7; w++ {
		for h := 1; h <= 7 && w*h <= 36; h++ {
			for walls := 0; walls <= w*h; walls++ {
				for balls := 0; walls+balls <= w*h; balls++ {
					all = append(all, fillingAsked{w, h, walls, balls})
				}
			}
		}
	}
	return all
}

// dividedModel is in how many ways things are shared out to three, of whom the first two have so many.
func dividedModel(things, first, second int) int {
	if first < 0 || second < 0 || first+second > things {
		return 0
	}
	ways := new(big.Int).MulRange(1, int64(things))
	for _, n := range []int{first, second, things - first - second} {
		ways.Div(ways, new(big.Int).MulRange(1, int64(n)))
	}
	return int(ways.Int64())
}

// A divider keeps what dividedModel has told.
type divider map[[3]int]int

func (known divider) divided(things, first, second int) int {
	asked := [3]int{things, first, second}
	ways, isKnown := known[asked]
	if !isKnown {
		ways = dividedModel(things, first, second)
		known[asked] = ways
	}
	return ways
}

// keptModel goes by how many cells keep their places, and how many change them by twos, or else by fours.
func (known divider) keptModel(asked fillingAsked, move int) int {
	cells := asked.w * asked.h
	alone, together := 0, 2
	switch move {
	case 0:
		alone = cells
	case 2:
		alone = cells % 2
	case 1, 3:
		alone, together = cells%2, 4
	case 4:
		alone = asked.w % 2 * asked.h
	case 6:
		alone = asked.h % 2 * asked.w
	default:
		alone = asked.w
	}
	kept := 0
	sets := (cells - alone) / together
	for walls := range sets + 1 {
		for balls := range sets - walls + 1 {
			kept += known.divided(sets, walls, balls) * known.divided(alone, asked.walls-together*walls, asked.balls-together*balls)
		}
	}
	return kept
}

// A ballsTold is one tray with balls in some cells, with what tilts do to it, in the order of urdl.
type ballsTold struct {
	tray   string
	balls  int
	still  string
	tilted map[string]string
	moved  map[string]int
}

// ballTexts are all trays with the walls of a tray and any number of balls, in the order of texts.
func ballTexts(s string) []string {
	texts := []string{""}
	for _, c := range strings.Split(s, "") {
		var longer []string
		for _, text := range texts {
			longer = append(longer, text+c)
			if c == "." {
				longer = append(longer, text+"o")
			}
		}
		texts = longer
	}
	return texts
}

func ballsModel(s string) []ballsTold {
	var all []ballsTold
	for _, text := range ballTexts(s) {
		told := ballsTold{text, strings.Count(text, "o"), "", map[string]string{}, map[string]int{}}
		for _, dir := range []string{"u", "r", "d", "l"} {
			tilt := tiltModel(text, dir)
			told.tilted[dir], told.moved[dir] = tilt.tray, tilt.cells
			if tilt.tray == text {
				told.still += dir
			}
		}
		all = append(all, told)
	}
	return all
}

// stillTrays are those that are still in all directions of a text.
func stillTrays(all []ballsTold, dirs string) []string {
	var trays []string
	for _, told := range all {
		isMoved := func(dir rune) bool { return !strings.ContainsRune(told.still, dir) }
		if !strings.ContainsFunc(dirs, isMoved) {
			trays = append(trays, told.tray)
		}
	}
	return trays
}

// stillWithModel takes the stretches one by one, and keeps in how many ways the rest can have so many balls.
func stillWithModel(stretches [][]int, balls int, known map[[2]int]int) int {
	if len(stretches) == 0 {
		if balls == 0 {
			return 1
		}
		return 0
	}
	asked := [2]int{len(stretches), balls}
	count, isKnown := known[asked]
	if !isKnown {
		for inside := 0; inside <= len(stretches[0]) && inside <= balls; inside++ {
			count += stillWithModel(stretches[1:], balls-inside, known)
		}
		known[asked] = count
	}
	return count
}

// textsOfDirections are all texts of different directions.
func textsOfDirections() []string {
	texts := []string{""}
	for from := 0; from < len(texts); from++ {
		for _, dir := range []string{"u", "r", "d", "l"} {
			if !strings.Contains(texts[from], dir) {
				texts = append(texts, texts[from]+dir)
			}
		}
	}
	return texts
}

// wallTrays are trays without balls: all small ones, and greater ones.
func wallTrays() []string {
	trays := []string{"....", "...../.....", "..../.##./....", ".#.#./#.#.#/.#.#.", "......#", "./././././.", "..#..../#.#.#.#", ".../.../..."}
	for _, size := range [][2]int{{1, 1}, {2, 1}, {1, 2}, {3, 1}, {1, 3}, {2, 2}, {3, 2}, {2, 3}, {3, 3}, {7, 1}, {1, 7}, {4, 2}} {
		trays = append(trays, allTrays(size[0], size[1], "#.")...)
	}
	return trays
}

// greatWalls are greater trays without balls, most of which have too many cells to look at.
func greatWalls() []string {
	trays := []string{freeText(6, 6), freeText(7, 5), freeText(5, 7), freeText(4, 4), freeText(5, 5), strings.ReplaceAll(freeText(6, 6), ".", "#")}
	for _, s := range greatTrays() {
		trays = append(trays, strings.Map(func(c rune) rune {
			if c == '#' || c == '/' {
				return c
			}
			return '.'
		}, s))
	}
	return trays
}

func opensOf(s string) int {
	return strings.Count(s, ".")
}

// ratioModel is a ratio in lowest terms.
func ratioModel(over, under int) (int, int) {
	if over == 0 {
		return 0, 1
	}
	ratio := big.NewRat(int64(over), int64(under))
	return int(ratio.Num().Int64()), int(ratio.Denom().Int64())
}
