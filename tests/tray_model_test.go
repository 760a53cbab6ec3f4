package tests

import (
	"math/rand"
	"slices"
	"strings"
)

// The tests hold the program against slow and simple models, which share no code with it.

// notTrays are texts that are no trays, each for one reason.
func notTrays() []string {
	return []string{
		"", "/", "//", "./", "/.", ".//.", "./../", "../.", "./..", ".../.../..",
		"g", "A", "O", "0", " ", "-", ". ", ".\n", "\x00", "\xff", "é", "a|b",
		"aa", "a/a", "a.b/.c./..a", "ff", "b/./b", "oao/oao",
		"........", "./././././././.",
		freeText(6, 7), freeText(7, 6), freeText(7, 7), freeText(36, 1), freeText(37, 1),
		strings.Repeat(".", 100000), strings.Repeat("./", 100000), strings.Repeat("/", 100000),
	}
}

func isTrayModel(s string) bool {
	rows := strings.Split(s, "/")
	w, h := len(rows[0]), len(rows)
	if w < 1 || w > 7 || h > 7 || w*h > 36 {
		return false
	}
	for _, row := range rows {
		if len(row) != w || strings.Trim(row, "#.oabcdef") != "" {
			return false
		}
	}
	for _, name := range []string{"a", "b", "c", "d", "e", "f"} {
		if strings.Count(s, name) > 1 {
			return false
		}
	}
	return true
}

func checkedModel(s string) (string, bool) {
	if !isTrayModel(s) {
		return "", false
	}
	return s, true
}

func freeText(w, h int) string {
	return textFrom(w, h, func(x, y int) byte { return '.' })
}

func textFrom(w, h int, cell func(x, y int) byte) string {
	rows := make([]string, h)
	for y := range rows {
		for x := range w {
			rows[y] += string([]byte{cell(x, y)})
		}
	}
	return strings.Join(rows, "/")
}

// sampleTrays are all trays of some cells with few kinds of them, and greater ones made by a fixed seed.
func sampleTrays() []string {
	var trays []string
	for _, size := range [][2]int{{1, 1}, {2, 1}, {1, 2}, {3, 1}, {1, 3}, {2, 2}} {
		trays = append(trays, allTrays(size[0], size[1], "#.oab")...)
	}
	trays = append(trays, allTrays(3, 2, "#.a")...)
	trays = append(trays, allTrays(2, 3, "#.a")...)
	trays = append(trays, allTrays(3, 3, "#.")...)
	return append(trays, greatTrays()...)
}

func allTrays(w, h int, kinds string) []string {
	texts := []string{""}
	for n := range w * h {
		var longer []string
		for _, s := range texts {
			if n > 0 && n%w == 0 {
				s += "/"
			}
			for _, c := range kinds {
				longer = append(longer, s+string(c))
			}
		}
		texts = longer
	}
	return slices.DeleteFunc(texts, func(s string) bool { return !isTrayModel(s) })
}

func greatTrays() []string {
	numbers := rand.New(rand.NewSource(1))
	trays := []string{freeText(6, 6), freeText(7, 5), freeText(5, 7), "#######/#######/#######/#######/#######"}
	for w := 1; w <= 7; w++ {
		for h := 1; h <= 7 && w*h <= 36; h++ {
			names := "abcdef"
			trays = append(trays, textFrom(w, h, func(x, y int) byte {
				kind := numbers.Intn(10)
				switch {
				case kind < 4:
					return '#'
				case kind < 8:
					return '.'
				case kind < 9 || names == "":
					return 'o'
				}
				name := names[0]
				names = names[1:]
				return name
			}))
		}
	}
	return trays
}

// eightTrays reads the cells of the eight trays straight from the text.
func eightTrays(s string) []string {
	rows := strings.Split(s, "/")
	w, h := len(rows[0]), len(rows)
	return []string{
		textFrom(w, h, func(x, y int) byte { return rows[y][x] }),
		textFrom(w, h, func(x, y int) byte { return rows[y][w-1-x] }),
		textFrom(w, h, func(x, y int) byte { return rows[h-1-y][x] }),
		textFrom(w, h, func(x, y int) byte { return rows[h-1-y][w-1-x] }),
		textFrom(h, w, func(x, y int) byte { return rows[x][y] }),
		textFrom(h, w, func(x, y int) byte { return rows[x][w-1-y] }),
		textFrom(h, w, func(x, y int) byte { return rows[h-1-x][y] }),
		textFrom(h, w, func(x, y int) byte { return rows[h-1-x][w-1-y] }),
	}
}

// allSteps tells the lengths of ways between all cells, -1 for none, found by going over every cell between two others.
func allSteps(s string) [][]int {
	rows := strings.Split(s, "/")
	w := len(rows[0])
	cells := strings.Join(rows, "")
	const none = 1000
	steps := make([][]int, len(cells))
	for a := range cells {
		steps[a] = make([]int, len(cells))
		for b := range cells {
			across, down := a%w-b%w, a/w-b/w
			apart := across*across + down*down
			steps[a][b] = none
			if apart <= 1 && cells[a] != '#' && cells[b] != '#' {
				steps[a][b] = apart
			}
		}
	}
	for over := range cells {
		for a := range cells {
			for b := range cells {
				steps[a][b] = min(steps[a][b], steps[a][over]+steps[over][b])
			}
		}
	}
	for _, row := range steps {
		for b, n := range row {
			if n >= none {
				row[b] = -1
			}
		}
	}
	return steps
}

// cropModel takes rows and columns of walls off, one at a time.
func cropModel(s string) (string, bool) {
	rows := strings.Split(s, "/")
	isWalls := func(row string) bool { return strings.Trim(row, "#") == "" }
	for len(rows) > 0 && isWalls(rows[0]) {
		rows = rows[1:]
	}
	if len(rows) == 0 {
		return "", false
	}
	for isWalls(rows[len(rows)-1]) {
		rows = rows[:len(rows)-1]
	}
	column := func(x int) string {
		var cells string
		for _, row := range rows {
			cells += row[x : x+1]
		}
		return cells
	}
	for isWalls(column(0)) {
		for y := range rows {
			rows[y] = rows[y][1:]
		}
	}
	for isWalls(column(len(rows[0]) - 1)) {
		for y := range rows {
			rows[y] = rows[y][:len(rows[y])-1]
		}
	}
	return strings.Join(rows, "/"), true
}

// besideModel is empty for trays of different numbers of rows.
func besideModel(a, b string) string {
	left, right := strings.Split(a, "/"), strings.Split(b, "/")
	if len(left) != len(right) {
		return ""
	}
	for y := range left {
		left[y] += right[y]
	}
	return strings.Join(left, "/")
}
