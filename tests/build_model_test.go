package tests

import (
	"math/rand"
	"slices"
	"strings"
)

// The models of chapter 6 read the texts of lines, and take orders from their ends; the program goes on from their beginnings.

func isFormModel(s string) bool {
	balls := strings.Count(s, "o")
	return isTrayModel(s) && strings.Trim(s, ".o/") == "" && balls >= 1 && balls <= 10 && len(piecesModel(s)) == 1
}

// cellOf and withText count the ends of rows with the cells before n.
func cellOf(s string, n int) byte {
	return s[n+n/strings.Index(s+"/", "/")]
}

func withText(s string, n int, cell string) string {
	at := n + n/strings.Index(s+"/", "/")
	return s[:at] + cell + s[at+1:]
}

func numbersOf(s string, cell byte) []int {
	var numbers []int
	for n, c := range []byte(strings.ReplaceAll(s, "/", "")) {
		if c == cell {
			numbers = append(numbers, n)
		}
	}
	return numbers
}

// waysModel looks at the whole lines from the sides to the cell.
func waysModel(s string, n int) string {
	rows := strings.Split(s, "/")
	x, y := n%len(rows[0]), n/len(rows[0])
	column := ""
	for _, row := range rows {
		column += row[x : x+1]
	}
	ways := ""
	for _, c := range []struct{ dir, line string }{
		{"u", column[y:]}, {"r", rows[y][:x+1]}, {"d", column[:y+1]}, {"l", rows[y][x:]},
	} {
		if strings.Trim(c.line, ".") == "" {
			ways += c.dir
		}
	}
	return ways
}

func isBesideModel(s string, n int) bool {
	w := strings.Index(s+"/", "/")
	return slices.ContainsFunc(numbersOf(s, 'o'), func(ball int) bool {
		across, down := ball%w-n%w, ball/w-n/w
		return across*across+down*down == 1
	})
}

// addModel returns the directions with which a cell can be added.
func addModel(s string, n int) string {
	if !isBesideModel(s, n) {
		return ""
	}
	return waysModel(s, n)
}

func takeModel(s string, n int) (string, bool) {
	if cellOf(s, n) != 'o' {
		return "", false
	}
	left := withText(s, n, ".")
	if !isFormModel(left) || addModel(left, n) == "" {
		return "", false
	}
	return left, true
}

// A buildTold has the numbers of orders by the balls with which they begin, and the first order.
type buildTold struct {
	counts map[int]int
	first  []int
}

func (told buildTold) count() int {
	sum := 0
	for _, count := range told.counts {
		sum += count
	}
	return sum
}

// buildModel lets each ball be the last one that may be so. It keeps what it has told.
func buildModel(s string, known map[string]buildTold) buildTold {
	if told, found := known[s]; found {
		return told
	}
	told := buildTold{counts: map[int]int{}}
	balls := numbersOf(s, 'o')
	if len(balls) == 1 {
		told = buildTold{map[int]int{balls[0]: 1}, balls}
	}
	for _, last := range balls {
		left, ok := takeModel(s, last)
		if !ok {
			continue
		}
		before := buildModel(left, known)
		for start, count := range before.counts {
			told.counts[start] += count
		}
		order := append(slices.Clone(before.first), last)
		if before.first != nil && (told.first == nil || slices.Compare(order, told.first) < 0) {
			told.first = order
		}
	}
	known[s] = told
	return told
}

// orderModel goes by the definition: it returns the first directions of a list, and whether this is an order.
func orderModel(s string, order []int) (string, bool) {
	part := strings.ReplaceAll(s, "o", ".")
	ways := ""
	for i, n := range order {
		if cellOf(s, n) != 'o' || cellOf(part, n) == 'o' {
			return "", false
		}
		if i > 0 {
			dirs := addModel(part, n)
			if dirs == "" {
				return "", false
			}
			ways += dirs[:1]
		}
		part = withText(part, n, "o")
	}
	if part != s {
		return "", false
	}
	return ways, true
}

// fullModel takes all sets of n cells of all trays of some size.
func fullModel(n int) []string {
	var forms []string
	for w := 1; w <= n; w++ {
		for h := 1; w+h <= n+1; h++ {
			for _, s := range withBalls([]string{freeText(w, h)}, 0, w*h, n) {
				if isFull(s) && isFormModel(s) {
					forms = append(forms, s)
				}
			}
		}
	}
	return forms
}

// withBalls puts so many balls more into each text, from a cell on.
func withBalls(texts []string, from, to, balls int) []string {
	if balls == 0 {
		return texts
	}
	var more []string
	for n := from; n <= to-balls; n++ {
		var next []string
		for _, s := range texts {
			next = append(next, withText(s, n, "o"))
		}
		more = append(more, withBalls(next, n+1, to, balls-1)...)
	}
	return more
}

func isFull(s string) bool {
	rows := strings.Split(s, "/")
	for x := range rows[0] {
		if !slices.ContainsFunc(rows, func(row string) bool { return row[x] == 'o' }) {
			return false
		}
	}
	return !slices.ContainsFunc(rows, func(row string) bool { return !strings.Contains(row, "o") })
}

// permutationsOf returns all lists of the same numbers in the lexicographic order, for increasing numbers.
func permutationsOf(numbers []int) [][]int {
	if len(numbers) == 0 {
		return [][]int{nil}
	}
	var lists [][]int
	for i, first := range numbers {
		for _, rest := range permutationsOf(slices.Delete(slices.Clone(numbers), i, i+1)) {
			lists = append(lists, append([]int{first}, rest...))
		}
	}
	return lists
}

// sampleForms are all forms of at most six balls that fill their trays, all forms of small trays, known ones, and greater ones.
func sampleForms() []string {
	var forms []string
	for n := 1; n <= 6; n++ {
		forms = append(forms, fullModel(n)...)
	}
	for _, s := range slices.Concat(allTrays(4, 1, ".o"), allTrays(2, 3, ".o"), allTrays(3, 3, ".o")) {
		if isFormModel(s) && !slices.Contains(forms, s) {
			forms = append(forms, s)
		}
	}
	return slices.Concat(forms, knownForms(), greatForms())
}

// greatForms grow by a fixed seed, in trays that they need not fill.
func greatForms() []string {
	numbers := rand.New(rand.NewSource(6))
	var forms []string
	for _, size := range [][2]int{{7, 5}, {5, 7}, {6, 6}, {4, 4}, {2, 7}, {7, 2}} {
		for balls := 7; balls <= 10; balls++ {
			s := withText(freeText(size[0], size[1]), numbers.Intn(size[0]*size[1]), "o")
			for strings.Count(s, "o") < balls {
				if n := numbers.Intn(size[0] * size[1]); isBesideModel(s, n) {
					s = withText(s, n, "o")
				}
			}
			forms = append(forms, s)
		}
	}
	return forms
}

// knownForms have hollows, cells within, long arms, and sides without balls.
func knownForms() []string {
	return []string{
		"o", "o.", "../.o", "ooo", ".ooo.", "oo./o..", "ooo/o.o/ooo", "ooo/ooo/ooo", "ooo/ooo/oo.", "ooo/oo./ooo", "o.o/o.o/ooo",
		"oooo/o..o/oo.o", "oooo/o..o/oooo", "oooo/...o/.o.o/.ooo", "ooooo/o...o/o...o", ".ooo/.o.o/oo.o/...o", "ooooo/ooooo", ".o.o./ooooo/.o.o.",
		"......./.ooooo./.o...o./.oo..o./.......", "....../o...../o...../o...../o...../oooooo", withText(freeText(6, 6), 14, "o"),
	}
}
