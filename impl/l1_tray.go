package impl

import (
	"slices"
	"strings"
)

const MaxSide = 7
const MaxCells = 36

const (
	wall = '#'
	free = '.'

	ballNames = "abcdef"
	cellTexts = "#.o" + ballNames

	rowEnd = "/"
)

// A grid is a tray as a value. The bytes behind its last cell stay zero:
// grids of one size are the same tray exactly if their arrays are equal.
type grid struct {
	width  int
	height int
	cells  [MaxCells]byte
}

// IsTray reports whether t is a tray.
func IsTray(t string) bool {
	_, ok := readTray(t)
	return ok
}

// SizeOf returns the numbers of columns and of rows.
func SizeOf(t string) (int, int, bool) {
	g, ok := readTray(t)
	return g.width, g.height, ok
}

// CellAt returns the text of a cell.
func CellAt(t string, x int, y int) (string, bool) {
	g, ok := readTray(t)
	if !ok || !hasPlace(g, x, y) {
		return "", false
	}
	return string(rowOf(&g, y)[x : x+1]), true
}

// PutAt returns the tray with another cell there.
func PutAt(t string, x int, y int, cell string) (string, bool) {
	g, ok := readTray(t)
	if !ok || !hasPlace(g, x, y) || !isCell(cell) {
		return "", false
	}
	rowOf(&g, y)[x] = cell[0]
	return checkedTray(trayText(g))
}

// CountCells returns how many cells have a text.
func CountCells(t string, cell string) (int, bool) {
	g, ok := readTray(t)
	if !ok || !isCell(cell) {
		return 0, false
	}
	return countByte(g, cell[0]), true
}

// BallsOf returns the numbers of all cells with balls, increasing.
func BallsOf(t string) ([]int, bool) {
	g, ok := readTray(t)
	if !ok {
		return nil, false
	}
	return ballsIn(g), true
}

// PlaceOf returns x and y of the ball with a name. It fails if there is none.
func PlaceOf(t string, name string) (int, int, bool) {
	g, ok := readTray(t)
	if !ok || !isName(name) {
		return 0, 0, false
	}
	n := slices.Index(g.cells[:], name[0])
	if n < 0 {
		return 0, 0, false
	}
	return n % g.width, n / g.width, true
}

// TurnTray returns the tray turned by a quarter clockwise: the first column, from below, becomes the first row.
func TurnTray(t string) (string, bool) {
	g, ok := readTray(t)
	return trayText(turned(g)), ok
}

// MirrorTray returns the tray with each row backwards.
func MirrorTray(t string) (string, bool) {
	g, ok := readTray(t)
	return trayText(mirrored(g)), ok
}

// TransposeTray returns the tray with columns and rows exchanged.
func TransposeTray(t string) (string, bool) {
	g, ok := readTray(t)
	return trayText(transposed(g)), ok
}

// LeastTray returns the first of the eight trays, turned and mirrored, in the order of texts.
func LeastTray(t string) (string, bool) {
	g, ok := readTray(t)
	least := trayText(g)
	for move := range 8 {
		least = min(least, trayText(movedBy(g, move)))
	}
	return least, ok
}

// KeepersOf returns how many of the eight moves, turning and mirroring, leave a tray as it is: 8 is a multiple of it.
func KeepersOf(t string) (int, bool) {
	g, ok := readTray(t)
	if !ok {
		return 0, false
	}
	count := 0
	for move := range 8 {
		if isSameGrid(g, movedBy(g, move)) {
			count++
		}
	}
	return count, true
}

// PartsOf returns the greatest sets of cells that are no walls between each two of which there are ways, each as increasing numbers, ordered by their first ones.
func PartsOf(t string) ([][]int, bool) {
	g, ok := readTray(t)
	if !ok {
		return nil, false
	}
	var parts [][]int
search:
	for n := range countAll(g) {
		if g.cells[n] == wall {
			continue
		}
		for _, part := range parts {
			if slices.Contains(part, n) {
				continue search
			}
		}
		parts = append(parts, partWith(g, n))
	}
	return parts, true
}

// WayBetween returns the least length of a way between the cells with the numbers a and b. It fails if there is none.
func WayBetween(t string, a int, b int) (int, bool) {
	g, ok := readTray(t)
	if !ok || !hasNumber(g, a) || !hasNumber(g, b) {
		return 0, false
	}
	steps := stepsFrom(g, a)[b]
	if steps < 0 {
		return 0, false
	}
	return steps, true
}

// EmptyTray returns the tray of w columns and h rows with free cells alone.
func EmptyTray(w int, h int) (string, bool) {
	if !isSize(w, h) {
		return "", false
	}
	return trayText(filledGrid(w, h, free)), true
}

// WallsOf returns the tray with all balls taken out.
func WallsOf(t string) (string, bool) {
	g, ok := readTray(t)
	for n := range countAll(g) {
		if isBall(g.cells[n]) {
			g.cells[n] = free
		}
	}
	return trayText(g), ok
}

// CropTray returns the tray without rows and columns of walls alone at its four sides. It fails if all cells are walls.
func CropTray(t string) (string, bool) {
	g, ok := readTray(t)
	if !ok || countByte(g, wall) == countAll(g) {
		return "", false
	}
	left, right := g.width, 0
	top, bottom := g.height, 0
	for n := range countAll(g) {
		if g.cells[n] != wall {
			x, y := n%g.width, n/g.width
			left, right = min(left, x), max(right, x+1)
			top, bottom = min(top, y), max(bottom, y+1)
		}
	}
	var rows []string
	for y := top; y < bottom; y++ {
		rows = append(rows, string(rowOf(&g, y)[left:right]))
	}
	return strings.Join(rows, rowEnd), true
}

// JoinTrays returns a above b, for trays of as many columns.
func JoinTrays(a string, b string) (string, bool) {
	if !IsTray(a) || !IsTray(b) {
		return "", false
	}
	// A text with rows of different lengths is no tray.
	return checkedTray(a + rowEnd + b)
}

// BesideTrays returns a to the left of b, for trays of as many rows.
func BesideTrays(a string, b string) (string, bool) {
	left, leftOk := readTray(a)
	right, rightOk := readTray(b)
	if !leftOk || !rightOk || left.height != right.height {
		return "", false
	}
	rows := make([]string, left.height)
	for y := range rows {
		rows[y] = string(rowOf(&left, y)) + string(rowOf(&right, y))
	}
	return checkedTray(strings.Join(rows, rowEnd))
}

// readTray returns the zero grid, whose text is empty, for a text that is no tray.
func readTray(t string) (grid, bool) {
	// No tray is longer: a great text is turned down before it is split.
	if len(t) > MaxCells+MaxSide-1 {
		return grid{}, false
	}
	rows := strings.Split(t, rowEnd)
	g := grid{width: len(rows[0]), height: len(rows)}
	if !isSize(g.width, g.height) {
		return grid{}, false
	}
	for y, row := range rows {
		if len(row) != g.width {
			return grid{}, false
		}
		copy(rowOf(&g, y), row)
	}
	if !hasCellsOfTray(g) {
		return grid{}, false
	}
	return g, true
}

func hasCellsOfTray(g grid) bool {
	for n := range countAll(g) {
		if strings.IndexByte(cellTexts, g.cells[n]) < 0 {
			return false
		}
	}
	for _, name := range []byte(ballNames) {
		if countByte(g, name) > 1 {
			return false
		}
	}
	return true
}

func checkedTray(t string) (string, bool) {
	if !IsTray(t) {
		return "", false
	}
	return t, true
}

func trayText(g grid) string {
	rows := make([]string, g.height)
	for y := range rows {
		rows[y] = string(rowOf(&g, y))
	}
	return strings.Join(rows, rowEnd)
}

// rowOf tells the room of the row, so that nothing put behind its end comes into the next row.
func rowOf(g *grid, y int) []byte {
	from, to := y*g.width, (y+1)*g.width
	return g.cells[from:to:to]
}

// isSize looks at each side first, so that the product cannot overflow.
func isSize(w int, h int) bool {
	return w >= 1 && w <= MaxSide && h >= 1 && h <= MaxSide && w*h <= MaxCells
}

func isCell(cell string) bool {
	return len(cell) == 1 && strings.Contains(cellTexts, cell)
}

func isName(name string) bool {
	return len(name) == 1 && strings.Contains(ballNames, name)
}

func isBall(cell byte) bool {
	return cell != wall && cell != free
}

func ballsIn(g grid) []int {
	var balls []int
	for n := range countAll(g) {
		if isBall(g.cells[n]) {
			balls = append(balls, n)
		}
	}
	return balls
}

func filledGrid(w int, h int, cell byte) grid {
	g := grid{width: w, height: h}
	for n := range countAll(g) {
		g.cells[n] = cell
	}
	return g
}

func hasPlace(g grid, x int, y int) bool {
	return x >= 0 && x < g.width && y >= 0 && y < g.height
}

func hasNumber(g grid, n int) bool {
	return n >= 0 && n < countAll(g)
}

func countAll(g grid) int {
	return g.width * g.height
}

func countByte(g grid, cell byte) int {
	count := 0
	for n := range countAll(g) {
		if g.cells[n] == cell {
			count++
		}
	}
	return count
}

func isSameGrid(a grid, b grid) bool {
	return a.width == b.width && a.height == b.height && a.cells == b.cells
}

func transposed(g grid) grid {
	result := grid{width: g.height, height: g.width}
	for n := range countAll(g) {
		x, y := n%g.width, n/g.width
		rowOf(&result, x)[y] = g.cells[n]
	}
	return result
}

func mirrored(g grid) grid {
	for y := range g.height {
		slices.Reverse(rowOf(&g, y))
	}
	return g
}

func turned(g grid) grid {
	return mirrored(transposed(g))
}

// movedBy turns by a number of quarters for the moves 0..3, and mirrors first for 4..7.
func movedBy(g grid, move int) grid {
	if move >= 4 {
		g = mirrored(g)
	}
	for range move % 4 {
		g = turned(g)
	}
	return g
}

func neighboursOf(g grid, n int) []int {
	x, y := n%g.width, n/g.width
	var near []int
	if y > 0 {
		near = append(near, n-g.width)
	}
	if x+1 < g.width {
		near = append(near, n+1)
	}
	if y+1 < g.height {
		near = append(near, n+g.width)
	}
	if x > 0 {
		near = append(near, n-1)
	}
	return near
}

// stepsFrom returns for each cell the least length of a way to it, and -1 if there is none: for a wall to all of them.
func stepsFrom(g grid, start int) []int {
	steps := slices.Repeat([]int{-1}, countAll(g))
	if g.cells[start] == wall {
		return steps
	}
	steps[start] = 0
	queue := []int{start}
	for len(queue) > 0 {
		n := queue[0]
		queue = queue[1:]
		for _, next := range neighboursOf(g, n) {
			if g.cells[next] != wall && steps[next] < 0 {
				steps[next] = steps[n] + 1
				queue = append(queue, next)
			}
		}
	}
	return steps
}

func partWith(g grid, start int) []int {
	var part []int
	for n, steps := range stepsFrom(g, start) {
		if steps >= 0 {
			part = append(part, n)
		}
	}
	return part
}
