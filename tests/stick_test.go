package tests

import (
	"fmt"
	"slices"
	"strings"
	"testing"

	"loop.example/g01199/impl"
)

// The tests of promise 5: pieces move as one and only grow, and words to one piece are shortest.

func TestLimitOfWordsToOne(t *testing.T) {
	expect(t, "MaxShapeWord", []any{impl.MaxShapeWord}, 5)
}

func TestExampleOfBallsThatStick(t *testing.T) {
	pieces, ok := impl.PiecesOf("oo./..a")
	expect(t, "PiecesOf", []any{pieces, ok}, [][]int{{0, 1}, {5}}, true)
	tilted, ok := impl.StickTilt("oo./..a", "r")
	expect(t, "StickTilt", []any{tilted, ok}, ".oo/..a", true)
	pieces, ok = impl.PiecesOf(tilted)
	expect(t, "PiecesOf", []any{pieces, ok}, [][]int{{1, 2, 5}}, true)
	shape, ok := impl.ShapeOf(tilted, 1)
	expect(t, "ShapeOf", []any{shape, ok}, ".o/oo", true)
	word, ok := impl.WordToOne("oo./..a")
	expect(t, "WordToOne", []any{word, ok}, "u", true)
	tilted, ok = impl.StickTilt("oo./..a", "u")
	expect(t, "StickTilt", []any{tilted, ok}, "ooa/...", true)
}

// TestTraysWithoutBalls has no pieces, and no tilt that changes them.
func TestTraysWithoutBalls(t *testing.T) {
	for _, s := range []string{".", "#", "..", "#.", "./#", ".#./...", "##/##", freeText(7, 5), freeText(6, 6)} {
		pieces, ok := impl.PiecesOf(s)
		if len(pieces) != 0 || !ok {
			t.Errorf("PiecesOf(%q) is %v, %v", s, pieces, ok)
		}
		n, ok := impl.CountPieces(s)
		expect(t, "CountPieces "+s, []any{n, ok}, 0, true)
		still, ok := impl.StickStill(s)
		expect(t, "StickStill "+s, []any{still, ok}, "urdl", true)
		word, ok := impl.WordToOne(s)
		expect(t, "WordToOne "+s, []any{word, ok}, "", true)
		for _, dir := range []string{"u", "r", "d", "l"} {
			expectStick(t, s, dir, s, s, nil, nil)
		}
		for _, word := range []string{"", "r", "urdl"} {
			n, ok := impl.GreatestPiece(s, word)
			expect(t, "GreatestPiece "+s+" "+word, []any{n, ok}, 0, true)
			is, ok := impl.IsShapeReached(s, "o", word)
			expect(t, "IsShapeReached "+s+" "+word, []any{is, ok}, false, true)
		}
		failsWithZeros(t, "PieceAt", s, 0)
		failsWithZeros(t, "ShapeOf", s, 0)
	}
}

func TestTraysOfOneBallOrFullOfBalls(t *testing.T) {
	for _, c := range []struct{ s, still, shape string }{
		{"a", "urdl", "o"}, {"o", "urdl", "o"}, {"o.", "udl", "o"}, {".b", "urd", "o"}, {"#o", "urdl", "o"}, {".../.o./...", "", "o"},
		{"oo", "urdl", "o/o"}, {"a/o", "urdl", "o/o"}, {"ab/cd", "urdl", "oo/oo"}, {"ooooooo", "urdl", "o/o/o/o/o/o/o"},
		{"ooo/ooo", "urdl", "oo/oo/oo"}, {strings.ReplaceAll(freeText(7, 5), ".", "o"), "urdl", strings.ReplaceAll(freeText(5, 7), ".", "o")},
	} {
		balls, _ := impl.BallsOf(c.s)
		pieces, ok := impl.PiecesOf(c.s)
		expect(t, "PiecesOf "+c.s, []any{pieces, ok}, [][]int{balls}, true)
		n, ok := impl.CountPieces(c.s)
		expect(t, "CountPieces "+c.s, []any{n, ok}, 1, true)
		still, ok := impl.StickStill(c.s)
		expect(t, "StickStill "+c.s, []any{still, ok}, c.still, true)
		word, ok := impl.WordToOne(c.s)
		expect(t, "WordToOne "+c.s, []any{word, ok}, "", true)
		n, ok = impl.GreatestPiece(c.s, "rd")
		expect(t, "GreatestPiece "+c.s, []any{n, ok}, len(balls), true)
		is, ok := impl.IsShapeReached(c.s, c.shape, "rd")
		expect(t, "IsShapeReached "+c.s, []any{is, ok}, true, true)
		for _, ball := range balls {
			shape, ok := impl.ShapeOf(c.s, ball)
			expect(t, "ShapeOf "+c.s, []any{shape, ok}, c.shape, true)
		}
	}
}

func TestPiecesAndShapes(t *testing.T) {
	for _, s := range sampleSticks() {
		want := piecesModel(s)
		pieces, ok := impl.PiecesOf(s)
		if !ok || !slices.EqualFunc(pieces, want, slices.Equal[[]int]) {
			t.Errorf("PiecesOf(%q) is %v, %v and should be %v", s, pieces, ok, want)
		}
		n, ok := impl.CountPieces(s)
		expect(t, "CountPieces "+s, []any{n, ok}, len(want), true)
		for cell := range strings.ReplaceAll(s, "/", "") {
			i := slices.IndexFunc(want, func(piece []int) bool { return slices.Contains(piece, cell) })
			if i < 0 {
				failsWithZeros(t, "PieceAt", s, cell)
				failsWithZeros(t, "ShapeOf", s, cell)
				continue
			}
			piece, ok := impl.PieceAt(s, cell)
			expect(t, fmt.Sprint("PieceAt ", s, " ", cell), []any{piece, ok}, want[i], true)
			shape, ok := impl.ShapeOf(s, cell)
			expect(t, fmt.Sprint("ShapeOf ", s, " ", cell), []any{shape, ok}, shapeModel(s, want[i]), true)
		}
	}
}

func TestKnownPieces(t *testing.T) {
	for _, c := range []struct {
		s    string
		want [][]int
	}{
		{"o.o", [][]int{{0}, {2}}}, {"o/./o", [][]int{{0}, {2}}}, {"oab", [][]int{{0, 1, 2}}}, {"o#a", [][]int{{0}, {2}}},
		// Corners in common are no sides in common.
		{"o./.o", [][]int{{0}, {3}}}, {".o/o.", [][]int{{1}, {2}}},
		// The last cell of a row and the first one of the next row are no neighbours.
		{"..o/o..", [][]int{{2}, {3}}}, {"o.o/o.o", [][]int{{0, 3}, {2, 5}}},
		// Not in one line, around a corner, and joined only at the far end.
		{"oo/o.", [][]int{{0, 1, 2}}}, {".o./ooo/.o.", [][]int{{1, 3, 4, 5, 7}}}, {"o.o/o.o/ooo", [][]int{{0, 2, 3, 5, 6, 7, 8}}},
		{"..o/ooo/o..", [][]int{{2, 3, 4, 5, 6}}}, {"o.o/o.o/o#o", [][]int{{0, 3, 6}, {2, 5, 8}}},
		// One piece within the rectangle around another one.
		{"o.o/o../ooo", [][]int{{0, 3, 6, 7, 8}, {2}}}, {"ooooo/o...o/o.o.o/o...o/ooooo", [][]int{{0, 1, 2, 3, 4, 5, 9, 10, 14, 15, 19, 20, 21, 22, 23, 24}, {12}}},
	} {
		pieces, ok := impl.PiecesOf(c.s)
		expect(t, "PiecesOf "+c.s, []any{pieces, ok}, c.want, true)
		for _, want := range c.want {
			for _, cell := range want {
				piece, ok := impl.PieceAt(c.s, cell)
				expect(t, fmt.Sprint("PieceAt ", c.s, " ", cell), []any{piece, ok}, want, true)
			}
		}
	}
}

func TestKnownShapes(t *testing.T) {
	for _, c := range []struct {
		s     string
		cell  int
		shape string
	}{
		{"o.o", 2, "o"}, {"ab.", 1, "o/o"}, {".a/.b", 3, "o/o"}, {".../.oo/...", 5, "o/o"}, {"ooo", 0, "o/o/o"}, {"o#/ab", 2, ".o/oo"},
		// Walls, and another piece, within the rectangle.
		{"o#/oo", 0, ".o/oo"}, {"o.c/o../oab", 0, "..o/..o/ooo"}, {"o.c/o../oab", 2, "o"}, {"ooo/o.o", 5, "o.o/ooo"},
		{"......./..ooo../..o.o../......./.......", 9, "o.o/ooo"},
	} {
		shape, ok := impl.ShapeOf(c.s, c.cell)
		expect(t, fmt.Sprint("ShapeOf ", c.s, " ", c.cell), []any{shape, ok}, c.shape, true)
	}
}

// TestTurnedAndMirroredPieces has pieces that all eight moves make different.
func TestTurnedAndMirroredPieces(t *testing.T) {
	for s, shape := range map[string]string{
		"ooo/o..": "..o/ooo", "oo/o./o./o.": "...o/oooo", ".oo/oo./.o.": "..o/ooo/.o.", "oo/.o": ".o/oo", "oo./.oo": ".o/oo/o.",
	} {
		eight := eightTrays(s)
		if slices.Min(eight) != shape {
			t.Fatalf("the first one of %q is not %q", eight, shape)
		}
		for _, turned := range eight {
			balls, _ := impl.BallsOf(turned)
			got, ok := impl.ShapeOf(turned, balls[0])
			expect(t, "ShapeOf "+turned, []any{got, ok}, shape, true)
			is, ok := impl.IsShapeReached(turned, shape, "")
			expect(t, "IsShapeReached "+turned, []any{is, ok}, true, true)
			if turned != shape {
				failsWithZeros(t, "IsShapeReached", turned, turned, "")
			}
		}
	}
}

// expectStick tells the tray behind a tilt and behind one step of it, the pieces that are blocked, and by how many cells each moves.
func expectStick(t *testing.T, s, dir, tilted, stepped string, blocked, moves []int) {
	t.Helper()
	tray, ok := impl.StickTilt(s, dir)
	expect(t, "StickTilt "+s+" "+dir, []any{tray, ok}, tilted, true)
	tray, ok = impl.StickStep(s, dir)
	expect(t, "StickStep "+s+" "+dir, []any{tray, ok}, stepped, true)
	list, ok := impl.BlockedPieces(s, dir)
	if !ok || !slices.Equal(list, blocked) {
		t.Errorf("BlockedPieces(%q, %q) is %v, %v and should be %v", s, dir, list, ok, blocked)
	}
	list, ok = impl.StickMoves(s, dir)
	if !ok || !slices.Equal(list, moves) {
		t.Errorf("StickMoves(%q, %q) is %v, %v and should be %v", s, dir, list, ok, moves)
	}
}

func TestTiltsOfBallsThatStick(t *testing.T) {
	for _, s := range sampleSticks() {
		still := ""
		for _, dir := range []string{"u", "r", "d", "l"} {
			moves := movesModel(s, dir)
			var blocked []int
			for i, n := range moves {
				if n == 0 {
					blocked = append(blocked, i)
				}
			}
			tilted := stickModel(s, dir)
			if tilted == s {
				still += dir
			}
			expectStick(t, s, dir, tilted, movedModel(s, dir, 1), blocked, moves)
		}
		got, ok := impl.StickStill(s)
		expect(t, "StickStill "+s, []any{got, ok}, still, true)
	}
}

func TestKnownTiltsOfBallsThatStick(t *testing.T) {
	for _, c := range []struct {
		s, dir, tilted, stepped string
		blocked, moves          []int
	}{
		{"a....", "r", "....a", ".a...", nil, []int{4}},
		{"oo./..a", "r", ".oo/..a", ".oo/..a", []int{1}, []int{1, 0}},
		// One after the other.
		{"o.o.o", "r", "..ooo", ".o.oo", []int{2}, []int{2, 1, 0}},
		{"o.o.o", "l", "ooo..", "oo.o.", []int{0}, []int{0, 1, 2}},
		{"a.b.c..", "r", "....abc", ".a.b.c.", nil, []int{4, 3, 2}},
		{"a/./b/./c", "d", "././a/b/c", "./a/./b/c", []int{2}, []int{2, 1, 0}},
		{"a/./b/./c", "u", "a/b/c/./.", "a/b/./c/.", []int{0}, []int{0, 1, 2}},
		// Around a corner: the lower ball of the second piece comes to the third one, and its upper balls stop the first one.
		{"a.oo../..o.o#", "r", "..aoo./...oo#", ".a.oo./...oo#", []int{2}, []int{2, 1, 0}},
		{"a.oo../..o..#", "r", "...aoo/....o#", ".a.oo./...o.#", nil, []int{3, 2}},
		{"a.oo.../..o.oo./.....o#", "r", "..aoo../...ooo./.....o#", ".a.oo../...ooo./.....o#", []int{2}, []int{2, 1, 0}},
		// A wall ahead of one ball alone.
		{"oo./o#.", "r", "oo./o#.", "oo./o#.", []int{0}, []int{0}},
		{"oo../.o.#", "r", ".oo./..o#", ".oo./..o#", nil, []int{1}},
		{"ab/.#/..", "d", "ab/.#/..", "ab/.#/..", []int{0}, []int{0}},
		{"ab/../.#", "d", "../ab/.#", "../ab/.#", nil, []int{1}},
		// A side ahead of one ball alone.
		{"o../ooo", "r", "o../ooo", "o../ooo", []int{0}, []int{0}},
		{"..o/ooo", "l", "..o/ooo", "..o/ooo", []int{0}, []int{0}},
		{"oo/o./..", "d", "../oo/o.", "../oo/o.", nil, []int{1}},
		{"../o./oo", "u", "o./oo/..", "o./oo/..", nil, []int{1}},
		// Balls that pass by each other within a tilt do not stick.
		{"o.../.o#.", "r", "...o/.o#.", ".o../.o#.", []int{1}, []int{3, 0}},
		{"..o/.../#o./.#.", "d", ".../.../#o./.#o", ".../..o/#o./.#.", []int{1}, []int{3, 0}},
		// They are neighbours at its end alone, or all along.
		{"o.o", "r", ".oo", ".oo", []int{1}, []int{1, 0}},
		{"o.../..o.", "r", "...o/...o", ".o../...o", nil, []int{3, 1}},
		{".o./o.o", "l", "o../oo.", "o../oo.", []int{1}, []int{1, 0, 1}},
		// A ball of the piece itself does not block it, nor does one of another piece that moves on.
		{"abc...", "r", "...abc", ".abc..", nil, []int{3}},
		{"o.o...", "r", "....oo", ".o.o..", nil, []int{4, 3}},
		// What is one piece moves as one.
		{".../aob/...", "u", "aob/.../...", "aob/.../...", nil, []int{1}},
		{"ooa/..o/o..", "u", "ooa/o.o/...", "ooa/o.o/...", []int{0}, []int{0, 1}},
		{"ooa/..o/o..", "d", ".../ooa/o.o", ".../ooa/o.o", []int{1}, []int{1, 0}},
	} {
		expectStick(t, c.s, c.dir, c.tilted, c.stepped, c.blocked, c.moves)
	}
}

// TestPiecesMoveAsOneAndOnlyGrow goes by the pieces alone: all balls of one are moved alike, with their names, and come into one piece.
func TestPiecesMoveAsOneAndOnlyGrow(t *testing.T) {
	for _, s := range sampleSticks() {
		w, _, _ := impl.SizeOf(s)
		before := strings.ReplaceAll(s, "/", "")
		pieces, _ := impl.PiecesOf(s)
		for dir, ahead := range map[string]int{"u": -w, "r": 1, "d": w, "l": -1} {
			tilted, _ := impl.StickTilt(s, dir)
			after := strings.ReplaceAll(tilted, "/", "")
			moves, _ := impl.StickMoves(s, dir)
			grown, ok := impl.PiecesOf(tilted)
			if !ok || len(moves) != len(pieces) || len(grown) > len(pieces) || strings.Count(after, ".") != strings.Count(before, ".") {
				t.Fatalf("StickTilt(%q, %q) is %q", s, dir, tilted)
			}
			for i, piece := range pieces {
				into, ok := impl.PieceAt(tilted, piece[0]+moves[i]*ahead)
				for _, n := range piece {
					to := n + moves[i]*ahead
					if !ok || !slices.Contains(into, to) || after[to] != before[n] {
						t.Errorf("StickTilt(%q, %q) is %q: the piece %v is not moved as one", s, dir, tilted, piece)
					}
				}
			}
			again, ok := impl.StickTilt(tilted, dir)
			expect(t, "StickTilt twice "+s+" "+dir, []any{again, ok}, tilted, true)
		}
	}
}

// TestTurnedTraysStickAlike turns the tray and the direction.
func TestTurnedTraysStickAlike(t *testing.T) {
	for _, s := range sampleSticks() {
		turned, _ := impl.TurnTray(s)
		for dir, next := range map[string]string{"u": "r", "r": "d", "d": "l", "l": "u"} {
			tilted, _ := impl.StickTilt(s, dir)
			want, _ := impl.TurnTray(tilted)
			got, ok := impl.StickTilt(turned, next)
			expect(t, "StickTilt "+turned+" "+next, []any{got, ok}, want, true)
		}
	}
}

func TestBallsStickFromTheNextTiltOn(t *testing.T) {
	for _, c := range []struct{ s, word, want string }{
		{"oo./..a", "", "oo./..a"}, {"oo./..a", "r", ".oo/..a"}, {"oo./..a", "rl", "oo./.a."}, {"oo./..a", "rdlur", ".oo/..a"},
		{"oo./..a", "d", ".../ooa"}, {"oo./..a", "u", "ooa/..."}, {"oo./..a", "l", "oo./a.."},
		// Neighbours at the end of a tilt hold each other back in the next one.
		{"..o./o#..", "l", "o.../o#.."}, {"..o./o#..", "lr", "o.../o#.."}, {"..o./o.#.", "lr", ".o../.o#."},
		{"o.#./.o#.", "r", ".o#./.o#."}, {"o.#./.o#.", "rl", "o.#./o.#."}, {"a.#/.b#/#..", "rd", "..#/.a#/#b."},
		// Neighbours within a tilt alone do not.
		{"o.../.o#.", "r", "...o/.o#."}, {"o.../.o#.", "rl", "o.../o.#."}, {"o...../..o.#.", "r", ".....o/...o#."},
		// Neighbours within a tilt that are so at its end, too.
		{"o.o..#/......", "rd", ".....#/...oo."}, {"..o/.../oo#", "d", ".../..o/oo#"}, {"..o/.../oo#", "dl", ".../o../oo#"},
		// Corners in common do not make one piece.
		{"o.#./#o.#", "r", ".o#./#.o#"}, {"o.#./#o.#", "rl", "o.#./#o.#"},
	} {
		got, ok := impl.StickWord(c.s, c.word)
		expect(t, "StickWord "+c.s+" "+c.word, []any{got, ok}, c.want, true)
	}
}

// shortSticks are words that are made on all samples.
func shortSticks() []string {
	return []string{"", "u", "r", "d", "l", "rd", "lu", "dlu", "uldr", "rrdd", "ldrurd"}
}

// knownShapes are the shapes of all pieces of at most three balls, and some of more.
func knownShapes() []string {
	return []string{"o", "o/o", "o/o/o", ".o/oo", "oo/oo", "o/o/o/o", ".o./ooo", ".o/oo/o.", "..o/ooo", "o.o/ooo", ".o./ooo/.o."}
}

func TestWordsOfBallsThatStick(t *testing.T) {
	for _, s := range sampleSticks() {
		for _, word := range shortSticks() {
			expectWordsThatStick(t, s, word)
		}
	}
	for _, s := range knownSticks() {
		for _, word := range longWords() {
			expectWordsThatStick(t, s, word)
		}
	}
}

func expectWordsThatStick(t *testing.T, s, word string) {
	t.Helper()
	behind := stickWordModel(s, word)
	tray, ok := impl.StickWord(s, word)
	expect(t, "StickWord "+s+" "+word, []any{tray, ok}, behind, true)
	n, ok := impl.GreatestPiece(s, word)
	expect(t, "GreatestPiece "+s+" "+word, []any{n, ok}, greatestModel(behind), true)
	shapes := shapesModel(behind)
	for _, shape := range append(knownShapes(), shapes...) {
		is, ok := impl.IsShapeReached(s, shape, word)
		expect(t, "IsShapeReached "+s+" "+shape+" "+word, []any{is, ok}, slices.Contains(shapes, shape), true)
	}
}

func TestLimitOfWordsThatStick(t *testing.T) {
	const s = "oo./..a"
	for _, word := range []string{strings.Repeat("r", 40), strings.Repeat("rl", 20), strings.Repeat("urdl", 10)} {
		want := stickWordModel(s, word)
		tray, ok := impl.StickWord(s, word)
		expect(t, "StickWord "+word, []any{tray, ok}, want, true)
		n, ok := impl.GreatestPiece(s, word)
		expect(t, "GreatestPiece "+word, []any{n, ok}, 3, true)
		for _, shape := range knownShapes() {
			is, ok := impl.IsShapeReached(s, shape, word)
			expect(t, "IsShapeReached "+shape+" "+word, []any{is, ok}, slices.Contains(shapesModel(want), shape), true)
		}
		for _, dir := range []string{"u", "r", "d", "l"} {
			failsWithZeros(t, "StickWord", s, word+dir)
			failsWithZeros(t, "GreatestPiece", s, word+dir)
			failsWithZeros(t, "IsShapeReached", s, "o", word+dir)
		}
	}
}

func TestGreatestKnownPieces(t *testing.T) {
	for _, c := range []struct {
		s, word string
		want    int
	}{
		{"oo./..a", "", 2}, {"oo./..a", "r", 3}, {"oo.aob", "", 3}, {"aob.oo", "", 3}, {"o.o", "", 1}, {"o.o", "u", 1}, {"o.o", "l", 2},
		{"o#o", "rl", 1}, {"oo#oo#o", "", 2}, {"#.#", "", 0}, {".", "urdl", 0}, {"ab/cd", "", 4},
	} {
		n, ok := impl.GreatestPiece(c.s, c.word)
		expect(t, "GreatestPiece "+c.s+" "+c.word, []any{n, ok}, c.want, true)
	}
}

func TestKnownShapesReached(t *testing.T) {
	for _, c := range []struct {
		s, shape, word string
		want           bool
	}{
		{"oo./..a", "o/o", "", true}, {"oo./..a", "o", "", true}, {"oo./..a", ".o/oo", "", false}, {"oo./..a", "o/o/o", "", false},
		{"oo./..a", ".o/oo", "r", true}, {"oo./..a", "o/o", "r", false}, {"oo./..a", "o", "r", false},
		{"oo./..a", "o/o/o", "u", true}, {"oo./..a", "o/o/o", "d", true}, {"oo./..a", ".o/oo", "l", true},
		// The shape is one of a turned or mirrored piece, of named balls, of the second piece.
		{".oo/oo.", ".o/oo/o.", "", true}, {"o./oo/.o", ".o/oo/o.", "", true}, {"oo./.oo", ".o/oo/o.", "", true},
		{"ab", "o/o", "", true}, {"a", "o", "rd", true}, {"o.oo", "o/o", "", true}, {"o.oo", "o/o/o", "r", true},
		// A shape may be greater than the tray.
		{"o", "o/o", "", false}, {".", "o", "", false}, {"oo", "ooooo/ooooo/ooooo/ooooo/ooooo/ooooo/ooooo", "", false},
		// Pieces that the shape is a part of, or that are a part of it.
		{"ooo", "o/o", "", false}, {"oo/oo", ".o/oo", "", false}, {"oo/o.", "oo/oo", "", false}, {"o./.o", "o", "", true},
	} {
		is, ok := impl.IsShapeReached(c.s, c.shape, c.word)
		expect(t, "IsShapeReached "+c.s+" "+c.shape+" "+c.word, []any{is, ok}, c.want, true)
	}
}

func TestWordsToOnePiece(t *testing.T) {
	for _, s := range sampleSticks() {
		want, found := oneModel(s)
		word, ok := impl.WordToOne(s)
		expect(t, "WordToOne "+s, []any{word, ok}, want, found)
		if ok {
			behind, _ := impl.StickWord(s, word)
			if n, ok := impl.CountPieces(behind); n > 1 || !ok {
				t.Errorf("WordToOne(%q) is %q, which makes %q", s, word, behind)
			}
		}
	}
}

func TestKnownWordsToOnePiece(t *testing.T) {
	for _, c := range []struct {
		s, word string
		ok      bool
	}{
		{".", "", true}, {"#", "", true}, {"a", "", true}, {".o", "", true}, {"oa", "", true}, {"o#/oo", "", true},
		{"o.o", "r", true}, {"o/./o", "u", true}, {"oo./..a", "u", true}, {"a#b/...", "dr", true}, {"#..o/o.#o", "rur", true},
		{"o#.../.o.#o", "uldl", true},
		{oneOfFive, "uluru", true}, {oneOfSix, "", false}, {"..o##/o.#oo/#...o", "", false}, {neverOne, "", false}, {"o#o", "", false},
	} {
		word, ok := impl.WordToOne(c.s)
		expect(t, "WordToOne "+c.s, []any{word, ok}, c.word, c.ok)
	}
	// Longer words do make one piece of two of those that fail.
	for s, word := range map[string]string{oneOfSix: "luldlu", "..o##/o.#oo/#...o": "rdldrdr"} {
		behind, _ := impl.StickWord(s, word)
		n, ok := impl.CountPieces(behind)
		expect(t, "CountPieces "+s+" "+word, []any{n, ok}, 1, true)
	}
}

func TestSeveralShortestWordsToOnePiece(t *testing.T) {
	for s, words := range map[string][]string{
		"o./.o": {"u", "r", "d", "l"}, "o.o": {"r", "l"}, "o/./o": {"u", "d"}, "o#o/...": {"dr", "dl"}, "...o/..../o...": {"ur", "ul", "ru", "rd", "dr", "dl", "lu", "ld"},
	} {
		for _, word := range words {
			n, ok := impl.GreatestPiece(s, word)
			expect(t, "GreatestPiece "+s+" "+word, []any{n, ok}, 2, true)
		}
		word, ok := impl.WordToOne(s)
		expect(t, "WordToOne "+s, []any{word, ok}, words[0], true)
	}
}
