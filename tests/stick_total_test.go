package tests

import (
	"fmt"
	"maps"
	"math"
	"runtime"
	"slices"
	"strings"
	"sync"
	"testing"

	"loop.example/g01199/impl"
)

// The tests of promise 11 for chapter 5.

func chapterFive() map[string]any {
	return map[string]any{
		"PiecesOf": impl.PiecesOf, "CountPieces": impl.CountPieces, "PieceAt": impl.PieceAt, "ShapeOf": impl.ShapeOf,
		"StickTilt": impl.StickTilt, "StickStep": impl.StickStep, "StickWord": impl.StickWord,
		"BlockedPieces": impl.BlockedPieces, "StickMoves": impl.StickMoves, "StickStill": impl.StickStill,
		"WordToOne": impl.WordToOne, "GreatestPiece": impl.GreatestPiece, "IsShapeReached": impl.IsShapeReached,
	}
}

// functionsThatStick take a tray and a direction.
func functionsThatStick() []string {
	return []string{"StickTilt", "StickStep", "BlockedPieces", "StickMoves"}
}

// notShapes are trays that are the shapes of no pieces.
func notShapes() []string {
	return []string{
		// Without balls.
		".", "#", "..", "./.", "../..", "##/##",
		// With walls or names.
		"#o/oo", "o#", "#/o", "ooo/o#o", "a", "a/o", "o/a", ".a/oo", ".o/ab", "o/b/o",
		// Balls that do not hang together.
		"o/./o", "o.o", ".o/o.", "o./.o", "..o/o..", "o.o/o.o", "o.o/.../ooo", "..o/.../ooo",
		// An empty row or column at a side.
		".o", "o.", "./o", "o/.", "../oo", "oo/..", ".o/.o", "o./o.", "./o/o", "o/o/.", "..o/.oo", ".../.o./...", "../.o", ".o./.o.",
		// Not the first of the eight.
		"oo", "ooo", "oo/o.", "oo/.o", "o./oo", "ooo/ooo", "ooo/o.o", "oo/.o/oo", "oo/o./oo", ".oo/oo.", "oo./.oo", "o./oo/.o", "ooo/.o.",
		"o../ooo", "ooo/o..", "oo/o./o.", ".o/.o/oo", "o.../oooo",
	}
}

func TestTextsThatAreNoTraysDoNotStick(t *testing.T) {
	for _, s := range notTrays() {
		for _, name := range []string{"PiecesOf", "CountPieces", "StickStill", "WordToOne"} {
			failsWithZeros(t, name, s)
		}
		for _, name := range functionsThatStick() {
			for _, dir := range []string{"u", "r", "d", "l", "", "x"} {
				failsWithZeros(t, name, s, dir)
			}
		}
		for _, word := range []string{"", "u", "rdlu", "x", strings.Repeat("u", 41)} {
			failsWithZeros(t, "StickWord", s, word)
			failsWithZeros(t, "GreatestPiece", s, word)
			failsWithZeros(t, "IsShapeReached", s, "o", word)
			failsWithZeros(t, "IsShapeReached", "o", s, word)
			failsWithZeros(t, "IsShapeReached", s, s, word)
		}
		failsWithZeros(t, "PieceAt", s, 0)
		failsWithZeros(t, "ShapeOf", s, 0)
	}
}

func TestBallsDoNotStickInNoDirections(t *testing.T) {
	for _, s := range []string{".", "#", "o", "oo./..a"} {
		for _, dir := range notDirections() {
			for _, name := range functionsThatStick() {
				failsWithZeros(t, name, s, dir)
			}
		}
		for _, word := range notWords() {
			failsWithZeros(t, "StickWord", s, word)
			failsWithZeros(t, "GreatestPiece", s, word)
			failsWithZeros(t, "IsShapeReached", s, "o", word)
		}
	}
}

func TestCellsWithoutBallsHaveNoPieces(t *testing.T) {
	const s = "oo./#.a"
	for _, cell := range []int{2, 3, 4, -1, -2, -6, 6, 7, 8, 35, 36, 37, 1 << 32, 1<<32 + 1, math.MaxInt, math.MinInt, math.MinInt + 1} {
		failsWithZeros(t, "PieceAt", s, cell)
		failsWithZeros(t, "ShapeOf", s, cell)
	}
	for _, cell := range []int{-1, 1, 2, 36} {
		failsWithZeros(t, "PieceAt", "o", cell)
		failsWithZeros(t, "ShapeOf", "o", cell)
	}
}

func TestTextsThatAreNoShapesAreNotReached(t *testing.T) {
	for _, shape := range notShapes() {
		if !impl.IsTray(shape) {
			t.Fatalf("%q is no tray, either", shape)
		}
		for _, s := range []string{".", "o", "oo./..a", shape} {
			for _, word := range []string{"", "r", "ul", "x"} {
				failsWithZeros(t, "IsShapeReached", s, shape, word)
			}
		}
	}
}

// TestOnlyShapesOfPiecesAreShapes takes all small trays: a shape is one that is the shape of its own piece.
func TestOnlyShapesOfPiecesAreShapes(t *testing.T) {
	for _, shape := range slices.Concat(allTrays(3, 2, "#.oa"), allTrays(2, 3, "#.oa"), allTrays(3, 3, ".o")) {
		pieces := piecesModel(shape)
		if len(pieces) == 1 && shapeModel(shape, pieces[0]) == shape {
			is, ok := impl.IsShapeReached(".../.../.ab", shape, "")
			expect(t, "IsShapeReached "+shape, []any{is, ok}, shape == "o/o", true)
		} else {
			failsWithZeros(t, "IsShapeReached", ".../.../.ab", shape, "")
		}
	}
}

func TestPiecesShareNoMemory(t *testing.T) {
	const s = "oo.o#a/...o#o/oo.#.."
	want, _ := impl.PiecesOf(s)
	for i := range want {
		pieces, ok := impl.PiecesOf(s)
		if !ok || len(pieces) != 4 {
			t.Fatalf("PiecesOf is %v, %v", pieces, ok)
		}
		spoil([]any{pieces[i]})
		for j := range pieces {
			if j != i && !slices.Equal(pieces[j], want[j]) {
				t.Errorf("piece %d changes with piece %d: %v", j, i, pieces[j])
			}
		}
	}
}

// functionsWithGoroutines are those of the chapters in which something comes over channels.
func functionsWithGoroutines() map[string]any {
	functions := chapterFive()
	maps.Copy(functions, chapterSix())
	maps.Copy(functions, chapterEight())
	maps.Copy(functions, chapterNine())
	maps.Copy(functions, chapterTen())
	return functions
}

// TestCallsAtOnceAreToldAlike calls all functions from several goroutines, and compares what they tell with a call alone.
func TestCallsAtOnceAreToldAlike(t *testing.T) {
	for _, s := range knownSticks() {
		for name, function := range functionsWithGoroutines() {
			list := argumentsFor(name, function, s)
			first, firstOk := call(function, list...)
			want := fmt.Sprint(first, firstOk)
			var told [8]string
			var calls sync.WaitGroup
			for n := range told {
				calls.Go(func() {
					results, ok := call(function, list...)
					told[n] = fmt.Sprint(results, ok)
				})
			}
			calls.Wait()
			for _, got := range told {
				if got != want {
					t.Errorf("%s%q: %s, then %s", name, list, want, got)
				}
			}
		}
	}
}

// TestNoGoroutinesAreLeft gives goroutines that have done their work time to end.
func TestNoGoroutinesAreLeft(t *testing.T) {
	before := runtime.NumGoroutine()
	for _, s := range append(knownSticks(), notShapes()...) {
		for name, function := range functionsWithGoroutines() {
			call(function, argumentsFor(name, function, s)...)
		}
	}
	for range 1000000 {
		if runtime.NumGoroutine() <= before {
			return
		}
		runtime.Gosched()
	}
	t.Errorf("%d goroutines are left", runtime.NumGoroutine()-before)
}
