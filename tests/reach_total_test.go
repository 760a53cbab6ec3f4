package tests

import (
	"math"
	"slices"
	"strings"
	"testing"

	"loop.example/g01199/impl"
)

// The tests of promise 11 for chapter 3.

func chapterThree() map[string]any {
	return map[string]any{
		"CountReached": impl.CountReached, "ReachedTrays": impl.ReachedTrays, "IsReached": impl.IsReached,
		"DistanceTo": impl.DistanceTo, "ShortestWord": impl.ShortestWord, "CountShortest": impl.CountShortest,
		"FarthestOf": impl.FarthestOf, "LayersOf": impl.LayersOf, "AreMutual": impl.AreMutual,
		"ClassesReached": impl.ClassesReached, "LastingTrays": impl.LastingTrays,
		"WordToCell": impl.WordToCell, "CellsOfBall": impl.CellsOfBall,
	}
}

func functionsOfTwoTrays() []string {
	return []string{"IsReached", "DistanceTo", "ShortestWord", "CountShortest", "AreMutual"}
}

func TestReachedTraysOfTextsThatAreNoTraysFail(t *testing.T) {
	for _, s := range notTrays() {
		for _, name := range []string{"CountReached", "ReachedTrays", "FarthestOf", "LayersOf", "ClassesReached", "LastingTrays"} {
			failsWithZeros(t, name, s)
		}
		for _, name := range functionsOfTwoTrays() {
			for _, other := range []string{".", "a./..", "", s} {
				failsWithZeros(t, name, s, other)
				failsWithZeros(t, name, other, s)
			}
		}
		failsWithZeros(t, "WordToCell", s, "a", 0)
		failsWithZeros(t, "CellsOfBall", s, "a")
	}
}

func TestReachedCellsOfTextsThatAreNoNamesFail(t *testing.T) {
	for _, name := range []string{
		"", "o", ".", "#", "/", "g", "A", "ab", "aa", "a ", "abcdef", "a.", "\x00", "é", "`", strings.Repeat("a", 1000),
	} {
		for _, s := range []string{"ab.o#", ".", "ab/.."} {
			failsWithZeros(t, "WordToCell", s, name, 0)
			failsWithZeros(t, "CellsOfBall", s, name)
		}
	}
	for _, name := range []string{"b", "c", "d", "e", "f"} {
		failsWithZeros(t, "WordToCell", "a.o#", name, 0)
		failsWithZeros(t, "CellsOfBall", "a.o#", name)
	}
}

func TestWordsToCellsThatThereAreNotFail(t *testing.T) {
	for _, cell := range []int{-1, -2, 4, 5, 6, 35, 36, 37, 1 << 32, math.MaxInt, math.MinInt} {
		failsWithZeros(t, "WordToCell", "a./..", "a", cell)
		failsWithZeros(t, "WordToCell", "../.a", "a", cell)
	}
	failsWithZeros(t, "WordToCell", "a", "a", 1)
	failsWithZeros(t, "WordToCell", "a", "a", -1)
}

func TestClassesShareNoMemory(t *testing.T) {
	const s = ".../.a./..."
	want, _ := impl.ClassesReached(s)
	for i := range want {
		classes, ok := impl.ClassesReached(s)
		if !ok || len(classes) != 4 {
			t.Fatalf("ClassesReached is %q, %v", classes, ok)
		}
		spoil([]any{classes[i]})
		for j := range classes {
			if j != i && !slices.Equal(classes[j], want[j]) {
				t.Errorf("class %d changes with class %d: %q", j, i, classes[j])
			}
		}
	}
}

// TestClassesAreAlwaysToldAlike calls often: a map is ranged over in another order each time.
func TestClassesAreAlwaysToldAlike(t *testing.T) {
	for _, s := range []string{".../.a./...", "a.o/.#.", farTray} {
		want, _ := impl.ClassesReached(s)
		for range 50 {
			got, ok := impl.ClassesReached(s)
			expect(t, "ClassesReached "+s, []any{got, ok}, want, true)
		}
	}
}
