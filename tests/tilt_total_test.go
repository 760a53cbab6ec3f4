package tests

import (
	"math"
	"slices"
	"strings"
	"testing"

	"loop.example/g01199/impl"
)

// The tests of promise 11 for chapter 2.

func chapterTwo() map[string]any {
	return map[string]any{
		"IsWord": impl.IsWord, "TiltTray": impl.TiltTray, "TiltWord": impl.TiltWord, "StepTray": impl.StepTray,
		"StepsOfTilt": impl.StepsOfTilt, "StillWays": impl.StillWays, "StretchesOf": impl.StretchesOf,
		"MovedBalls": impl.MovedBalls, "MovedCells": impl.MovedCells, "CountBefore": impl.CountBefore,
		"PathOfBall": impl.PathOfBall, "PeriodOfWord": impl.PeriodOfWord, "ShortWord": impl.ShortWord,
		"OppositeWord": impl.OppositeWord, "TurnWord": impl.TurnWord, "AreSameWords": impl.AreSameWords,
	}
}

// functionsOfDirections take a tray and a direction.
func functionsOfDirections() []string {
	return []string{"TiltTray", "StepTray", "StepsOfTilt", "StretchesOf", "MovedBalls", "MovedCells", "CountBefore"}
}

func TestTiltsOfTextsThatAreNoTraysFail(t *testing.T) {
	for _, s := range notTrays() {
		for _, name := range functionsOfDirections() {
			for _, dir := range []string{"u", "r", "d", "l", "", "x"} {
				failsWithZeros(t, name, s, dir)
			}
		}
		failsWithZeros(t, "StillWays", s)
		for _, word := range []string{"", "u", "rdlu", "x", strings.Repeat("u", 41)} {
			failsWithZeros(t, "TiltWord", s, word)
			failsWithZeros(t, "PeriodOfWord", s, word)
			failsWithZeros(t, "PathOfBall", s, "a", word)
			failsWithZeros(t, "AreSameWords", s, word, word)
		}
	}
}

func TestTextsThatAreNoDirectionsFail(t *testing.T) {
	for _, dir := range notDirections() {
		for _, name := range functionsOfDirections() {
			for _, s := range []string{".", "#", "a.o/.#."} {
				failsWithZeros(t, name, s, dir)
			}
		}
	}
}

func TestTextsThatAreNoWordsFail(t *testing.T) {
	for _, word := range notWords() {
		failsWithZeros(t, "IsWord", word)
		failsWithZeros(t, "ShortWord", word)
		failsWithZeros(t, "OppositeWord", word)
		for k := -1; k <= 4; k++ {
			failsWithZeros(t, "TurnWord", word, k)
		}
		for _, s := range []string{".", "#", "a.o/.#."} {
			failsWithZeros(t, "TiltWord", s, word)
			failsWithZeros(t, "PeriodOfWord", s, word)
			failsWithZeros(t, "PathOfBall", s, "a", word)
			failsWithZeros(t, "AreSameWords", s, word, "u")
			failsWithZeros(t, "AreSameWords", s, "u", word)
			failsWithZeros(t, "AreSameWords", s, word, word)
		}
	}
}

func TestTextsThatAreNoNamesFail(t *testing.T) {
	for _, name := range []string{
		"", "o", ".", "#", "/", "g", "A", "ab", "aa", "a ", "abcdef", "a.", "\x00", "é", "`", strings.Repeat("a", 1000),
	} {
		for _, word := range []string{"", "r"} {
			failsWithZeros(t, "PathOfBall", "ab.o#", name, word)
			failsWithZeros(t, "PathOfBall", ".", name, word)
		}
	}
	for _, name := range []string{"b", "c", "d", "e", "f"} {
		failsWithZeros(t, "PathOfBall", "a.o#", name, "")
		failsWithZeros(t, "PathOfBall", "a.o#", name, "rl")
	}
}

func TestQuartersOutsideFail(t *testing.T) {
	for _, k := range []int{-1, -2, -4, 4, 5, 8, 1 << 32, 1<<32 + 1, math.MaxInt, math.MinInt, math.MinInt + 1} {
		for _, word := range []string{"", "u", "urdl"} {
			failsWithZeros(t, "TurnWord", word, k)
		}
	}
}

func TestPeriodsWithoutDirectionsFail(t *testing.T) {
	for _, s := range []string{".", "#", "a", "a.o/.#.", freeText(6, 6)} {
		failsWithZeros(t, "PeriodOfWord", s, "")
	}
}

func TestStretchesShareNoMemory(t *testing.T) {
	const s = "..#.#a/##.#o#/..#.#."
	for _, dir := range []string{"u", "r", "d", "l"} {
		want, _ := impl.StretchesOf(s, dir)
		for i := range want {
			stretches, ok := impl.StretchesOf(s, dir)
			if !ok || len(stretches) < 5 {
				t.Fatalf("StretchesOf is %v, %v", stretches, ok)
			}
			spoil([]any{stretches[i]})
			for j := range stretches {
				if j != i && !slices.Equal(stretches[j], want[j]) {
					t.Errorf("stretch %d changes with stretch %d: %v", j, i, stretches[j])
				}
			}
		}
	}
}
