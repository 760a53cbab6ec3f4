package tests

import (
	"fmt"
	"math"
	"slices"
	"strings"
	"testing"

	"loop.example/g01199/impl"
)

// The tests of promise 11 for chapter 7.

func chapterSeven() map[string]any {
	return map[string]any{
		"ComesBack": impl.ComesBack, "PermutationOf": impl.PermutationOf, "OrderOfWord": impl.OrderOfWord,
		"CyclesOfWord": impl.CyclesOfWord, "SignOfWord": impl.SignOfWord, "PowerWord": impl.PowerWord, "WordsBack": impl.WordsBack,
		"GateTable": impl.GateTable, "GateNumber": impl.GateNumber, "GateName": impl.GateName,
		"WordForGate": impl.WordForGate, "CountGates": impl.CountGates, "IsReversible": impl.IsReversible,
	}
}

// functionsOfPermutations take a tray and a word that comes back.
func functionsOfPermutations() []string {
	return []string{"PermutationOf", "OrderOfWord", "CyclesOfWord", "SignOfWord"}
}

// functionsOfTables take a tray, inputs, outputs and a word.
func functionsOfTables() []string {
	return []string{"GateTable", "IsReversible"}
}

// argumentsOfMachines gives arguments with which the function succeeds.
func argumentsOfMachines(name string) []any {
	const s = ".../.#o"
	switch name {
	case "PowerWord":
		return []any{"rdlu", 3}
	case "WordsBack":
		return []any{s, 4}
	case "GateTable", "IsReversible":
		return []any{s, []int{3, 0, 2}, []int{5, 0}, "ldr"}
	case "GateNumber":
		return []any{s, []int{0, 2}, 1, "rd"}
	case "GateName":
		return []any{14}
	case "WordForGate":
		return []any{s, []int{2, 1}, 3, 5}
	case "CountGates":
		return []any{s, []int{2, 1}, 3}
	}
	return []any{"ooo.../ooooo.", "ruld"}
}

// notOrdinary are lists that are neither inputs nor outputs of a tray with so many cells, though all of its cells are free.
func notOrdinary(cells int) [][]int {
	lists := [][]int{
		nil, {}, {0, 1, 2, 3}, {3, 2, 1, 0}, make([]int, 4), make([]int, 1000000), {0, 0}, {0, 0, 1}, {0, 1, 0}, {1, 0, 0}, {2, 2, 2}, {0, 1, 2, 0},
	}
	for _, n := range notCells(cells) {
		lists = append(lists, []int{n}, []int{n, 0}, []int{0, n}, []int{0, 1, n}, []int{n, n}, []int{0, 1, 2, n})
	}
	return lists
}

// failsAsMachine calls all functions that take inputs and outputs, those for two inputs and one output only with so many.
func failsAsMachine(t *testing.T, s string, inputs, outputs []int, word string) {
	t.Helper()
	for _, name := range functionsOfTables() {
		failsWithZeros(t, name, s, inputs, outputs, word)
	}
	if len(inputs) == 2 && len(outputs) == 1 {
		failsAsGate(t, s, inputs, outputs[0], word)
	}
}

func failsAsGate(t *testing.T, s string, inputs []int, output int, word string) {
	t.Helper()
	failsWithZeros(t, "GateNumber", s, inputs, output, word)
	for _, number := range []int{0, 1, 3, 5, 7, 15} {
		failsWithZeros(t, "WordForGate", s, inputs, output, number)
	}
	failsWithZeros(t, "CountGates", s, inputs, output)
}

func TestTextsThatAreNoTraysHaveNoMachines(t *testing.T) {
	for _, s := range notTrays() {
		for _, word := range []string{"", "u", "rdlu", "x", strings.Repeat("u", 41)} {
			failsWithZeros(t, "ComesBack", s, word)
			for _, name := range functionsOfPermutations() {
				failsWithZeros(t, name, s, word)
			}
			failsAsMachine(t, s, []int{0}, []int{0}, word)
			failsAsMachine(t, s, []int{0, 1}, []int{0}, word)
			failsAsMachine(t, s, []int{0, 1, 2}, []int{0, 1}, word)
		}
		for n := range 5 {
			failsWithZeros(t, "WordsBack", s, n)
		}
	}
}

func TestTextsThatAreNoWordsMoveNoMachines(t *testing.T) {
	for _, word := range notWords() {
		for _, s := range []string{".", "#", "a", "...", "oo/o.", freeText(6, 6)} {
			failsWithZeros(t, "ComesBack", s, word)
			for _, name := range functionsOfPermutations() {
				failsWithZeros(t, name, s, word)
			}
		}
		for _, s := range []string{"...", ".../...", freeText(6, 6)} {
			for _, name := range functionsOfTables() {
				failsWithZeros(t, name, s, []int{0, 1}, []int{0}, word)
				failsWithZeros(t, name, s, []int{0, 1, 2}, []int{2, 1}, word)
			}
			failsWithZeros(t, "GateNumber", s, []int{0, 1}, 0, word)
		}
		for _, k := range []int{0, 1, 2, 40} {
			failsWithZeros(t, "PowerWord", word, k)
		}
	}
}

func TestWordsThatDoNotComeBackHaveNoPermutations(t *testing.T) {
	for _, c := range [][2]string{{"a.", "r"}, {"..o", "l"}, {"oo/o.", "r"}, {"oo/o.", "rdl"}, {"ab./...", "rd"}, {".o.", "lr"}, {".../.o./...", "urdl"}, {"o./..", strings.Repeat("rdlu", 9) + "rdl"}} {
		back, ok := impl.ComesBack(c[0], c[1])
		expect(t, "ComesBack "+c[0]+" "+c[1], []any{back, ok}, false, true)
		for _, name := range functionsOfPermutations() {
			failsWithZeros(t, name, c[0], c[1])
		}
	}
}

func TestPowersOutsideFail(t *testing.T) {
	for _, k := range []int{-1, -2, -40, 41, 42, 64, 1 << 32, 1<<32 + 1, 1 << 62, math.MaxInt, math.MinInt, math.MinInt + 1} {
		for _, word := range []string{"", "u", "rdlu", strings.Repeat("u", 40), "x"} {
			failsWithZeros(t, "PowerWord", word, k)
		}
	}
}

func TestNumbersOfDirectionsOutsideFail(t *testing.T) {
	for _, n := range []int{-1, -2, -4, 5, 6, 40, 1 << 32, 1<<32 + 1, math.MaxInt, math.MinInt, math.MinInt + 1} {
		for _, s := range []string{".", "#", "a", "oo/o.", freeText(6, 6), ""} {
			failsWithZeros(t, "WordsBack", s, n)
		}
	}
}

func TestListsThatAreNoInputsOrOutputsFail(t *testing.T) {
	for _, s := range []string{".../...", "../..", "....", freeText(6, 6)} {
		cells := len(strings.ReplaceAll(s, "/", ""))
		for _, list := range notOrdinary(cells) {
			for _, word := range []string{"", "rd", "x"} {
				failsAsMachine(t, s, list, []int{0}, word)
				failsAsMachine(t, s, list, []int{0, 1, 2}, word)
				failsAsMachine(t, s, []int{0}, list, word)
				failsAsMachine(t, s, []int{0, 1}, list, word)
				failsAsMachine(t, s, []int{0, 1, 2}, list, word)
				failsAsMachine(t, s, list, list, word)
				failsAsGate(t, s, list, 0, word)
			}
		}
	}
}

// TestWallsAndBallsAreNoInputs has outputs that may be balls, and may not be walls.
func TestWallsAndBallsAreNoInputs(t *testing.T) {
	const s = "..#/oa."
	for _, inputs := range [][]int{{2}, {3}, {4}, {0, 2}, {2, 0}, {0, 3}, {3, 5}, {1, 4}, {4, 1}, {0, 1, 2}, {0, 3, 1}, {4, 0, 1}, {2, 3, 4}} {
		for _, outputs := range [][]int{{0}, {3}, {5, 4}, {0, 1, 5}, {2}} {
			failsAsMachine(t, s, inputs, outputs, "r")
			failsAsMachine(t, s, inputs, outputs, "")
		}
	}
	for _, outputs := range [][]int{{2}, {0, 2}, {2, 0}, {0, 1, 2}, {3, 2, 4}, {2, 5}} {
		for _, inputs := range [][]int{{0}, {0, 1}, {5, 1, 0}} {
			failsAsMachine(t, s, inputs, outputs, "r")
			failsAsMachine(t, s, inputs, outputs, "")
		}
	}
	table, ok := impl.GateTable(s, []int{0, 1, 5}, []int{3, 4, 5}, "")
	expect(t, "GateTable", []any{table, ok}, []int{6, 7, 6, 7, 6, 7, 6, 7}, true)
}

func TestGatesOfOtherThanTwoInputsFail(t *testing.T) {
	for _, s := range []string{".../...", ".#./o.a", freeText(6, 6)} {
		for _, inputs := range [][]int{nil, {}, {0}, {2}, {0, 2, 4}, {4, 2, 0}} {
			for _, output := range []int{0, 2, 5} {
				failsAsGate(t, s, inputs, output, "")
				failsAsGate(t, s, inputs, output, "r")
			}
			if table, ok := impl.GateTable(s, inputs, []int{0}, "r"); ok != (len(inputs) > 0) {
				t.Errorf("GateTable of %v is %v, %v", inputs, table, ok)
			}
		}
		for _, output := range notCells(len(strings.ReplaceAll(s, "/", ""))) {
			failsAsGate(t, s, []int{0, 2}, output, "")
			failsAsGate(t, s, []int{0, 2}, output, "r")
		}
	}
}

func TestNumbersOfNoGatesFail(t *testing.T) {
	for _, number := range []int{-1, -2, -16, 16, 17, 31, 256, 1 << 32, 1<<32 + 7, math.MaxInt, math.MinInt, math.MinInt + 1, math.MinInt + 15} {
		failsWithZeros(t, "GateName", number)
		for _, s := range []string{"...", ".../...", freeText(6, 6), "#"} {
			failsWithZeros(t, "WordForGate", s, []int{0, 1}, 0, number)
			failsWithZeros(t, "WordForGate", s, []int{0, 2}, 1, number)
		}
	}
}

func TestArgumentsOfMachinesSucceed(t *testing.T) {
	for name, function := range chapterSeven() {
		list := argumentsOfMachines(name)
		if results, ok := call(function, list...); !ok {
			t.Errorf("%s%q fails with %v", name, list, results)
		}
	}
}

// TestInputsAndOutputsStayAsTheyAre has lists with spare room behind their numbers.
func TestInputsAndOutputsStayAsTheyAre(t *testing.T) {
	const s = "..o/.#."
	for _, inputs := range [][]int{{}, {0}, {5, 1}, {1, 0}, {3, 0, 5}, {5, 5}, {0, 1, 3, 5}, {2, 0}} {
		for _, outputs := range [][]int{{}, {2}, {5, 0}, {2, 1, 0}, {4}, {3, 3}} {
			inRoom := append(slices.Clone(inputs), 3, -1, 77)
			outRoom := append(slices.Clone(outputs), 5, -1, 77)
			inBefore, outBefore := slices.Clone(inRoom), slices.Clone(outRoom)
			for _, name := range functionsOfTables() {
				want, wantOk := call(chapterSeven()[name], s, slices.Clip(slices.Clone(inputs)), slices.Clip(slices.Clone(outputs)), "ldr")
				got, ok := call(chapterSeven()[name], s, inRoom[:len(inputs)], outRoom[:len(outputs)], "ldr")
				expect(t, fmt.Sprint(name, inputs, outputs), []any{got, ok}, want, wantOk)
			}
			for name, rest := range map[string][]any{"GateNumber": {5, "rd"}, "WordForGate": {5, 7}, "CountGates": {5}} {
				want, wantOk := call(chapterSeven()[name], append([]any{s, slices.Clip(slices.Clone(inputs))}, rest...)...)
				got, ok := call(chapterSeven()[name], append([]any{s, inRoom[:len(inputs)]}, rest...)...)
				expect(t, fmt.Sprint(name, inputs), []any{got, ok}, want, wantOk)
			}
			if !slices.Equal(inRoom, inBefore) || !slices.Equal(outRoom, outBefore) {
				t.Fatalf("%v and %v, with what is behind them, become %v and %v", inBefore, outBefore, inRoom, outRoom)
			}
		}
	}
}

// TestListsOfMachinesAreTheirOwn spoils what one call hands out, and asks the next one.
func TestListsOfMachinesAreTheirOwn(t *testing.T) {
	for _, name := range []string{"PermutationOf", "CyclesOfWord", "WordsBack", "GateTable"} {
		list := argumentsOfMachines(name)
		first, _ := call(chapterSeven()[name], list...)
		want := fmt.Sprint(first)
		second, ok := call(chapterSeven()[name], list...)
		spoil(first)
		expect(t, name+" told before", []any{fmt.Sprint(second), ok}, want, true)
		third, ok := call(chapterSeven()[name], list...)
		expect(t, name+" told again", []any{fmt.Sprint(third), ok}, want, true)
	}
}

func TestCyclesShareNoMemory(t *testing.T) {
	const s, word = "ooo.../ooooo.", "ruldruld"
	want, _ := impl.CyclesOfWord(s, word)
	for i := range want {
		cycles, ok := impl.CyclesOfWord(s, word)
		if !ok || len(cycles) < 2 {
			t.Fatalf("CyclesOfWord is %v, %v", cycles, ok)
		}
		spoil([]any{cycles[i]})
		for j := range cycles {
			if j != i && !slices.Equal(cycles[j], want[j]) {
				t.Errorf("cycle %d changes with cycle %d: %v", j, i, cycles[j])
			}
		}
	}
}
