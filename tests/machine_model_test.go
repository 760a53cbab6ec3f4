package tests

import (
	"fmt"
	"math/rand"
	"slices"
	"strconv"
	"strings"
)

// The models of chapter 7 give each ball a letter and repeat words; the program follows permutations. They try all words; the program leaves out those that do the same as others.

// A machineTold is what a word does to the balls of a tray; for words that do not come back only that they do not.
type machineTold struct {
	comesBack   bool
	permutation []int
	order       int
	cycles      [][]int
	sign        int
}

// letteredModel gives the balls the letters A, B, .. and what follows them, in the order of their cells.
func letteredModel(s string) string {
	letter := byte('A')
	cells := []byte(s)
	for i, c := range cells {
		if c != '/' && isBallText(c) {
			cells[i] = letter
			letter++
		}
	}
	return string(cells)
}

// plainModel tells where balls stand, whatever their names.
func plainModel(s string) string {
	cells := []byte(s)
	for i, c := range cells {
		if c != '/' && isBallText(c) {
			cells[i] = 'o'
		}
	}
	return string(cells)
}

func machineModel(s, word string) machineTold {
	before := letteredModel(s)
	behind := wordModel(before, word)
	if plainModel(before) != plainModel(behind) {
		return machineTold{}
	}
	told := machineTold{comesBack: true, permutation: []int{}, sign: 1}
	cells := numbersOf(plainModel(s), 'o')
	for _, n := range cells {
		at := numbersOf(behind, cellOf(before, n))[0]
		told.permutation = append(told.permutation, slices.Index(cells, at))
	}
	_, told.order = periodModel(before, word)
	for i, at := range told.permutation {
		cycle := []int{i}
		for next := at; next != i; next = told.permutation[next] {
			cycle = append(cycle, next)
		}
		if slices.Min(cycle) == i {
			told.cycles = append(told.cycles, cycle)
		}
		for _, other := range told.permutation[:i] {
			if other > at {
				told.sign = -told.sign
			}
		}
	}
	return told
}

// A tilter keeps the trays behind tilts that it has been asked for.
type tilter map[string]string

func (known tilter) behind(s, word string) string {
	for _, dir := range strings.Split(word, "") {
		next, isKnown := known[s+dir]
		if !isKnown {
			next = tiltModel(s, dir).tray
			known[s+dir] = next
		}
		s = next
	}
	return s
}

// allWords are the words of at most so many directions, with equal ones next to each other, too, in the order of their lengths, then of u, r, d, l.
func allWords(most int) []string {
	words := []string{""}
	for from := 0; len(words[from]) < most; from++ {
		for _, dir := range "urdl" {
			words = append(words, words[from]+string(dir))
		}
	}
	return words
}

func wordsBackModel(s string, n int, known tilter) []string {
	words := []string{}
	for _, word := range allWords(n) {
		hasEqual := strings.Contains(word, "uu") || strings.Contains(word, "rr") || strings.Contains(word, "dd") || strings.Contains(word, "ll")
		if !hasEqual && plainModel(known.behind(s, word)) == plainModel(s) {
			words = append(words, word)
		}
	}
	return words
}

// tableModel writes numbers with as many digits as there are inputs, or outputs.
func tableModel(s string, inputs, outputs []int, word string, known tilter) []int {
	var told []int
	for number := range 1 << len(inputs) {
		tray := s
		for i, digit := range fmt.Sprintf("%0*b", len(inputs), number) {
			if digit == '1' {
				tray = withText(tray, inputs[i], "o")
			}
		}
		behind := known.behind(tray, word)
		digits := ""
		for _, n := range outputs {
			if isBallText(cellOf(behind, n)) {
				digits += "1"
			} else {
				digits += "0"
			}
		}
		told = append(told, binaryModel(digits))
	}
	return told
}

func binaryModel(digits string) int {
	number, err := strconv.ParseInt(digits, 2, 0)
	if err != nil {
		panic(err)
	}
	return int(number)
}

func gateModel(s string, inputs []int, output int, word string, known tilter) int {
	digits := ""
	for _, told := range tableModel(s, inputs, []int{output}, word, known) {
		digits += strconv.Itoa(told)
	}
	return binaryModel(digits)
}

// gatesModel returns the first word for each gate number that some word of at most so many directions has.
func gatesModel(s string, inputs []int, output int, most int, known tilter) map[int]string {
	words := map[int]string{}
	for _, word := range allWords(most) {
		number := gateModel(s, inputs, output, word, known)
		if _, isFound := words[number]; !isFound {
			words[number] = word
		}
	}
	return words
}

// isReversibleModel takes the numbers one by one for each other.
func isReversibleModel(table []int) bool {
	for i, number := range table {
		if slices.Contains(table[:i], number) {
			return false
		}
	}
	return true
}

// settledTrays are trays behind some times a word, which then often comes back, with this word. Most words go round.
func settledTrays() [][2]string {
	numbers := rand.New(rand.NewSource(7))
	var settled [][2]string
	for range 3000 {
		kinds := []string{"#....oo.o", "#.oo", ".oooab", "..ocdef", "oo.o.", "##.o"}[numbers.Intn(6)]
		s := textFrom(1+numbers.Intn(6), 1+numbers.Intn(6), func(x, y int) byte { return kinds[numbers.Intn(len(kinds))] })
		if !isTrayModel(s) {
			s = plainModel(s)
		}
		word := []string{"", turnedModel("rdlu", numbers.Intn(4)), turnedModel("drul", numbers.Intn(4))}[numbers.Intn(3)]
		for range numbers.Intn(5) {
			word += string("urdl"[numbers.Intn(4)])
		}
		settled = append(settled, [2]string{wordModel(s, strings.Repeat(word, numbers.Intn(4))), word})
	}
	return settled
}

// A gateAsked is a tray with cells for inputs and outputs.
type gateAsked struct {
	s       string
	inputs  []int
	outputs []int
}

// sampleGates are small and great trays with cells that are chosen by a fixed seed, so many inputs and outputs.
func sampleGates(inputs, outputs int) []gateAsked {
	numbers := rand.New(rand.NewSource(int64(10*inputs + outputs)))
	var asked []gateAsked
	trays := slices.Concat(allTrays(2, 2, "#.o"), allTrays(3, 2, "#.a"), allTrays(2, 3, "#.o"), greatTrays(), greatTrays(), greatTrays())
	for _, s := range trays {
		ins := numbersOf(s, '.')
		var outs []int
		for n := range strings.ReplaceAll(s, "/", "") {
			if cellOf(s, n) != '#' {
				outs = append(outs, n)
			}
		}
		if len(ins) < inputs || len(outs) < outputs {
			continue
		}
		numbers.Shuffle(len(ins), func(i, j int) { ins[i], ins[j] = ins[j], ins[i] })
		numbers.Shuffle(len(outs), func(i, j int) { outs[i], outs[j] = outs[j], outs[i] })
		asked = append(asked, gateAsked{s, ins[:inputs], outs[:outputs]})
	}
	return asked
}
