package tests

import (
	"fmt"
	"slices"
	"strings"
	"testing"

	"loop.example/g01199/impl"
)

// The tests of promise 7: words that come back permute balls, and tables tell gates.

func TestLimitsOfMachines(t *testing.T) {
	expect(t, "MaxGateWord", []any{impl.MaxGateWord}, 5)
	expect(t, "MaxInputs", []any{impl.MaxInputs}, 3)
}

func TestExampleOfMachines(t *testing.T) {
	const s = ".../.../..."
	n, ok := impl.GateNumber(s, []int{0, 2}, 2, "r")
	expect(t, "GateNumber", []any{n, ok}, 7, true)
	n, ok = impl.GateNumber(s, []int{0, 2}, 1, "r")
	expect(t, "GateNumber", []any{n, ok}, 1, true)
	for word, want := range map[string]bool{"r": true, "l": true, "u": true, "d": true, "": true} {
		back, ok := impl.ComesBack("ab", word)
		expect(t, "ComesBack "+word, []any{back, ok}, want, true)
	}
	p, ok := impl.PermutationOf("ab", "r")
	expect(t, "PermutationOf", []any{p, ok}, []int{0, 1}, true)
}

// expectMachine compares what is told of a word with the model.
func expectMachine(t *testing.T, s, word string) {
	t.Helper()
	told := machineModel(s, word)
	back, ok := impl.ComesBack(s, word)
	expect(t, "ComesBack "+s+" "+word, []any{back, ok}, told.comesBack, true)
	if !told.comesBack {
		for _, name := range functionsOfPermutations() {
			failsWithZeros(t, name, s, word)
		}
		return
	}
	p, ok := impl.PermutationOf(s, word)
	expect(t, "PermutationOf "+s+" "+word, []any{p, ok}, told.permutation, true)
	order, ok := impl.OrderOfWord(s, word)
	expect(t, "OrderOfWord "+s+" "+word, []any{order, ok}, told.order, true)
	cycles, ok := impl.CyclesOfWord(s, word)
	expect(t, "CyclesOfWord "+s+" "+word, []any{cycles, ok}, told.cycles, true)
	sign, ok := impl.SignOfWord(s, word)
	expect(t, "SignOfWord "+s+" "+word, []any{sign, ok}, told.sign, true)
}

func TestWordsAndPermutations(t *testing.T) {
	words := sampleWords()
	for i, s := range sampleTrays() {
		expectMachine(t, s, "")
		for k := range 3 {
			expectMachine(t, s, words[(3*i+k)%len(words)])
		}
	}
}

func TestWordsThatOftenComeBack(t *testing.T) {
	comeBack, permute := 0, 0
	for _, settled := range settledTrays() {
		s, word := settled[0], settled[1]
		expectMachine(t, s, word)
		if told := machineModel(s, word); told.comesBack {
			comeBack++
			if told.order > 1 {
				permute++
			}
		}
	}
	if comeBack < 2000 || comeBack > 2700 || permute < 300 {
		t.Errorf("%d words come back, of which %d move balls", comeBack, permute)
	}
}

func TestLimitOfWordsThatComeBack(t *testing.T) {
	const s = "oo/o."
	for k := range 11 {
		expectMachine(t, s, strings.Repeat("rdlu", k))
	}
	for _, word := range []string{strings.Repeat("l", 39) + "u", strings.Repeat("l", 39) + "r", strings.Repeat("rdlu", 9) + "rdl", strings.Repeat("rdlu", 9) + "rdlr"} {
		expectMachine(t, s, word)
	}
	for _, name := range append(functionsOfPermutations(), "ComesBack") {
		failsWithZeros(t, name, s, strings.Repeat("rdlu", 10)+"u")
		failsWithZeros(t, name, s, strings.Repeat("lu", 21))
	}
}

func TestTraysWithoutBallsHaveEmptyPermutations(t *testing.T) {
	for _, s := range []string{".", "#", "..", "./#", ".#./...", freeText(6, 6), freeText(7, 5)} {
		for _, word := range []string{"", "u", "rr", "rdlu", strings.Repeat("lu", 20)} {
			back, ok := impl.ComesBack(s, word)
			expect(t, "ComesBack "+s, []any{back, ok}, true, true)
			p, ok := impl.PermutationOf(s, word)
			expect(t, "PermutationOf "+s, []any{len(p), ok}, 0, true)
			order, ok := impl.OrderOfWord(s, word)
			expect(t, "OrderOfWord "+s, []any{order, ok}, 1, true)
			cycles, ok := impl.CyclesOfWord(s, word)
			expect(t, "CyclesOfWord "+s, []any{len(cycles), ok}, 0, true)
			sign, ok := impl.SignOfWord(s, word)
			expect(t, "SignOfWord "+s, []any{sign, ok}, 1, true)
		}
	}
}

func TestTheEmptyWordComesBackOnEachTray(t *testing.T) {
	for _, s := range sampleTrays() {
		balls := len(numbersOf(plainModel(s), 'o'))
		back, ok := impl.ComesBack(s, "")
		expect(t, "ComesBack "+s, []any{back, ok}, true, true)
		p, ok := impl.PermutationOf(s, "")
		expect(t, "PermutationOf "+s, []any{len(p), ok}, balls, true)
		for i, at := range p {
			expect(t, "PermutationOf "+s, []any{at}, i)
		}
		order, ok := impl.OrderOfWord(s, "")
		expect(t, "OrderOfWord "+s, []any{order, ok}, 1, true)
		cycles, ok := impl.CyclesOfWord(s, "")
		expect(t, "CyclesOfWord "+s, []any{len(cycles), ok}, balls, true)
		for i, cycle := range cycles {
			expect(t, "CyclesOfWord "+s, []any{cycle}, []int{i})
		}
	}
}

func TestTraysFullOfBalls(t *testing.T) {
	for _, s := range []string{"o", "oo/oo", "ab/cd", "oao/b#o/ooc", strings.ReplaceAll(freeText(6, 6), ".", "o"), strings.ReplaceAll(freeText(7, 5), ".", "o")} {
		for _, word := range []string{"u", "rdlu", strings.Repeat("ld", 20)} {
			expectMachine(t, s, word)
			order, ok := impl.OrderOfWord(s, word)
			expect(t, "OrderOfWord "+s, []any{order, ok}, 1, true)
		}
	}
}

func TestKnownPermutations(t *testing.T) {
	for _, c := range []struct {
		s, word string
		p       []int
		order   int
		cycles  [][]int
		sign    int
	}{
		{"a", "urdl", []int{0}, 1, [][]int{{0}}, 1},
		{"#o#", "r", []int{0}, 1, [][]int{{0}}, 1},
		{"..o", "lr", []int{0}, 1, [][]int{{0}}, 1},
		{"ab/cd", "urdl", []int{0, 1, 2, 3}, 1, [][]int{{0}, {1}, {2}, {3}}, 1},
		// Three balls that go round, with names and without; both ways.
		{"ab/c.", "rdlu", []int{2, 0, 1}, 3, [][]int{{0, 2, 1}}, 1},
		{"ba/c.", "rdlu", []int{2, 0, 1}, 3, [][]int{{0, 2, 1}}, 1},
		{"oo/o.", "rdlu", []int{2, 0, 1}, 3, [][]int{{0, 2, 1}}, 1},
		{"oa/o.", "rdlu", []int{2, 0, 1}, 3, [][]int{{0, 2, 1}}, 1},
		{"ab/c.", "drul", []int{1, 2, 0}, 3, [][]int{{0, 1, 2}}, 1},
		{"oo/o.", "rdlurdlu", []int{1, 2, 0}, 3, [][]int{{0, 1, 2}}, 1},
		{"oo/o.", "rdlurdlurdlu", []int{0, 1, 2}, 1, [][]int{{0}, {1}, {2}}, 1},
	} {
		p, ok := impl.PermutationOf(c.s, c.word)
		expect(t, "PermutationOf "+c.s+" "+c.word, []any{p, ok}, c.p, true)
		order, ok := impl.OrderOfWord(c.s, c.word)
		expect(t, "OrderOfWord "+c.s+" "+c.word, []any{order, ok}, c.order, true)
		cycles, ok := impl.CyclesOfWord(c.s, c.word)
		expect(t, "CyclesOfWord "+c.s+" "+c.word, []any{cycles, ok}, c.cycles, true)
		sign, ok := impl.SignOfWord(c.s, c.word)
		expect(t, "SignOfWord "+c.s+" "+c.word, []any{sign, ok}, c.sign, true)
		expectMachine(t, c.s, c.word)
	}
}

// TestKnownOrdersOfCycles has cycles of several lengths, whose least common multiple is the order.
func TestKnownOrdersOfCycles(t *testing.T) {
	for _, c := range []struct {
		s, word string
		lengths []int
		order   int
		sign    int
	}{
		{"oo/o.", "rdlu", []int{3}, 3, 1},
		{"..o/ooo", "lurd", []int{1, 3}, 3, 1},
		{"#.#./oo.o", "ruld", []int{1, 2}, 2, -1},
		{"#o#/ooo/..o", "ldru", []int{1, 4}, 4, -1},
		{"o#oo/.ooo/.#..", "dlur", []int{2, 4}, 4, 1},
		{"oooo/oo../o...", "drul", []int{2, 2, 3}, 6, 1},
		{"...#/..oo/oooo/ooo#", "uldr", []int{4, 5}, 20, -1},
		{".#.../o.o../ooooo", "ruld", []int{3, 4}, 12, -1},
		{"ooo.../ooooo.", "ruld", []int{3, 5}, 15, 1},
		{"...o/.ooo/o#oo", "uldr", []int{2, 5}, 10, -1},
		{"o../o.o/oo#/oo./oo.", "rulld", []int{2, 7}, 14, -1},
		{"...o#./..oooo/oooo#o", "ullldrrdd", []int{2, 3, 5}, 30, -1},
		{"o..o#/oo.o./#ooo./.oo#./o#o../o.o.o", "rlduruld", []int{1, 2, 5, 7}, 70, -1},
		{"....../.....o/.....o/..oooo/#.ooo#/.ooooo", "ddulllldrd", []int{3, 4, 7}, 84, -1},
		{"oo..../ooo.../..#oo#/o.#ooo/ooooo./ooooo.", "uurrudrrl", []int{1, 1, 1, 1, 17}, 17, 1},
	} {
		cycles, ok := impl.CyclesOfWord(c.s, c.word)
		var lengths []int
		for _, cycle := range cycles {
			lengths = append(lengths, len(cycle))
		}
		slices.Sort(lengths)
		expect(t, "CyclesOfWord "+c.s+" "+c.word, []any{lengths, ok}, c.lengths, true)
		order, ok := impl.OrderOfWord(c.s, c.word)
		expect(t, "OrderOfWord "+c.s+" "+c.word, []any{order, ok}, c.order, true)
		sign, ok := impl.SignOfWord(c.s, c.word)
		expect(t, "SignOfWord "+c.s+" "+c.word, []any{sign, ok}, c.sign, true)
		expectMachine(t, c.s, c.word)
	}
}

// TestWordsPermuteBalls follows names through the program's own tilts.
func TestWordsPermuteBalls(t *testing.T) {
	followed := 0
	for _, settled := range settledTrays() {
		s, word := settled[0], settled[1]
		cells, _ := impl.BallsOf(s)
		p, ok := impl.PermutationOf(s, word)
		if !ok || len(cells) > 6 {
			continue
		}
		named := s
		for i, n := range cells {
			named = withText(named, n, "abcdef"[i:i+1])
		}
		// Names do not matter to the word.
		same, ok := impl.PermutationOf(named, word)
		expect(t, "PermutationOf "+named+" "+word, []any{same, ok}, p, true)
		behind, _ := impl.TiltWord(named, word)
		for i := range cells {
			expect(t, "TiltWord "+named+" "+word, []any{cellOf(behind, cells[p[i]])}, "abcdef"[i])
		}
		order, _ := impl.OrderOfWord(s, word)
		for times := 1; times <= order; times++ {
			if times > 1 {
				behind, _ = impl.TiltWord(behind, word)
			}
			expect(t, fmt.Sprint(named, " behind ", times, " times ", word), []any{behind == named}, times == order)
		}
		followed++
	}
	if followed < 1000 {
		t.Errorf("%d words permute at most six balls", followed)
	}
}

// TestPowersOfWordsThatComeBack takes powers that are words: the order is shared out among them.
func TestPowersOfWordsThatComeBack(t *testing.T) {
	for _, settled := range settledTrays() {
		s, word := settled[0], settled[1]
		order, isBack := impl.OrderOfWord(s, word)
		sign, _ := impl.SignOfWord(s, word)
		if !isBack {
			continue
		}
		powerSign := 1
		for k := range 41 {
			power, ok := impl.PowerWord(word, k)
			if !ok {
				break
			}
			divisor := k
			for rest := order; rest != 0; {
				divisor, rest = rest, divisor%rest
			}
			powerOrder, ok := impl.OrderOfWord(s, power)
			expect(t, fmt.Sprint("OrderOfWord ", s, " ", word, " ", k), []any{powerOrder, ok}, order/divisor, true)
			got, ok := impl.SignOfWord(s, power)
			expect(t, fmt.Sprint("SignOfWord ", s, " ", word, " ", k), []any{got, ok}, powerSign, true)
			powerSign *= sign
		}
	}
}

func TestPowersOfWords(t *testing.T) {
	for _, word := range append(sampleWords(), "u", "urdl", "urdlu", strings.Repeat("ur", 10), strings.Repeat("r", 21), strings.Repeat("dl", 20)) {
		for k := range 45 {
			if k > 40 || len(word)*k > 40 {
				failsWithZeros(t, "PowerWord", word, k)
				continue
			}
			want := ""
			for range k {
				want += word
			}
			power, ok := impl.PowerWord(word, k)
			expect(t, fmt.Sprint("PowerWord ", word, " ", k), []any{power, ok}, want, true)
		}
	}
}

func TestLimitsOfPowers(t *testing.T) {
	for _, c := range []struct {
		word string
		k    int
		ok   bool
	}{
		{"", 0, true}, {"", 1, true}, {"", 40, true}, {"", 41, false}, {"u", 0, true}, {"u", 40, true}, {"u", 41, false},
		{"ur", 20, true}, {"ur", 21, false}, {"urd", 13, true}, {"urd", 14, false}, {"urdlurdl", 5, true}, {"urdlurdl", 6, false},
		{strings.Repeat("ur", 10), 2, true}, {strings.Repeat("u", 21), 1, true}, {strings.Repeat("u", 21), 2, false},
		{strings.Repeat("l", 40), 0, true}, {strings.Repeat("l", 40), 1, true}, {strings.Repeat("l", 40), 2, false}, {strings.Repeat("l", 40), 40, false},
		{strings.Repeat("l", 41), 0, false}, {strings.Repeat("l", 41), 1, false}, {"x", 0, false}, {"u", -1, false}, {"", -1, false},
	} {
		want := ""
		if c.ok {
			want = strings.Repeat(c.word, c.k)
		}
		power, ok := impl.PowerWord(c.word, c.k)
		expect(t, fmt.Sprint("PowerWord ", c.word, " ", c.k), []any{power, ok}, want, c.ok)
	}
}

func TestWordsBack(t *testing.T) {
	for i, s := range sampleTrays() {
		known := tilter{}
		for n := range 5 {
			// The longest words of one tray in so many are enough.
			if n < 3 || i%20 == 0 {
				words, ok := impl.WordsBack(s, n)
				expect(t, fmt.Sprint("WordsBack ", s, " ", n), []any{words, ok}, wordsBackModel(s, n, known), true)
			}
		}
	}
}

func TestKnownWordsBack(t *testing.T) {
	for _, c := range []struct {
		s     string
		n     int
		words []string
	}{
		{"a", 0, []string{""}}, {"a.", 0, []string{""}}, {".", 0, []string{""}},
		{"a", 1, []string{"", "u", "r", "d", "l"}},
		{"#", 2, []string{"", "u", "r", "d", "l", "ur", "ud", "ul", "ru", "rd", "rl", "du", "dr", "dl", "lu", "lr", "ld"}},
		{"a.", 2, []string{"", "u", "d", "l", "ud", "ul", "rl", "du", "dl", "lu", "ld"}},
		{"a./..", 2, []string{"", "u", "l", "ul", "rl", "du", "lu"}},
		// A tray that is still in no direction; it comes back only if no tilt is made.
		{".../.a./...", 4, []string{""}},
		{".o./o.o/.o.", 4, []string{""}},
	} {
		words, ok := impl.WordsBack(c.s, c.n)
		expect(t, fmt.Sprint("WordsBack ", c.s, " ", c.n), []any{words, ok}, c.words, true)
	}
	words, ok := impl.WordsBack("#", 4)
	expect(t, "WordsBack #", []any{len(words), ok}, 1+4+12+36+108, true)
	words, ok = impl.WordsBack("oo/o.", 4)
	expect(t, "WordsBack oo/o.", []any{slices.Contains(words, "rdlu"), slices.Contains(words, "drul"), ok}, true, true, true)
}

func TestTablesOfWords(t *testing.T) {
	words := append(sampleWords(), "")
	for inputs := 1; inputs <= 3; inputs++ {
		for outputs := 1; outputs <= 3; outputs++ {
			for i, asked := range sampleGates(inputs, outputs) {
				for _, word := range []string{"", words[i%len(words)], words[(7*i+3)%len(words)]} {
					expectTable(t, asked, word)
				}
			}
		}
	}
}

// expectTable compares what is told of a table with the model.
func expectTable(t *testing.T, asked gateAsked, word string) {
	t.Helper()
	known := tilter{}
	want := tableModel(asked.s, asked.inputs, asked.outputs, word, known)
	what := fmt.Sprint(asked, " ", word)
	table, ok := impl.GateTable(asked.s, asked.inputs, asked.outputs, word)
	expect(t, "GateTable "+what, []any{table, ok}, want, true)
	is, ok := impl.IsReversible(asked.s, asked.inputs, asked.outputs, word)
	expect(t, "IsReversible "+what, []any{is, ok}, isReversibleModel(want), true)
	if len(asked.outputs) > 1 {
		return
	}
	if len(asked.inputs) != 2 {
		failsWithZeros(t, "GateNumber", asked.s, asked.inputs, asked.outputs[0], word)
		return
	}
	number, ok := impl.GateNumber(asked.s, asked.inputs, asked.outputs[0], word)
	expect(t, "GateNumber "+what, []any{number, ok}, gateModel(asked.s, asked.inputs, asked.outputs[0], word, known), true)
}

func TestKnownTables(t *testing.T) {
	for _, c := range []struct {
		s               string
		inputs, outputs []int
		word            string
		table           []int
		isReversible    bool
	}{
		// The first input and the first output have the greatest places.
		{"..", []int{0}, []int{0}, "", []int{0, 1}, true},
		{"..", []int{0}, []int{1}, "", []int{0, 0}, false},
		{"..", []int{0}, []int{1}, "r", []int{0, 1}, true},
		{"..", []int{0, 1}, []int{0, 1}, "", []int{0, 1, 2, 3}, true},
		{"..", []int{0, 1}, []int{1, 0}, "", []int{0, 2, 1, 3}, true},
		{"..", []int{1, 0}, []int{0, 1}, "", []int{0, 2, 1, 3}, true},
		{"..", []int{0, 1}, []int{0, 1}, "l", []int{0, 2, 2, 3}, false},
		{"...", []int{0, 1, 2}, []int{0, 1, 2}, "", []int{0, 1, 2, 3, 4, 5, 6, 7}, true},
		{"...", []int{0, 1, 2}, []int{2, 1, 0}, "u", []int{0, 4, 2, 6, 1, 5, 3, 7}, true},
		{"...", []int{0, 1, 2}, []int{0, 1, 2}, "r", []int{0, 1, 1, 3, 1, 3, 3, 7}, false},
		{"...", []int{0, 1, 2}, []int{1}, "r", []int{0, 0, 0, 1, 0, 1, 1, 1}, false},
		{"...", []int{0}, []int{0, 1, 2}, "r", []int{0, 1}, true},
		{"...", []int{1}, []int{2, 0, 1}, "l", []int{0, 2}, true},
		// Balls that stand in the tray already, behind and before them.
		{".o.", []int{0}, []int{1, 2}, "r", []int{1, 3}, true},
		{".o.", []int{0, 2}, []int{1}, "", []int{1, 1, 1, 1}, false},
		{"a..", []int{1, 2}, []int{0, 1, 2}, "l", []int{4, 6, 6, 7}, false},
		{"b..", []int{1, 2}, []int{0}, "r", []int{0, 0, 0, 1}, false},
		// Walls keep balls from each other.
		{".#.", []int{0, 2}, []int{0, 2}, "r", []int{0, 1, 2, 3}, true},
		{"..#..", []int{0, 4}, []int{1, 3}, "r", []int{0, 0, 2, 2}, false},
		// Outputs that no ball reaches.
		{".../..#/.#.", []int{0, 1}, []int{8}, "rdlu", []int{0, 0, 0, 0}, false},
		{".#./.#./.#.", []int{0, 3, 6}, []int{2, 5, 8}, "drul", []int{0, 0, 0, 0, 0, 0, 0, 0}, false},
	} {
		table, ok := impl.GateTable(c.s, c.inputs, c.outputs, c.word)
		expect(t, fmt.Sprint("GateTable ", c), []any{table, ok}, c.table, true)
		is, ok := impl.IsReversible(c.s, c.inputs, c.outputs, c.word)
		expect(t, fmt.Sprint("IsReversible ", c), []any{is, ok}, c.isReversible, true)
		expectTable(t, gateAsked{c.s, c.inputs, c.outputs}, c.word)
	}
}

// TestNumbersOfBallsAreKept puts as many balls in as come out if each cell is an output in some call.
func TestNumbersOfBallsAreKept(t *testing.T) {
	const s = ".../a#./..o"
	for _, word := range sampleWords() {
		var counts [8]int
		for _, output := range []int{0, 1, 2, 3, 5, 6, 7, 8} {
			table, ok := impl.GateTable(s, []int{0, 5, 7}, []int{output}, word)
			expect(t, "GateTable "+word, []any{len(table), ok}, 8, true)
			for number, told := range table {
				counts[number] += told
			}
		}
		expect(t, "GateTable "+word, []any{counts}, [8]int{2, 3, 3, 4, 3, 4, 4, 5})
	}
}

func TestGateNames(t *testing.T) {
	names := map[int]string{0: "zero", 1: "and", 3: "first", 5: "second", 6: "xor", 7: "or", 8: "nor", 9: "xnor", 14: "nand", 15: "one"}
	for number := range 16 {
		want, isNamed := names[number]
		if !isNamed {
			want = "other"
		}
		name, ok := impl.GateName(number)
		expect(t, fmt.Sprint("GateName ", number), []any{name, ok}, want, true)
	}
}

// expectGates compares the words for all gates with the model.
func expectGates(t *testing.T, s string, inputs []int, output int) {
	t.Helper()
	known := tilter{}
	words := gatesModel(s, inputs, output, 5, known)
	fourDirections := 0
	for number := range 16 {
		want, isFound := words[number]
		if isFound && len(want) <= 4 {
			fourDirections++
		}
		what := fmt.Sprint(s, " ", inputs, " ", output, " ", number)
		word, ok := impl.WordForGate(s, inputs, output, number)
		expect(t, "WordForGate "+what, []any{word, ok}, want, isFound)
		if isFound {
			told, ok := impl.GateNumber(s, inputs, output, want)
			expect(t, "GateNumber "+what, []any{told, ok}, number, true)
		}
	}
	count, ok := impl.CountGates(s, inputs, output)
	expect(t, fmt.Sprint("CountGates ", s, " ", inputs, " ", output), []any{count, ok}, fourDirections, true)
}

func TestWordsForGates(t *testing.T) {
	for i, asked := range sampleGates(2, 1) {
		if i%6 == 0 || len(asked.s) > 8 {
			expectGates(t, asked.s, asked.inputs, asked.outputs[0])
		}
	}
}

func TestWordsForAllCellsOfATray(t *testing.T) {
	for _, s := range []string{"../..", "../.o", "o../.#.", ".../..#"} {
		cells := len(strings.ReplaceAll(s, "/", ""))
		for a := range cells {
			for b := range cells {
				if a == b || cellOf(s, a) != '.' || cellOf(s, b) != '.' {
					continue
				}
				for output := range cells {
					if cellOf(s, output) != '#' {
						expectGates(t, s, []int{a, b}, output)
					}
				}
			}
		}
	}
}

func TestKnownWordsForGates(t *testing.T) {
	for _, c := range []struct {
		s      string
		inputs []int
		output int
		number int
		word   string
		ok     bool
	}{
		// The empty word is the shortest.
		{"...", []int{0, 2}, 1, 0, "", true}, {"..", []int{1, 0}, 1, 3, "", true}, {"..", []int{0, 1}, 1, 5, "", true}, {"..o", []int{0, 1}, 2, 15, "", true},
		{"..", []int{0, 1}, 1, 7, "r", true}, {"..", []int{0, 1}, 1, 1, "l", true}, {"../..", []int{3, 1}, 0, 7, "ul", true}, {".../.#.", []int{0, 3}, 1, 1, "rur", true},
		{"#o./..o", []int{2, 4}, 3, 3, "ldr", true}, {"#o./..o", []int{2, 4}, 3, 1, "dldr", true}, {".#o/...", []int{5, 0}, 5, 5, "dlur", true}, {"o../#..", []int{5, 4}, 1, 15, "rdlu", true},
		// Exactly MaxGateWord directions.
		{".o/#./oo/.o", []int{6, 3}, 5, 0, "lurdl", true}, {".../#..", []int{2, 1}, 0, 1, "ldrdl", true}, {"o.#/...", []int{5, 3}, 3, 3, "dlurd", true},
		{".../.#o", []int{2, 1}, 3, 5, "uldlu", true}, {"#.o/...", []int{1, 5}, 5, 7, "dluru", true}, {"..../..#o", []int{0, 4}, 1, 15, "uldru", true},
		// One more, so that there is no word for the call.
		{"#o../..../o...", []int{9, 11}, 7, 1, "", false}, {"..##/.#../o.#./#...", []int{11, 4}, 15, 7, "", false},
		// No word at all: no balls come to the output, or both inputs stay where they are.
		{"..#.", []int{0, 1}, 3, 1, "", false}, {"..#.", []int{0, 1}, 3, 15, "", false}, {".#.", []int{0, 2}, 0, 7, "", false}, {".#.", []int{0, 2}, 0, 5, "", false},
		{".#.", []int{0, 2}, 0, 3, "", true}, {".#.", []int{2, 0}, 0, 5, "", true}, {"..", []int{0, 1}, 0, 5, "", false},
	} {
		word, ok := impl.WordForGate(c.s, c.inputs, c.output, c.number)
		expect(t, fmt.Sprint("WordForGate ", c), []any{word, ok}, c.word, c.ok)
		expectGates(t, c.s, c.inputs, c.output)
	}
	for s, word := range map[string]string{"#o../..../o...": "uruldr", "..##/.#../o.#./#...": "urdrdr"} {
		inputs, output, want := []int{9, 11}, 7, 1
		if strings.HasPrefix(s, "..") {
			inputs, output, want = []int{11, 4}, 15, 7
		}
		number, ok := impl.GateNumber(s, inputs, output, word)
		expect(t, "GateNumber "+s+" "+word, []any{number, ok}, want, true)
	}
}

func TestKnownCountsOfGates(t *testing.T) {
	for _, c := range []struct {
		s      string
		inputs []int
		output int
		count  int
	}{
		{".#.", []int{0, 2}, 0, 1}, {"..#.", []int{0, 1}, 3, 1}, {"..", []int{0, 1}, 0, 3}, {"...", []int{0, 1}, 2, 2}, {"...", []int{0, 1}, 1, 2},
		{"../.o", []int{0, 1}, 1, 6}, {"o./..", []int{2, 3}, 0, 6},
	} {
		expectGates(t, c.s, c.inputs, c.output)
		count, ok := impl.CountGates(c.s, c.inputs, c.output)
		expect(t, fmt.Sprint("CountGates ", c), []any{count, ok}, c.count, true)
	}
}

// TestCountedGatesHaveFourDirections has gates for which the shortest word has one direction more.
func TestCountedGatesHaveFourDirections(t *testing.T) {
	for _, c := range []struct {
		s      string
		inputs []int
		output int
	}{
		{".../#..", []int{2, 1}, 0}, {"o.#/...", []int{5, 3}, 3}, {"#.o/...", []int{1, 5}, 5},
	} {
		words := 0
		for number := range 16 {
			if _, ok := impl.WordForGate(c.s, c.inputs, c.output, number); ok {
				words++
			}
		}
		count, ok := impl.CountGates(c.s, c.inputs, c.output)
		expect(t, fmt.Sprint("CountGates ", c), []any{count < words, ok}, true, true)
	}
}

// TestMoreBallsFillMoreCells has no gate that a ball more turns off: tilts fill the cells that fewer balls fill, too.
func TestMoreBallsFillMoreCells(t *testing.T) {
	for i, asked := range sampleGates(2, 1) {
		if i%10 != 0 {
			continue
		}
		for _, number := range []int{2, 4, 6, 8, 9, 10, 11, 12, 13, 14} {
			failsWithZeros(t, "WordForGate", asked.s, asked.inputs, asked.outputs[0], number)
		}
	}
}

// TestTurnedMachines turns trays and words alike.
func TestTurnedMachines(t *testing.T) {
	for _, settled := range settledTrays()[:500] {
		s, word := settled[0], settled[1]
		order, ok := impl.OrderOfWord(s, word)
		sign, _ := impl.SignOfWord(s, word)
		turned, _ := impl.TurnTray(s)
		turnedWord := turnedModel(word, 1)
		turnedOrder, turnedOk := impl.OrderOfWord(turned, turnedWord)
		expect(t, "OrderOfWord "+turned+" "+turnedWord, []any{turnedOrder, turnedOk}, order, ok)
		turnedSign, turnedOk := impl.SignOfWord(turned, turnedWord)
		expect(t, "SignOfWord "+turned+" "+turnedWord, []any{turnedSign, turnedOk}, sign, ok)
	}
}
