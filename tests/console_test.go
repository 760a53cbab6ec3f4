package tests

import (
	"fmt"
	"slices"
	"strconv"
	"strings"
	"testing"

	"loop.example/g01199/impl"
)

// The tests of promise 10: scripts do what the calls do that they name.

func TestExampleOfScripts(t *testing.T) {
	script := scriptOf("tilt r", "tilt d", "done", "balls", "tray a./..", "to ../.a", "hard a", "bring b 1", "fly")
	replies, ok := impl.RunScript(script)
	expect(t, "RunScript", []any{replies, ok}, []string{".ao/.#.", ".a./.#o", "rd", "1,5", "a./..", "rd", "3,2", "no", "what"}, true)
	d, ok := impl.DeskAfter(script)
	expect(t, "DeskAfter", []any{d, ok}, impl.Desk{Tray: "a./.."}, true)
	failed, ok := impl.FailedLines(script)
	expect(t, "FailedLines", []any{failed, ok}, []int{8, 9}, true)
}

func TestFirstDesk(t *testing.T) {
	expect(t, "FirstDesk", []any{impl.FirstDesk()}, impl.Desk{Tray: "a.o/.#.", Done: ""})
	expect(t, "IsDesk", []any{impl.IsDesk(impl.FirstDesk())}, true)
}

func TestDesksAreTold(t *testing.T) {
	for _, d := range sampleDesks() {
		expect(t, fmt.Sprint("IsDesk ", d), []any{impl.IsDesk(d)}, true)
	}
	for _, s := range slices.Concat(notTrays(), allTrays(2, 1, "#.oa"), greatTrays()) {
		for _, word := range append(notWords(), "", "u", "rdlu", strings.Repeat("d", 40)) {
			d := impl.Desk{Tray: s, Done: word}
			expect(t, "IsDesk", []any{impl.IsDesk(d)}, isTrayModel(s) && isWordModel(word))
		}
	}
}

// sampleDesks have no, some, and exactly MaxWord directions done, which need not have led to their trays.
func sampleDesks() []impl.Desk {
	var desks []impl.Desk
	for i, s := range slices.Concat(knownReached(), knownSticks(), greatTrays()) {
		desks = append(desks, impl.Desk{Tray: s, Done: strings.Repeat("urdl", 10)[:i*13%41]})
	}
	return append(desks, impl.Desk{Tray: "a.", Done: ""}, impl.Desk{Tray: ".a", Done: "r"}, impl.Desk{Tray: "a.", Done: strings.Repeat("l", 40)})
}

// expectLine executes a line on a desk.
func expectLine(t *testing.T, d impl.Desk, line string, want impl.Desk, wantReply string) {
	t.Helper()
	behind, reply, ok := impl.DeskLine(d, line)
	expect(t, fmt.Sprintf("DeskLine %q %q", d, line), []any{behind, reply, ok}, want, wantReply, true)
}

// expectRefused executes a line that changes nothing.
func expectRefused(t *testing.T, d impl.Desk, reply string, lines ...string) {
	t.Helper()
	for _, line := range lines {
		expectLine(t, d, line, d, reply)
	}
}

// expectNoSuchLine has a text that is none of the table's lines, and perhaps no line at all.
func expectNoSuchLine(t *testing.T, d impl.Desk, text string) {
	t.Helper()
	if len(text) > 3000 || strings.Contains(text, "\n") {
		failsWithZeros(t, "DeskLine", d, text)
		return
	}
	expectRefused(t, d, "what", text)
}

// expectScript holds what is told of a script against the model, and against its lines one by one.
func expectScript(t *testing.T, lines ...string) {
	t.Helper()
	script := scriptOf(lines...)
	wantReplies, wantDesk, wantFailed := scriptModel(lines)
	replies, ok := impl.RunScript(script)
	if !ok || !slices.Equal(replies, wantReplies) {
		t.Errorf("RunScript %q: %q, %v and should be %q", script, replies, ok, wantReplies)
	}
	d, ok := impl.DeskAfter(script)
	expect(t, fmt.Sprintf("DeskAfter %q", script), []any{d, ok}, wantDesk, true)
	failed, ok := impl.FailedLines(script)
	if !ok || !slices.Equal(failed, wantFailed) {
		t.Errorf("FailedLines %q: %v, %v and should be %v", script, failed, ok, wantFailed)
	}
	d = impl.FirstDesk()
	for n, line := range lines {
		var reply string
		d, reply, ok = impl.DeskLine(d, line)
		expect(t, fmt.Sprintf("DeskLine %q, line %d", script, n+1), []any{reply, ok}, wantReplies[n], true)
	}
	expect(t, fmt.Sprintf("the lines of %q", script), []any{d}, wantDesk)
}

func TestEmptyScript(t *testing.T) {
	replies, ok := impl.RunScript("")
	expect(t, "RunScript", []any{len(replies), ok}, 0, true)
	d, ok := impl.DeskAfter("")
	expect(t, "DeskAfter", []any{d, ok}, impl.Desk{Tray: "a.o/.#."}, true)
	failed, ok := impl.FailedLines("")
	expect(t, "FailedLines", []any{len(failed), ok}, 0, true)
}

func TestScriptsOfOneLine(t *testing.T) {
	for _, line := range slices.Concat(linesOfTable(), []string{"", " ", "what", "no", "-", "tilt", "fly", "tray", "put 9 9 o", "to ###", "bring b 0", "hard b"}) {
		expectScript(t, line)
	}
	replies, ok := impl.RunScript("show\n")
	expect(t, "RunScript", []any{replies, ok}, []string{"a.o/.#."}, true)
	failed, ok := impl.FailedLines("show\n")
	expect(t, "FailedLines", []any{len(failed), ok}, 0, true)
	failed, ok = impl.FailedLines("\n")
	expect(t, "FailedLines", []any{failed, ok}, []int{1}, true)
}

func TestEmptyLines(t *testing.T) {
	var numbers []int
	for count := 1; count <= 50; count++ {
		numbers = append(numbers, count)
		script := strings.Repeat("\n", count)
		replies, ok := impl.RunScript(script)
		expect(t, "RunScript", []any{replies, ok}, slices.Repeat([]string{"what"}, count), true)
		failed, ok := impl.FailedLines(script)
		expect(t, "FailedLines", []any{failed, ok}, numbers, true)
		d, ok := impl.DeskAfter(script)
		expect(t, "DeskAfter", []any{d, ok}, impl.Desk{Tray: "a.o/.#."}, true)
	}
	expectScript(t, "", "tilt r", "", "", "done", "")
	replies, ok := impl.RunScript("\ntilt r\n\n\ndone\n\n")
	expect(t, "RunScript", []any{replies, ok}, []string{"what", ".ao/.#.", "what", "what", "r", "what"}, true)
	expectRefused(t, impl.Desk{Tray: ".a", Done: "r"}, "what", "")
}

func TestScriptsOfExactlyMaxLines(t *testing.T) {
	expect(t, "MaxLines", []any{impl.MaxLines}, 50)
	lines := strings.Split(strings.Repeat("tilt r,tilt d,done,put 0 0 o,turn,", 10), ",")[:50]
	expectScript(t, lines...)
	expectScript(t, lines[:49]...)
	failsAsScript(t, scriptOf(append(lines, "done")...))
	failsAsScript(t, scriptOf(append(lines, "")...))
	failed, ok := impl.FailedLines(strings.Repeat("show\n", 49) + "shoe\n")
	expect(t, "FailedLines", []any{failed, ok}, []int{50}, true)
}

func TestScriptsOfExactlyMaxScriptBytes(t *testing.T) {
	expect(t, "MaxScript", []any{impl.MaxScript}, 3000)
	for _, lines := range [][]string{
		{strings.Repeat("x", 2999)},
		{"tilt r", "turn", strings.Repeat("x", 2987)},
		{strings.Repeat(" ", 2991), "tilt rd"},
		{"put 0 1 #", "stick d", strings.Repeat("é", 1490) + "x"},
		slices.Repeat([]string{"tilt " + strings.Repeat("urdl", 13) + "ur"}, 50),
	} {
		script := scriptOf(lines...)
		expect(t, "the bytes", []any{len(script)}, 3000)
		expectScript(t, lines...)
		last := len(lines) - 1
		lines[last] = lines[last][1:]
		expectScript(t, lines...)
		failsAsScript(t, "x"+script)
		failsAsScript(t, script+"\n")
	}
}

func TestLinesOfExactlyMaxScriptBytes(t *testing.T) {
	d := impl.Desk{Tray: ".a", Done: "r"}
	for _, line := range []string{
		strings.Repeat("x", 3000), strings.Repeat(" ", 3000), "show" + strings.Repeat(" ", 2996), "tilt " + strings.Repeat("l", 2995), "tray " + strings.Repeat(".", 2995),
		"put 0 0 " + strings.Repeat("o", 2992), "put " + strings.Repeat("0", 2992) + " 0 o", strings.Repeat("\x00", 3000),
	} {
		expect(t, "the bytes", []any{len(line)}, 3000)
		expectRefused(t, d, "what", line)
		failsWithZeros(t, "DeskLine", d, line+"x")
		failsWithZeros(t, "DeskLine", d, line+" ")
	}
}

// linesOfTable has each line of the document's table, in a form that succeeds on the first desk.
func linesOfTable() []string {
	return []string{
		"tray .b/#o", "put 1 0 #", "turn", "mirror", "tilt rd", "stick rd", "show", "done", "balls", "still", "pieces", "reach", "to .ao/.#.", "bring a 1", "hard a", "least",
	}
}

func TestLinesOfTheTable(t *testing.T) {
	first := impl.FirstDesk()
	asks := func(line, reply string) {
		t.Helper()
		expectLine(t, first, line, first, reply)
	}
	changes := func(line, tray, done string) {
		t.Helper()
		expectLine(t, first, line, impl.Desk{Tray: tray, Done: done}, tray)
	}
	changes("tray .b/#o", ".b/#o", "")
	changes("put 1 0 #", "a#o/.#.", "")
	changes("put 0 1 b", "a.o/b#.", "")
	changes("turn", ".a/#./.o", "")
	changes("mirror", "o.a/.#.", "")
	changes("tilt rd", ".a./.#o", "rd")
	changes("stick rd", ".ao/.#.", "")
	asks("show", "a.o/.#.")
	asks("done", "-")
	asks("balls", "0,2")
	asks("still", "u")
	asks("pieces", "2")
	asks("reach", strconv.Itoa(len(firstWords("a.o/.#."))))
	asks("to .ao/.#.", "r")
	asks("bring a 1", "r")
	asks("hard a", "2,3")
	asks("least", ".#./a.o")
	for _, line := range linesOfTable() {
		d, reply := consoleModel(first, line)
		expectLine(t, first, line, d, reply)
	}
}

// TestWordsTooFewOrTooMany takes the last word of each line, and puts another one behind it.
func TestWordsTooFewOrTooMany(t *testing.T) {
	desks := []impl.Desk{impl.FirstDesk(), {Tray: ".ao/.#.", Done: "r"}}
	for _, line := range linesOfTable() {
		words := strings.Split(line, " ")
		for _, d := range desks {
			if len(words) > 1 {
				expectRefused(t, d, "what", strings.Join(words[:len(words)-1], " "), words[0])
			}
			for _, word := range []string{"", "0", "1", "a", "o", "r", ".", words[len(words)-1], "a.o/.#.", "show"} {
				expectRefused(t, d, "what", line+" "+word)
			}
			expectRefused(t, d, "what", strings.Join(words[1:], " "), line+" "+line)
		}
	}
}

// TestEmptyWords has blanks where there should be none: the words beside them are empty.
func TestEmptyWords(t *testing.T) {
	desks := []impl.Desk{impl.FirstDesk(), {Tray: ".ao/.#.", Done: "r"}}
	for _, line := range linesOfTable() {
		for _, d := range desks {
			expectRefused(t, d, "what", " "+line, "  "+line, line+" ", line+"  ", " "+line+" ")
			for i, c := range line {
				if c == ' ' {
					expectRefused(t, d, "what", line[:i]+" "+line[i:], line[:i+1], line[:i]+line[i+1:])
				}
			}
			expectRefused(t, d, "what", strings.ReplaceAll(line, " ", "\t")+"\t", line+"\r", line+"\x00", "\ufeff"+line)
		}
	}
	expectRefused(t, desks[1], "what", "", " ", "  ", "   ", "tilt ", "tilt  ", "tilt  r", "stick ", "tray ", "to ", "hard ", "bring  0", "bring a ", "put  0 o", "put 0  o", "put 0 0 ", "put   ")
}

func TestLinesOfNoTable(t *testing.T) {
	for _, d := range []impl.Desk{impl.FirstDesk(), {Tray: ".ao/.#.", Done: "r"}} {
		for _, line := range linesOfTable() {
			name, rest, _ := strings.Cut(line, " ")
			expectRefused(t, d, "what", strings.ToUpper(line), strings.ToUpper(line[:1])+line[1:], name+"s "+rest, name[1:]+" "+rest, "x"+line, name+":"+rest, name+"("+rest+")", line+";", line+",")
		}
		expectRefused(t, d, "what",
			"fly", "help", "what", "no", "-", "0", "a", "u", "r", "a.o/.#.", "desk", "first", "undo", "word r", "step r", "left", "tilted", "tile r", "til r", "un", "transpose", "crop", "walls",
			"PutAt 0 0 o", "TurnTray", "BallsOf", "piece 0", "shape 0", "steps r", "one", "goal", "puzzle", "sho", "show\x00", "é", "\xff", "show show", "balls 1", "TILT r", "Tilt r", "tILT r", "tilt R",
		)
	}
}

func TestLinesWhoseFunctionsFail(t *testing.T) {
	expectRefused(t, impl.Desk{Tray: "a.o/.#.", Done: "ul"}, "no",
		// No such cell, or a name twice.
		"put 3 0 o", "put 0 2 o", "put 3 2 o", "put 999999 0 o", "put 0 999999 .", "put 999999 999999 #", "put 7 0 #", "put 36 0 #", "put 2 1 a", "put 1 0 a", "put 2 0 a",
		// Trays that are not reached, of this size and of others.
		"to oa./.#.", "to a.o/...", "to a../.#.", "to .", "to #", "to a.o", "to a.o/.#./...", "to b.o/.#.", "to ...",
	)
	d := impl.Desk{Tray: "a.o/.#.", Done: "ul"}
	for _, name := range []string{"b", "c", "d", "e", "f"} {
		expectRefused(t, d, "no", "hard "+name, "bring "+name+" 0", "bring "+name+" 1", "bring "+name+" 999999")
	}
	// A wall, and cells that there are not.
	expectRefused(t, d, "no", "bring a 4", "bring a 6", "bring a 7", "bring a 36", "bring a 999999")
	expectRefused(t, impl.Desk{Tray: "a..", Done: "u"}, "no", "bring a 1", "to .a.", "bring b 0", "hard b", "put 0 1 .")
	expectRefused(t, impl.Desk{Tray: "...", Done: "u"}, "no", "bring a 0", "hard a", "hard f")
}

// TestWhatComesAheadOfNo has words of the wrong kind in lines that would fail anyway.
func TestWhatComesAheadOfNo(t *testing.T) {
	d := impl.Desk{Tray: "a.o/.#.", Done: strings.Repeat("u", 40)}
	expectRefused(t, d, "what",
		"put 9 9 g", "put 9 9", "put 9 x a", "put x 9 a", "put 9 9 aa", "put 9 -1 o", "bring b x", "bring b -1", "bring b 1000000", "bring b", "bring x 99", "hard b b", "hard ab", "to aa", "to ./..",
		"tilt x", "tilt ux", "tilt "+strings.Repeat("u", 41), "tilt u u",
	)
	expectRefused(t, d, "no", "put 9 9 a", "bring b 99", "hard b", "to a", "tilt u", "tilt "+strings.Repeat("u", 40))
}

func TestNumbersInLines(t *testing.T) {
	d := impl.Desk{Tray: "a.o/.#.", Done: "ul"}
	expectLine(t, d, "put 0 0 #", impl.Desk{Tray: "#.o/.#."}, "#.o/.#.")
	expectLine(t, d, "put 2 1 o", impl.Desk{Tray: "a.o/.#o"}, "a.o/.#o")
	expectLine(t, d, "bring a 0", d, "-")
	wide := impl.Desk{Tray: ".#.#./.#.#./.#.a./.#.#."}
	expectLine(t, wide, "bring a 12", wide, "l")
	expectLine(t, wide, "bring a 17", wide, "ld")
	for _, number := range []string{"999999", "100000", "99999", "10", "36", "3"} {
		expectRefused(t, d, "no", "put "+number+" 0 o", "put 0 "+number+" o", "put "+number+" "+number+" o", "bring c "+number)
	}
	for _, number := range notNumbers() {
		expectRefused(t, d, "what", "put "+number+" 0 o", "put 0 "+number+" o", "put "+number+" "+number+" o", "bring a "+number, "bring b "+number)
	}
}

func notNumbers() []string {
	return []string{
		"", "x", "-", "+", "-1", "+1", "-0", "+0", "00", "01", "000001", "0000000", "1000000", "1000001", "9999999", "10000000", "2147483648", "4294967296", "4294967297",
		"9223372036854775807", "9223372036854775808", "18446744073709551616", "18446744073709551617", "-9223372036854775808", "0x1", "0b1", "0o1", "1e0", "1.0", "1.", ".1", "1,0", "1_0", "0_1", "½", "١", "1\x00",
		"one", "a", "o", "#", strings.Repeat("9", 1000), strings.Repeat("0", 1000), "1" + strings.Repeat("0", 999), strings.Repeat("0", 999) + "1", "-" + strings.Repeat("1", 999),
	}
}

func TestCellsInLines(t *testing.T) {
	d := impl.Desk{Tray: "a.o/.#.", Done: "ul"}
	for _, cell := range strings.Split("#.obcdef", "") {
		for n := range 6 {
			s := withText(d.Tray, n, cell)
			expectLine(t, d, fmt.Sprintf("put %d %d %s", n%3, n/3, cell), impl.Desk{Tray: s}, s)
		}
	}
	for _, cell := range []string{"", "g", "A", "O", "0", "/", "..", "##", "ab", "#.oabcdef", "-", "\x00", "\xff", "é", "o.", ".o", "a/", strings.Repeat("o", 1000)} {
		expectRefused(t, d, "what", "put 1 0 "+cell, "put 9 9 "+cell)
	}
}

func TestNamesInLines(t *testing.T) {
	d := impl.Desk{Tray: "ab.o#", Done: "ul"}
	expectLine(t, d, "bring a 0", d, "-")
	expectLine(t, d, "bring b 2", d, "r")
	expectLine(t, d, "hard b", d, "2,1")
	expectLine(t, d, "hard a", d, "1,1")
	for _, name := range notNames() {
		reply := "what"
		if name != "" && strings.Trim(name, "cdef") == "" {
			reply = "no"
		}
		expectRefused(t, d, reply, "bring "+name+" 0", "hard "+name)
	}
}

func TestTraysInLines(t *testing.T) {
	d := impl.Desk{Tray: "a.o/.#.", Done: "ul"}
	for _, s := range slices.Concat(sampleTrays()[:300], greatTrays(), knownSticks()) {
		expectLine(t, d, "tray "+s, impl.Desk{Tray: s}, s)
	}
	for _, s := range notTrays() {
		for _, name := range []string{"tray", "to"} {
			expectNoSuchLine(t, d, name+" "+s)
		}
	}
}

func TestWordsInLines(t *testing.T) {
	d := impl.Desk{Tray: "a.o/.#.", Done: "ul"}
	for _, word := range sampleWords()[1:] {
		if len(word) > 38 {
			expectRefused(t, d, "no", "tilt "+word)
		} else {
			s := wordModel(d.Tray, word)
			expectLine(t, d, "tilt "+word, impl.Desk{Tray: s, Done: "ul" + word}, s)
		}
		s := stickWordModel(d.Tray, word)
		expectLine(t, d, "stick "+word, impl.Desk{Tray: s}, s)
	}
	for _, word := range append(notWords(), "") {
		for _, name := range []string{"tilt", "stick"} {
			expectNoSuchLine(t, d, name+" "+word)
		}
	}
}

// TestDoneIsAWord tilts until no more directions can be done.
func TestDoneIsAWord(t *testing.T) {
	for length := range 41 {
		for _, more := range []int{1, 2, 39, 40, 40 - length, 41 - length} {
			if more < 1 || more > 40 {
				continue
			}
			done, word := strings.Repeat("urdl", 10)[:length], strings.Repeat("lurd", 10)[:more]
			d := impl.Desk{Tray: "a.o/.#.", Done: done}
			if length+more > 40 {
				expectRefused(t, d, "no", "tilt "+word)
				continue
			}
			s := wordModel(d.Tray, word)
			expectLine(t, d, "tilt "+word, impl.Desk{Tray: s, Done: done + word}, s)
		}
	}
	full := strings.Repeat("urdl", 10)
	expectScript(t, "tilt "+full[:39], "tilt rd", "done", "show", "tilt d", "done", "tilt u", "tilt l", "show", "done", "turn", "done", "tilt u", "done")
	replies, ok := impl.RunScript(scriptOf("tilt "+full, "done", "tilt u", "done", "put 0 0 .", "tilt u", "done"))
	s := wordModel("a.o/.#.", full)
	put := withText(s, 0, ".")
	expect(t, "RunScript", []any{replies, ok}, []string{s, full, "no", full, put, wordModel(put, "u"), "u"}, true)
	// Tilts in directions in which the tray is still are done, too.
	expectScript(t, "tray a.", "tilt u", "tilt l", "tilt d", "tilt lll", "done", "show")
}

// TestChangesByHand have nothing done behind them, even if the tray stays as it was.
func TestChangesByHand(t *testing.T) {
	for _, done := range []string{"", "u", "rd", strings.Repeat("lu", 20)} {
		d := impl.Desk{Tray: "a.o/.#.", Done: done}
		for line, s := range map[string]string{
			"tray a.o/.#.": "a.o/.#.", "tray .": ".", "put 0 0 a": "a.o/.#.", "put 1 1 #": "a.o/.#.", "put 1 0 .": "a.o/.#.", "put 2 0 o": "a.o/.#.", "put 0 0 .": "..o/.#.",
			"turn": ".a/#./.o", "mirror": "o.a/.#.", "stick u": "a.o/.#.", "stick r": ".ao/.#.",
		} {
			expectLine(t, d, line, impl.Desk{Tray: s}, s)
		}
		same := impl.Desk{Tray: "o.o", Done: done}
		for _, line := range []string{"mirror", "stick u", "stick d", "stick udud", "tray o.o", "put 0 0 o", "put 1 0 ."} {
			expectLine(t, same, line, impl.Desk{Tray: "o.o"}, "o.o")
		}
		expectLine(t, impl.Desk{Tray: "#", Done: done}, "turn", impl.Desk{Tray: "#"}, "#")
	}
	for _, line := range []string{"tray a.o", "put 1 1 .", "turn", "mirror", "stick l"} {
		expectScript(t, "tilt rd", "done", line, "done", "tilt u", "done", line, line, "done", "show")
	}
}

// TestLinesThatChangeNothing ask, or are refused.
func TestLinesThatChangeNothing(t *testing.T) {
	lines := []string{
		"show", "done", "balls", "still", "pieces", "reach", "to a.o/.#.", "to .ao/.#.", "bring a 1", "hard a", "least",
		"put 9 9 o", "put 1 1 a", "to a", "bring b 1", "hard b", "", "fly", "tray", "tilt", "turn 1", "stick x", "put 0 0 g",
	}
	for _, d := range []impl.Desk{impl.FirstDesk(), {Tray: "a.o/.#.", Done: "u"}, {Tray: ".ao/.#.", Done: "rdr"}, {Tray: "a.o/.#.", Done: strings.Repeat("ul", 20)}} {
		for _, line := range lines {
			behind, _, ok := impl.DeskLine(d, line)
			expect(t, fmt.Sprintf("DeskLine %q %q", d, line), []any{behind, ok}, d, true)
		}
	}
	expectScript(t, slices.Concat([]string{"tilt r"}, lines, []string{"done", "show"})...)
}

func TestListsInReplies(t *testing.T) {
	for s, want := range map[string]string{
		".": "-", "#": "-", ".#./...": "-", "o": "0", "f": "0", ".a": "1", "#/#/o": "2", "oo": "0,1", "a.o/.#.": "0,2", "ab/cd/ef": "0,1,2,3,4,5",
		withText(freeText(6, 6), 35, "o"): "35", "oooooo/oooooo": "0,1,2,3,4,5,6,7,8,9,10,11",
	} {
		d := impl.Desk{Tray: s, Done: "u"}
		expectLine(t, d, "balls", d, want)
	}
	for s, want := range map[string][2]string{"a": {"hard a", "0,0"}, ".b": {"hard b", "0,1"}, "a./..": {"hard a", "3,2"}, "a.#/...": {"hard a", "4,2"}, "....../f.....": {"hard f", "5,2"}} {
		d := impl.Desk{Tray: s}
		expectLine(t, d, want[0], d, want[1])
	}
}

func TestWordsInReplies(t *testing.T) {
	for _, c := range []struct{ s, done, line, want string }{
		{"a./..", "", "done", "-"}, {"a./..", "l", "done", "l"}, {"a./..", strings.Repeat("ul", 20), "done", strings.Repeat("ul", 20)},
		{".../.a./...", "", "still", "-"}, {".../.a./...", "urdl", "still", "-"}, {".a.", "", "still", "ud"}, {"a./..", "", "still", "ul"}, {"a", "r", "still", "urdl"}, {".", "", "still", "urdl"}, {"#", "", "still", "urdl"},
		{"a./..", "", "to a./..", "-"}, {"a./..", "ul", "to a./..", "-"}, {".", "", "to .", "-"}, {"a./..", "ul", "to ../.a", "rd"}, {"a./..", "", "to .a/..", "r"},
		{"a./..", "", "bring a 0", "-"}, {"a./..", "r", "bring a 0", "-"}, {"a./..", "", "bring a 3", "rd"}, {"a./..", "", "bring a 2", "d"}, {".a.", "", "bring a 1", "-"},
	} {
		d := impl.Desk{Tray: c.s, Done: c.done}
		expectLine(t, d, c.line, d, c.want)
	}
}

func TestNumbersInReplies(t *testing.T) {
	for s, want := range map[string][2]string{
		".": {"0", "1"}, "#": {"0", "1"}, "o": {"1", "1"}, "a.": {"1", "2"}, "a./..": {"1", "4"}, "oo": {"1", "1"}, "o#o": {"2", "1"}, "o#o#o#o": {"4", "1"}, "o.o": {"2", "3"}, "oo/oo": {"1", "1"}, "o#/#o": {"2", "1"},
	} {
		d := impl.Desk{Tray: s, Done: "u"}
		expectLine(t, d, "pieces", d, want[0])
		expectLine(t, d, "reach", d, want[1])
	}
}

func TestLinesAtTheLimitsOfReachedTrays(t *testing.T) {
	all, more := impl.Desk{Tray: reachesAll, Done: "u"}, impl.Desk{Tray: reachesMore}
	expectLine(t, all, "reach", all, "300")
	expectLine(t, all, "to "+reachesAll, all, "-")
	expectLine(t, all, "bring a 0", all, "-")
	expectRefused(t, more, "no", "reach", "to "+reachesMore, "to "+reachesAll, "bring a 1", "bring a 0", "hard a", "hard b")
	expectLine(t, more, "pieces", more, strconv.Itoa(len(piecesModel(reachesMore))))
	expectLine(t, more, "tilt l", impl.Desk{Tray: reachesAll, Done: "l"}, reachesAll)
	for _, name := range []string{"a", "b"} {
		want, isThere := hardText(reachesAll, []string{"", name})
		expect(t, "the model", []any{isThere}, true)
		expectLine(t, all, "hard "+name, all, want)
	}
	expectScript(t, "tray "+reachesMore, "reach", "to "+reachesAll, "hard a", "tilt l", "reach", "done", "hard a", "to "+reachesMore, "bring a 1")
}

func TestLinesAtTheLimitsOfWords(t *testing.T) {
	far := impl.Desk{Tray: farTray, Done: "u"}
	lengths := map[int]int{}
	for u, word := range firstWords(farTray) {
		lengths[len(word)]++
		if len(word) > 40 {
			expectRefused(t, far, "no", "to "+u)
		} else if len(word) > 38 {
			expectLine(t, far, "to "+u, far, word)
		}
	}
	expect(t, "the model", []any{lengths[40] > 0, lengths[41] > 0}, true, true)
	ball := impl.Desk{Tray: farBallTray, Done: strings.Repeat("r", 40)}
	expectLine(t, ball, "bring c 19", ball, "uldruldruldruldruldruldruldruldruldrurdl")
	expectRefused(t, ball, "no", "bring c 9", "hard c")
	for _, text := range []string{farGoal, farGoalToo} {
		p := puzzleFrom(text)
		d := impl.Desk{Tray: p.Tray}
		expectLine(t, d, "hard "+p.Name, d, strconv.Itoa(p.Goal)+",40")
	}
}

// TestLinesDoWhatTheCallsDo compares each line with the function that the document names for it.
func TestLinesDoWhatTheCallsDo(t *testing.T) {
	for i, d := range sampleDesks() {
		s, word := d.Tray, sampleWords()[1:][i%90]
		asks := func(line, reply string, ok bool) {
			t.Helper()
			if !ok {
				reply = "no"
			} else if reply == "" {
				reply = "-"
			}
			expectLine(t, d, line, d, reply)
		}
		changes := func(line, tray, done string, ok bool) {
			t.Helper()
			if !ok {
				expectRefused(t, d, "no", line)
				return
			}
			expectLine(t, d, line, impl.Desk{Tray: tray, Done: done}, tray)
		}
		turned, ok := impl.TurnTray(s)
		changes("turn", turned, "", ok)
		mirrored, ok := impl.MirrorTray(s)
		changes("mirror", mirrored, "", ok)
		tilted, ok := impl.TiltWord(s, word)
		changes("tilt "+word, tilted, d.Done+word, ok && impl.IsWord(d.Done+word))
		stuck, ok := impl.StickWord(s, word)
		changes("stick "+word, stuck, "", ok)
		for n := range 9 {
			x, y, cell := n*5%8, n*3%8, "#.oabcdef"[n:n+1]
			put, ok := impl.PutAt(s, x, y, cell)
			changes(fmt.Sprintf("put %d %d %s", x, y, cell), put, "", ok)
			brought, ok := impl.WordToCell(s, "abc"[n%3:n%3+1], n*4)
			asks(fmt.Sprintf("bring %s %d", "abc"[n%3:n%3+1], n*4), brought, ok)
		}
		balls, ok := impl.BallsOf(s)
		asks("balls", strings.ReplaceAll(strings.Trim(fmt.Sprint(balls), "[]"), " ", ","), ok)
		still, ok := impl.StillWays(s)
		asks("still", still, ok)
		pieces, ok := impl.CountPieces(s)
		asks("pieces", fmt.Sprint(pieces), ok)
		count, ok := impl.CountReached(s)
		asks("reach", fmt.Sprint(count), ok)
		least, ok := impl.LeastTray(s)
		asks("least", least, ok)
		for _, u := range []string{s, tilted, turned, stuck, "."} {
			to, ok := impl.ShortestWord(s, u)
			asks("to "+u, to, ok)
		}
		for _, name := range strings.Split("abcdef", "") {
			goal, length, ok := impl.HardestGoal(s, name)
			asks("hard "+name, fmt.Sprint(goal)+","+fmt.Sprint(length), ok)
		}
	}
}

func TestManyScripts(t *testing.T) {
	told := map[string]int{}
	for seed := range int64(150) {
		lines := newLineMaker(seed).lines(int(seed*7) % 51)
		if len(scriptOf(lines...)) > 3000 {
			t.Fatal("a script is too great")
		}
		expectScript(t, lines...)
		replies, _, _ := scriptModel(lines)
		for n, line := range lines {
			name, _, _ := strings.Cut(line, " ")
			told[name]++
			told["= "+replies[n]]++
		}
	}
	for _, what := range append([]string{"= no", "= what", "= -"}, linesOfTable()...) {
		name, _, _ := strings.Cut(what, " ")
		if name == "=" {
			name = what
		}
		if told[name] < 20 {
			t.Errorf("%s comes %d times", name, told[name])
		}
	}
}

// TestScriptsGoOn compares a script of two parts with its lines executed on the desk behind the first part.
func TestScriptsGoOn(t *testing.T) {
	for seed := range int64(20) {
		lines := newLineMaker(1000 + seed).lines(30)
		for _, cut := range []int{0, 1, 15, 29, 30} {
			d, ok := impl.DeskAfter(scriptOf(lines[:cut]...))
			expect(t, "DeskAfter", []any{ok, impl.IsDesk(d)}, true, true)
			all, _ := impl.RunScript(scriptOf(lines...))
			for n, line := range lines[cut:] {
				var reply string
				d, reply, ok = impl.DeskLine(d, line)
				expect(t, fmt.Sprintf("DeskLine %q", line), []any{reply, ok}, all[cut+n], true)
			}
			last, _ := impl.DeskAfter(scriptOf(lines...))
			expect(t, "the last desk", []any{d}, last)
		}
	}
}
