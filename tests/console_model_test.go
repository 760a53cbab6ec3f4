package tests

import (
	"math/rand"
	"regexp"
	"slices"
	"strconv"
	"strings"

	"loop.example/g01199/impl"
)

// The model of chapter 10 has a pattern for each line of the document's table, and the models of the other chapters behind them.

const (
	numberPattern = ` (0|[1-9][0-9]{0,5})`
	wordPattern   = ` ([urdl]{1,40})`
	namePattern   = ` ([a-f])`
	trayPattern   = ` ([#.oa-f/]+)`
)

// A consoleRow gives the reply to lines with a pattern, and the desk behind them: false is for no.
type consoleRow struct {
	pattern string
	run     func(d impl.Desk, parts []string) (impl.Desk, string, bool)
}

// byHand is for a line that makes another tray, and forgets what was done.
func byHand(pattern string, change func(s string, parts []string) (string, bool)) consoleRow {
	return consoleRow{pattern, func(d impl.Desk, parts []string) (impl.Desk, string, bool) {
		s, ok := change(d.Tray, parts)
		return impl.Desk{Tray: s}, s, ok
	}}
}

// asked is for a line that changes nothing.
func asked(pattern string, answer func(s string, parts []string) (string, bool)) consoleRow {
	return consoleRow{pattern, func(d impl.Desk, parts []string) (impl.Desk, string, bool) {
		reply, ok := answer(d.Tray, parts)
		if reply == "" {
			reply = "-"
		}
		return d, reply, ok
	}}
}

func consoleRows() []consoleRow {
	always := func(tell func(s string) string) func(string, []string) (string, bool) {
		return func(s string, _ []string) (string, bool) { return tell(s), true }
	}
	return []consoleRow{
		byHand(`tray`+trayPattern, func(_ string, parts []string) (string, bool) { return parts[1], true }),
		byHand(`put`+numberPattern+numberPattern+` ([#.oa-f])`, putModel),
		byHand(`turn`, always(func(s string) string { return eightTrays(s)[6] })),
		byHand(`mirror`, always(func(s string) string { return eightTrays(s)[1] })),
		byHand(`stick`+wordPattern, func(s string, parts []string) (string, bool) { return stickWordModel(s, parts[1]), true }),
		{`tilt` + wordPattern, func(d impl.Desk, parts []string) (impl.Desk, string, bool) {
			s := wordModel(d.Tray, parts[1])
			return impl.Desk{Tray: s, Done: d.Done + parts[1]}, s, len(d.Done)+len(parts[1]) <= 40
		}},
		{`done`, func(d impl.Desk, _ []string) (impl.Desk, string, bool) {
			if d.Done == "" {
				return d, "-", true
			}
			return d, d.Done, true
		}},
		asked(`show`, always(strings.Clone)),
		asked(`balls`, always(ballsText)),
		asked(`still`, always(stillText)),
		asked(`pieces`, always(func(s string) string { return strconv.Itoa(len(piecesModel(s))) })),
		asked(`least`, always(func(s string) string { return slices.Min(eightTrays(s)) })),
		asked(`reach`, func(s string, _ []string) (string, bool) {
			count := countModel(s)
			return strconv.Itoa(count), count <= 300
		}),
		asked(`to`+trayPattern, func(s string, parts []string) (string, bool) {
			word, found := firstWords(s)[parts[1]]
			return word, found && len(word) <= 40
		}),
		asked(`bring`+namePattern+numberPattern, func(s string, parts []string) (string, bool) {
			word, found := firstWordsOfBall(s, parts[1])[parts[2]]
			return word, found && len(word) <= 40
		}),
		asked(`hard`+namePattern, hardText),
	}
}

// consoleModel executes a line on a desk.
func consoleModel(d impl.Desk, line string) (impl.Desk, string) {
	for _, row := range consoleRows() {
		parts := regexp.MustCompile(`^(?:` + row.pattern + `)$`).FindStringSubmatch(line)
		if parts == nil || strings.Contains(row.pattern, trayPattern) && !isTrayModel(parts[1]) {
			continue
		}
		behind, reply, ok := row.run(d, parts)
		if !ok {
			return d, "no"
		}
		return behind, reply
	}
	return d, "what"
}

// scriptModel executes lines on the first desk.
func scriptModel(lines []string) ([]string, impl.Desk, []int) {
	d := impl.Desk{Tray: "a.o/.#."}
	var replies []string
	var failed []int
	for n, line := range lines {
		var reply string
		d, reply = consoleModel(d, line)
		replies = append(replies, reply)
		if reply == "no" || reply == "what" {
			failed = append(failed, n+1)
		}
	}
	return replies, d, failed
}

func scriptOf(lines ...string) string {
	var script strings.Builder
	for _, line := range lines {
		script.WriteString(line + "\n")
	}
	return script.String()
}

func putModel(s string, parts []string) (string, bool) {
	x, _ := strconv.Atoi(parts[1])
	y, _ := strconv.Atoi(parts[2])
	rows := strings.Split(s, "/")
	if y >= len(rows) || x >= len(rows[0]) {
		return "", false
	}
	rows[y] = rows[y][:x] + parts[3] + rows[y][x+1:]
	return checkedModel(strings.Join(rows, "/"))
}

func ballsText(s string) string {
	var numbers []string
	for n, cell := range []byte(cellsOf(s)) {
		if isBallText(cell) {
			numbers = append(numbers, strconv.Itoa(n))
		}
	}
	return strings.Join(numbers, ",")
}

func stillText(s string) string {
	var ways string
	for _, dir := range strings.Split("urdl", "") {
		if tiltModel(s, dir).tray == s {
			ways += dir
		}
	}
	return ways
}

func hardText(s string, parts []string) (string, bool) {
	goal, word := -1, ""
	for text, shortest := range firstWordsOfBall(s, parts[1]) {
		cell, _ := strconv.Atoi(text)
		if goal < 0 || len(shortest) > len(word) || len(shortest) == len(word) && cell < goal {
			goal, word = cell, shortest
		}
	}
	return strconv.Itoa(goal) + "," + strconv.Itoa(len(word)), goal >= 0 && len(word) <= 40
}

// firstWords returns the first one of the shortest words to each tray that is reached, and nothing if these are more than 300.
// The words come in their order, so that the first one to a tray is the one to keep.
func firstWords(s string) map[string]string {
	words := map[string]string{s: ""}
	for queue := []string{s}; len(queue) > 0; queue = queue[1:] {
		for _, dir := range strings.Split("urdl", "") {
			next := tiltModel(queue[0], dir).tray
			if _, found := words[next]; !found {
				words[next] = words[queue[0]] + dir
				queue = append(queue, next)
			}
		}
		if len(words) > 300 {
			return nil
		}
	}
	return words
}

// firstWordsOfBall has the numbers of cells as texts.
func firstWordsOfBall(s, name string) map[string]string {
	first := map[string]string{}
	for u, word := range firstWords(s) {
		cell := strings.Index(cellsOf(u), name)
		if cell < 0 {
			continue
		}
		text := strconv.Itoa(cell)
		if known, found := first[text]; !found || compareWords(word, known) < 0 {
			first[text] = word
		}
	}
	return first
}

// A lineMaker makes lines with a fixed seed.
type lineMaker struct {
	numbers *rand.Rand
	trays   []string
}

func newLineMaker(seed int64) lineMaker {
	return lineMaker{rand.New(rand.NewSource(seed)), slices.Concat(knownReached(), knownSticks(), greatTrays()[4:24], allTrays(3, 1, "#.oab"), allTrays(2, 2, ".oa"))}
}

func (m lineMaker) oneOf(texts ...string) string {
	return texts[m.numbers.Intn(len(texts))]
}

func (m lineMaker) word() string {
	word := m.oneOf("u", "r", "d", "l")
	for m.numbers.Intn(4) > 0 && len(word) < 15 {
		word += m.oneOf("u", "r", "d", "l")
	}
	return word
}

func (m lineMaker) number() string {
	return m.oneOf("0", "1", "2", "3", "4", strconv.Itoa(m.numbers.Intn(40)))
}

func (m lineMaker) name() string {
	return m.oneOf("a", "a", "b", "c", "f")
}

// line returns a line of the document's table on a desk, which may fail.
func (m lineMaker) line(d impl.Desk) string {
	switch m.numbers.Intn(9) {
	case 0:
		return "tray " + m.oneOf(m.trays...)
	case 1:
		return "put " + m.number() + " " + m.number() + " " + m.oneOf(".", "#", "o", "a", "b", "c")
	case 2:
		return m.oneOf("turn", "mirror")
	case 3, 4:
		return "tilt " + m.word()
	case 5:
		return "stick " + m.word()
	case 6:
		return "to " + m.oneOf(wordModel(d.Tray, m.word()), wordModel(d.Tray, m.word()), m.oneOf(m.trays...))
	case 7:
		return m.oneOf("bring "+m.name()+" "+m.number(), "hard "+m.name())
	}
	return m.oneOf("show", "done", "balls", "still", "pieces", "reach", "least")
}

// spoiltLine changes, adds or takes a byte.
func (m lineMaker) spoiltLine(d impl.Desk) string {
	line := m.line(d)
	at := m.numbers.Intn(len(line))
	put := m.oneOf("", " ", "  ", "0", "9", "a", "o", "u", "x", "/", ".", "-", "+", "T", "\t", "\x00", "é")
	return line[:at] + put + line[at+m.numbers.Intn(2):]
}

// lines returns so many lines, each made for the desk behind the lines ahead of it; one of five is spoilt.
func (m lineMaker) lines(count int) []string {
	d := impl.Desk{Tray: "a.o/.#."}
	var lines []string
	for range count {
		line := m.line(d)
		if m.numbers.Intn(5) == 0 {
			line = m.spoiltLine(d)
		}
		lines = append(lines, line)
		d, _ = consoleModel(d, line)
	}
	return lines
}
