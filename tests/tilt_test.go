package tests

import (
	"fmt"
	"reflect"
	"slices"
	"strings"
	"testing"

	"loop.example/g01199/impl"
)

// The tests of promise 2: tilts keep balls in their order, words and periods follow, and trays before are counted.

func TestLimitOfWords(t *testing.T) {
	expect(t, "MaxWord", []any{impl.MaxWord}, 40)
}

func TestExampleOfTilts(t *testing.T) {
	right, ok := impl.TiltTray("a.o/.#.", "r")
	expect(t, "TiltTray", []any{right, ok}, ".ao/.#.", true)
	down, ok := impl.TiltTray(right, "d")
	expect(t, "TiltTray", []any{down, ok}, ".a./.#o", true)
	both, ok := impl.TiltWord("a.o/.#.", "rd")
	expect(t, "TiltWord", []any{both, ok}, ".a./.#o", true)
	still, ok := impl.StillWays("a.o/.#.")
	expect(t, "StillWays", []any{still, ok}, "u", true)
	stretches, ok := impl.StretchesOf("a.o/.#.", "r")
	expect(t, "StretchesOf", []any{stretches, ok}, [][]int{{2, 1, 0}, {3}, {5}}, true)
}

func TestIsWord(t *testing.T) {
	for _, word := range append(sampleWords(), "", "u", "r", "d", "l", "ruld", strings.Repeat("l", 40)) {
		if !impl.IsWord(word) {
			t.Errorf("IsWord(%q) is false", word)
		}
	}
	for _, word := range notWords() {
		if impl.IsWord(word) {
			t.Errorf("IsWord(%q) is true", word)
		}
	}
	for c := range 256 {
		for _, word := range []string{string([]byte{byte(c)}), string([]byte{'u', byte(c), 'l'})} {
			if got := impl.IsWord(word); got != isWordModel(word) {
				t.Errorf("IsWord(%q) is %v", word, got)
			}
		}
	}
	for length := range 100 {
		if got := impl.IsWord(strings.Repeat("d", length)); got != (length <= 40) {
			t.Errorf("IsWord of %d directions is %v", length, got)
		}
	}
}

func TestTiltsAndSteps(t *testing.T) {
	for _, s := range sampleTrays() {
		for _, dir := range []string{"u", "r", "d", "l"} {
			what := s + " " + dir
			told := tiltModel(s, dir)
			tray, ok := impl.TiltTray(s, dir)
			expect(t, "TiltTray "+what, []any{tray, ok}, told.tray, true)
			next, _ := stepModel(s, dir)
			tray, ok = impl.StepTray(s, dir)
			expect(t, "StepTray "+what, []any{tray, ok}, next, true)
			n, ok := impl.StepsOfTilt(s, dir)
			expect(t, "StepsOfTilt "+what, []any{n, ok}, told.steps, true)
			n, ok = impl.MovedBalls(s, dir)
			expect(t, "MovedBalls "+what, []any{n, ok}, told.balls, true)
			n, ok = impl.MovedCells(s, dir)
			expect(t, "MovedCells "+what, []any{n, ok}, told.cells, true)
		}
	}
}

func TestTiltsOfKnownTrays(t *testing.T) {
	for _, c := range []struct{ s, dir, tilted, stepped string }{
		{"a.b.c..", "r", "....abc", ".a.b.c."},
		{"a.b.c..", "l", "abc....", "ab.c..."},
		{"a/./b/./c", "d", "././a/b/c", "./a/./b/c"},
		{"././a/./b", "u", "a/b/././.", "./a/./b/."},
		{"a.#.b", "r", ".a#.b", ".a#.b"},
		{"a.#.b", "l", "a.#b.", "a.#b."},
		{"ab.o", "r", ".abo", ".abo"},
		{"oo..oo.", "r", "...oooo", ".oo..oo"},
		{".o.o..o", "l", "ooo....", "o.o..o."},
		{"o.b#a.o", "l", "ob.#ao.", "ob.#ao."},
		{"a", "u", "a", "a"}, {".", "r", ".", "."}, {"#", "d", "#", "#"},
		{"a#/#b", "r", "a#/#b", "a#/#b"},
		{"ab/../cd", "d", "../ab/cd", "../ab/cd"},
	} {
		got, ok := impl.TiltTray(c.s, c.dir)
		expect(t, "TiltTray "+c.s+" "+c.dir, []any{got, ok}, c.tilted, true)
		got, ok = impl.StepTray(c.s, c.dir)
		expect(t, "StepTray "+c.s+" "+c.dir, []any{got, ok}, c.stepped, true)
	}
}

func TestNumbersOfKnownTilts(t *testing.T) {
	for _, c := range []struct {
		s, dir              string
		steps, balls, cells int
	}{
		{"a.b.c..", "r", 4, 3, 9}, {"a.b.c..", "l", 2, 2, 3}, {"a.b.c..", "u", 0, 0, 0},
		{"a......", "r", 6, 1, 6}, {"oooooo.", "r", 1, 6, 6}, {"oooooo.", "l", 0, 0, 0},
		{"a.#.b", "r", 1, 1, 1}, {"#", "r", 0, 0, 0}, {".", "r", 0, 0, 0},
		{"a../.b./..c", "l", 2, 2, 3}, {"a../.b./..c", "d", 2, 2, 3}, {"ab.o", "r", 1, 2, 2},
	} {
		steps, ok := impl.StepsOfTilt(c.s, c.dir)
		expect(t, "StepsOfTilt "+c.s+" "+c.dir, []any{steps, ok}, c.steps, true)
		balls, ok := impl.MovedBalls(c.s, c.dir)
		expect(t, "MovedBalls "+c.s+" "+c.dir, []any{balls, ok}, c.balls, true)
		cells, ok := impl.MovedCells(c.s, c.dir)
		expect(t, "MovedCells "+c.s+" "+c.dir, []any{cells, ok}, c.cells, true)
	}
}

// TestTiltsKeepBallsInOrder reads the balls along each stretch, which a tilt leaves as they are.
func TestTiltsKeepBallsInOrder(t *testing.T) {
	for _, s := range sampleTrays() {
		for _, dir := range []string{"u", "r", "d", "l"} {
			tilted, ok := impl.TiltTray(s, dir)
			before, after := strings.ReplaceAll(s, "/", ""), strings.ReplaceAll(tilted, "/", "")
			for _, stretch := range stretchesModel(s, dir) {
				var was, is string
				for _, n := range stretch {
					was += before[n : n+1]
					is += after[n : n+1]
				}
				balls := strings.ReplaceAll(was, ".", "")
				if want := balls + strings.Repeat(".", len(was)-len(balls)); is != want || !ok {
					t.Errorf("TiltTray(%q, %q) makes %q of the stretch %q", s, dir, is, was)
				}
			}
			again, ok := impl.TiltTray(tilted, dir)
			expect(t, "TiltTray twice "+s+" "+dir, []any{again, ok}, tilted, true)
		}
	}
}

func TestStepsMakeATilt(t *testing.T) {
	for _, s := range sampleTrays() {
		for _, dir := range []string{"u", "r", "d", "l"} {
			tilted, _ := impl.TiltTray(s, dir)
			fewest, _ := impl.StepsOfTilt(s, dir)
			u := s
			for n := range fewest {
				if u == tilted {
					t.Errorf("StepsOfTilt(%q, %q) is %d, but %d do", s, dir, fewest, n)
				}
				u, _ = impl.StepTray(u, dir)
			}
			if u != tilted {
				t.Errorf("%d steps make %q of %q, not %q", fewest, u, s, tilted)
			}
		}
	}
}

func TestWordsAreTiltsOneAfterTheOther(t *testing.T) {
	for _, s := range slices.Concat(allTrays(2, 2, "#.oa"), allTrays(3, 2, ".a"), greatTrays()) {
		for _, word := range sampleWords() {
			got, ok := impl.TiltWord(s, word)
			expect(t, "TiltWord "+s+" "+word, []any{got, ok}, wordModel(s, word), true)
		}
	}
	for _, s := range sampleTrays() {
		got, ok := impl.TiltWord(s, "")
		expect(t, "TiltWord without directions "+s, []any{got, ok}, s, true)
	}
}

func TestLimitOfTiltWord(t *testing.T) {
	got, ok := impl.TiltWord("a./..", strings.Repeat("urdl", 10))
	expect(t, "TiltWord with MaxWord directions", []any{got, ok}, "../a.", true)
	got, ok = impl.TiltWord("a./..", strings.Repeat("urdl", 10)+"u")
	expect(t, "TiltWord with one direction more", []any{got, ok}, "", false)
}

func TestStillWays(t *testing.T) {
	for s, want := range map[string]string{
		".": "urdl", "#": "urdl", "a": "urdl", "..": "urdl", "oo/oo": "urdl", "a#/#b": "urdl",
		"ab": "urdl", "a.": "udl", ".a": "urd", "a./..": "ul", "../.a": "rd", ".a/..": "ur", "../a.": "dl",
		".../.a./...": "", ".o./o.o/.o.": "", "#a#": "urdl", "a.o/.#.": "u", ".a.": "ud", "./a/.": "rl",
	} {
		got, ok := impl.StillWays(s)
		expect(t, "StillWays "+s, []any{got, ok}, want, true)
	}
	for _, s := range sampleTrays() {
		want := ""
		for _, dir := range []string{"u", "r", "d", "l"} {
			if _, moved := stepModel(s, dir); moved == 0 {
				want += dir
			}
		}
		got, ok := impl.StillWays(s)
		expect(t, "StillWays "+s, []any{got, ok}, want, true)
	}
}

func TestStretches(t *testing.T) {
	for _, s := range sampleTrays() {
		for _, dir := range []string{"u", "r", "d", "l"} {
			want := stretchesModel(s, dir)
			got, ok := impl.StretchesOf(s, dir)
			if !ok || len(got) != len(want) || len(got) > 0 && !reflect.DeepEqual(got, want) {
				t.Errorf("StretchesOf(%q, %q) is %v, %v and should be %v", s, dir, got, ok, want)
			}
		}
	}
}

func TestStretchesOfKnownTrays(t *testing.T) {
	for _, c := range []struct {
		s, dir string
		want   [][]int
	}{
		{"a.o/.#.", "l", [][]int{{0, 1, 2}, {3}, {5}}},
		{"a.o/.#.", "u", [][]int{{0, 3}, {1}, {2, 5}}},
		{"a.o/.#.", "d", [][]int{{3, 0}, {1}, {5, 2}}},
		{".", "d", [][]int{{0}}},
		{".#/#.", "r", [][]int{{0}, {3}}},
		{".#./.../.#.", "d", [][]int{{6, 3, 0}, {8, 5, 2}, {4}}},
		{"..#..", "r", [][]int{{1, 0}, {4, 3}}},
		{"#./.#/..", "u", [][]int{{1}, {2, 4}, {5}}},
		{".......", "r", [][]int{{6, 5, 4, 3, 2, 1, 0}}},
	} {
		got, ok := impl.StretchesOf(c.s, c.dir)
		expect(t, "StretchesOf "+c.s+" "+c.dir, []any{got, ok}, c.want, true)
	}
	got, ok := impl.StretchesOf("##/##", "u")
	if len(got) != 0 || !ok {
		t.Errorf("StretchesOf walls alone is %v, %v", got, ok)
	}
}

// TestTraysBeforeAreCounted tilts all trays of a size and counts which ones they become.
func TestTraysBeforeAreCounted(t *testing.T) {
	for _, trays := range [][]string{
		allTrays(1, 1, "#.oab"), allTrays(5, 1, "#.oab"), allTrays(1, 5, "#.oab"), allTrays(2, 2, "#.oabc"),
		allTrays(7, 1, "#.o"), allTrays(1, 7, "#.o"), allTrays(3, 2, "#.oa"), allTrays(2, 3, "#.ab"), allTrays(3, 3, ".a"),
		allTrays(3, 3, ".o"), allTrays(4, 3, ".o"),
	} {
		for _, dir := range []string{"u", "r", "d", "l"} {
			become := map[string]int{}
			for _, s := range trays {
				become[tiltModel(s, dir).tray]++
			}
			for _, s := range trays {
				got, ok := impl.CountBefore(s, dir)
				expect(t, "CountBefore "+s+" "+dir, []any{got, ok}, become[s], true)
			}
		}
	}
}

func TestTraysBeforeKnownOnes(t *testing.T) {
	for _, c := range []struct {
		s, dir string
		want   int
	}{
		{".ao/.#.", "r", 3}, {".ao/.#.", "l", 0}, {".ao/.#.", "d", 0}, {".ao/.#.", "u", 2},
		{".", "u", 1}, {"#", "u", 1}, {"a", "u", 1}, {"oooo...", "l", 35}, {"abc....", "l", 35},
		{"ooo.../ooo.../ooo.../ooo.../ooo.../ooo...", "l", 64000000},
		{"ooo.../ooo.../ooo.../ooo.../ooo.../ooo...", "u", 1},
		{"oooo.../oooo.../oooo.../oooo.../oooo...", "l", 52521875},
	} {
		got, ok := impl.CountBefore(c.s, c.dir)
		expect(t, "CountBefore "+c.s+" "+c.dir, []any{got, ok}, c.want, true)
	}
}

func TestPathsOfBalls(t *testing.T) {
	words := sampleWords()
	for i, s := range slices.Concat(allTrays(2, 2, "#.oab"), greatTrays()) {
		for j := i % 7; j < len(words); j += 7 {
			for _, name := range []string{"a", "b", "c", "d", "e", "f"} {
				var want []int
				for end := 0; end <= len(words[j]) && strings.Contains(s, name); end++ {
					tray := wordModel(s, words[j][:end])
					want = append(want, strings.Index(strings.ReplaceAll(tray, "/", ""), name))
				}
				got, ok := impl.PathOfBall(s, name, words[j])
				if ok != (want != nil) || !slices.Equal(got, want) {
					t.Errorf("PathOfBall(%q, %q, %q) is %v, %v and should be %v", s, name, words[j], got, ok, want)
				}
			}
		}
	}
}

func TestPathsOfKnownBalls(t *testing.T) {
	for _, c := range []struct {
		s, name, word string
		want          []int
	}{
		{"a.o/.#.", "a", "rd", []int{0, 1, 1}},
		{"a.o/.#.", "a", "", []int{0}},
		{"../.b", "b", "", []int{3}},
		{"a./..", "a", "rdlu", []int{0, 1, 3, 2, 0}},
		{"a./..", "a", "uull", []int{0, 0, 0, 0, 0}},
		{"a./..", "a", strings.Repeat("rl", 20), slices.Concat([]int{0}, slices.Repeat([]int{1, 0}, 20))},
	} {
		got, ok := impl.PathOfBall(c.s, c.name, c.word)
		expect(t, "PathOfBall "+c.s+" "+c.name+" "+c.word, []any{got, ok}, c.want, true)
	}
}

func TestPeriods(t *testing.T) {
	for _, s := range slices.Concat(allTrays(2, 2, "#.oa"), allTrays(3, 2, ".oa")[:100], greatTrays()) {
		for _, word := range sampleWords()[1:] {
			before, again := periodModel(s, word)
			if before+again > 200 {
				before, again = 0, 0
			}
			gotBefore, gotAgain, ok := impl.PeriodOfWord(s, word)
			expect(t, "PeriodOfWord "+s+" "+word, []any{gotBefore, gotAgain, ok}, before, again, again > 0)
		}
	}
}

func TestPeriodsOfKnownWords(t *testing.T) {
	for _, c := range []struct {
		s, word       string
		before, again int
	}{
		{"a./..", "rdlu", 0, 1}, {"../.a", "rdlu", 1, 1}, {".", "u", 0, 1}, {"a.", "l", 0, 1}, {".a", "l", 1, 1},
		{"ab./...", "rdlu", 0, 1}, {".a./...", "rdlu", 1, 1}, {"a./..", "r", 1, 1}, {"a.", "rl", 0, 1},
	} {
		before, again, ok := impl.PeriodOfWord(c.s, c.word)
		expect(t, "PeriodOfWord "+c.s+" "+c.word, []any{before, again, ok}, c.before, c.again, true)
	}
}

// TestLimitOfPeriods has trays for which both numbers together are close to 200: the models tell them.
func TestLimitOfPeriods(t *testing.T) {
	for _, c := range []struct {
		s, word       string
		before, again int
	}{
		{"b.o#oo/ooooo./.oo.../aood.o/ooo.ec/.#...f", "lurrd", 1, 198},
		{"obfad/o.eo#/.oo##/..co./.oooo/#o...", "ldurdd", 2, 198},
		{".of../dooo./oob##/o..oo/.o.oo/...ec/o..oa", "durddl", 3, 198},
		{"#e.o.o/..oo.d/ooooo./oo.a../fc#.bo/..o.o.", "lrlrldlrllru", 3, 200},
		{"oo.oo/ooo.o/...ao/#oeo./c.bod/.fo../oo.oo", "rdlludu", 1, 208},
		{".ocoooo/bofd.o#/ooo.o.o/o..oo../.eo.#oa", "ddulrdlrrl", 2, 1890},
	} {
		before, again := periodModel(c.s, c.word)
		expect(t, "the model for "+c.s, []any{before, again}, c.before, c.again)
		wantOk := before+again <= 200
		if !wantOk {
			before, again = 0, 0
		}
		gotBefore, gotAgain, ok := impl.PeriodOfWord(c.s, c.word)
		expect(t, "PeriodOfWord "+c.s+" "+c.word, []any{gotBefore, gotAgain, ok}, before, again, wantOk)
	}
}

func TestShortWords(t *testing.T) {
	for word, want := range map[string]string{
		"": "", "u": "u", "uu": "u", "rrdd": "rd", "ururu": "ururu", "uuruu": "uru", "urdl": "urdl",
		"llllldllll": "ldl", strings.Repeat("u", 40): "u", strings.Repeat("udud", 10): strings.Repeat("ud", 20),
	} {
		got, ok := impl.ShortWord(word)
		expect(t, "ShortWord "+word, []any{got, ok}, want, true)
	}
	for _, word := range sampleWords() {
		want := word
		for _, dir := range []string{"u", "r", "d", "l"} {
			for strings.Contains(want, dir+dir) {
				want = strings.ReplaceAll(want, dir+dir, dir)
			}
		}
		short, ok := impl.ShortWord(word)
		expect(t, "ShortWord "+word, []any{short, ok}, want, true)
		for _, s := range greatTrays() {
			same, ok := impl.AreSameWords(s, word, short)
			expect(t, "AreSameWords "+s+" "+word+" "+short, []any{same, ok}, true, true)
		}
	}
}

func TestOppositeAndTurnedWords(t *testing.T) {
	for word, want := range map[string]string{"": "", "u": "d", "r": "l", "d": "u", "l": "r", "urrdll": "dllurr"} {
		got, ok := impl.OppositeWord(word)
		expect(t, "OppositeWord "+word, []any{got, ok}, want, true)
	}
	for k, want := range []string{"urdl", "rdlu", "dlur", "lurd"} {
		got, ok := impl.TurnWord("urdl", k)
		expect(t, "TurnWord", []any{got, ok}, want, true)
	}
	for _, word := range sampleWords() {
		for k := range 4 {
			got, ok := impl.TurnWord(word, k)
			expect(t, fmt.Sprint("TurnWord ", word, k), []any{got, ok}, turnedModel(word, k), true)
		}
		got, ok := impl.OppositeWord(word)
		expect(t, "OppositeWord "+word, []any{got, ok}, turnedModel(word, 2), true)
		got, ok = impl.OppositeWord(got)
		expect(t, "OppositeWord twice "+word, []any{got, ok}, word, true)
	}
}

// TestTurnedWordsDoTheSameToTurnedTrays turns a tray before and behind a word.
func TestTurnedWordsDoTheSameToTurnedTrays(t *testing.T) {
	for _, s := range slices.Concat(allTrays(2, 2, "#.oa"), greatTrays()) {
		for _, word := range sampleWords() {
			behind, _ := impl.TiltWord(s, word)
			before := s
			for k := range 4 {
				turnedWord, _ := impl.TurnWord(word, k)
				got, ok := impl.TiltWord(before, turnedWord)
				expect(t, fmt.Sprint("TiltWord ", before, " ", turnedWord), []any{got, ok}, behind, true)
				before, _ = impl.TurnTray(before)
				behind, _ = impl.TurnTray(behind)
			}
		}
	}
}

func TestAreSameWords(t *testing.T) {
	for _, c := range []struct {
		s, v, w string
		want    bool
	}{
		{"a./..", "rd", "dr", true}, {"a./..", "r", "d", false}, {"a./..", "", "ul", true}, {"a./..", "", "r", false},
		{"a./..", "", "", true}, {".", "u", "rdl", true}, {"ab/..", "rd", "d", true}, {"ab/..", "d", "u", false},
		{"a.o/.#.", "rd", "dr", false}, {"o./.o", "ru", "ur", false}, {"oo/..", "d", "rd", true},
	} {
		got, ok := impl.AreSameWords(c.s, c.v, c.w)
		expect(t, "AreSameWords "+c.s+" "+c.v+" "+c.w, []any{got, ok}, c.want, true)
	}
	words := sampleWords()[:21]
	for _, s := range slices.Concat(allTrays(2, 2, ".oa"), allTrays(3, 1, "#.ab"), greatTrays()) {
		for _, v := range words {
			for _, w := range words {
				got, ok := impl.AreSameWords(s, v, w)
				expect(t, "AreSameWords "+s+" "+v+" "+w, []any{got, ok}, wordModel(s, v) == wordModel(s, w), true)
			}
		}
	}
}
