package tests

import (
	"fmt"
	"maps"
	"slices"
	"strings"
	"testing"

	"loop.example/g01199/impl"
)

// The tests of promise 3: trays that are reached are closed under tilts, and shortest words are shortest.

func TestLimitOfReachedTrays(t *testing.T) {
	expect(t, "MaxReached", []any{impl.MaxReached}, 300)
}

func TestExampleOfReachedTrays(t *testing.T) {
	n, ok := impl.CountReached("a.")
	expect(t, "CountReached", []any{n, ok}, 2, true)
	trays, ok := impl.ReachedTrays("a.")
	expect(t, "ReachedTrays", []any{trays, ok}, []string{".a", "a."}, true)
	n, ok = impl.CountReached("a./..")
	expect(t, "CountReached", []any{n, ok}, 4, true)
	for u, want := range map[string]int{"a./..": 0, ".a/..": 1, "../a.": 1, "../.a": 2} {
		n, ok = impl.DistanceTo("a./..", u)
		expect(t, "DistanceTo "+u, []any{n, ok}, want, true)
	}
	word, ok := impl.ShortestWord("a./..", "../.a")
	expect(t, "ShortestWord", []any{word, ok}, "rd", true)
	n, ok = impl.CountShortest("a./..", "../.a")
	expect(t, "CountShortest", []any{n, ok}, 2, true)
	classes, ok := impl.ClassesReached("a./..")
	expect(t, "ClassesReached", []any{classes, ok}, [][]string{{"../.a", "../a.", ".a/..", "a./.."}}, true)
}

// TestReachedAlone has trays that no tilt changes.
func TestReachedAlone(t *testing.T) {
	for _, s := range []string{"#", ".", "a", "o", "ab", "..", "a#/#b", "oo/oo", "##/##", "#a#", freeText(6, 6)} {
		n, ok := impl.CountReached(s)
		expect(t, "CountReached "+s, []any{n, ok}, 1, true)
		trays, ok := impl.ReachedTrays(s)
		expect(t, "ReachedTrays "+s, []any{trays, ok}, []string{s}, true)
		is, ok := impl.IsReached(s, s)
		expect(t, "IsReached "+s, []any{is, ok}, true, true)
		n, ok = impl.DistanceTo(s, s)
		expect(t, "DistanceTo "+s, []any{n, ok}, 0, true)
		word, ok := impl.ShortestWord(s, s)
		expect(t, "ShortestWord "+s, []any{word, ok}, "", true)
		n, ok = impl.CountShortest(s, s)
		expect(t, "CountShortest "+s, []any{n, ok}, 1, true)
		n, farthest, ok := impl.FarthestOf(s)
		expect(t, "FarthestOf "+s, []any{n, farthest, ok}, 0, s, true)
		layers, ok := impl.LayersOf(s)
		expect(t, "LayersOf "+s, []any{layers, ok}, []int{1}, true)
		is, ok = impl.AreMutual(s, s)
		expect(t, "AreMutual "+s, []any{is, ok}, true, true)
		classes, ok := impl.ClassesReached(s)
		expect(t, "ClassesReached "+s, []any{classes, ok}, [][]string{{s}}, true)
		lasting, ok := impl.LastingTrays(s)
		expect(t, "LastingTrays "+s, []any{lasting, ok}, []string{s}, true)
	}
}

func TestReachedTraysAreClosedUnderTilts(t *testing.T) {
	for _, s := range sampleReached() {
		trays, ok := impl.ReachedTrays(s)
		if !ok || !slices.Contains(trays, s) || !slices.IsSorted(trays) {
			t.Errorf("ReachedTrays(%q) is %q, %v", s, trays, ok)
		}
		for _, u := range trays {
			for _, dir := range []string{"u", "r", "d", "l"} {
				next, _ := impl.TiltTray(u, dir)
				if _, found := slices.BinarySearch(trays, next); !found {
					t.Errorf("ReachedTrays(%q) has %q, but not %q", s, u, next)
				}
			}
		}
	}
}

// TestReachedTrays holds what is told of all trays that a tray reaches against the model.
func TestReachedTrays(t *testing.T) {
	for _, s := range sampleReached() {
		told := reachModel(s)
		n, ok := impl.CountReached(s)
		expect(t, "CountReached "+s, []any{n, ok}, len(told.words), true)
		trays, ok := impl.ReachedTrays(s)
		expect(t, "ReachedTrays "+s, []any{trays, ok}, told.trays(), true)
		all, greatest := told.farthest()
		n, farthest, ok := impl.FarthestOf(s)
		expect(t, "FarthestOf "+s, []any{n, farthest, ok}, greatest, all[0], true)
		layers, ok := impl.LayersOf(s)
		expect(t, "LayersOf "+s, []any{layers, ok}, told.layers(), true)
		classes, ok := impl.ClassesReached(s)
		expect(t, "ClassesReached "+s, []any{classes, ok}, told.classes(), true)
		lasting, ok := impl.LastingTrays(s)
		if want := told.lasting(); !ok || !slices.Equal(lasting, want) {
			t.Errorf("LastingTrays(%q) is %q, %v and should be %q", s, lasting, ok, want)
		}
	}
}

// TestShortestWords makes each word, too: it leads to the tray, and no shorter one does.
// Of many trays that are reached it takes some.
func TestShortestWords(t *testing.T) {
	for _, s := range sampleReached() {
		told := reachModel(s)
		trays := told.trays()
		for n := 0; n < len(trays); n += 1 + len(trays)/40 {
			u := trays[n]
			expectWords(t, s, u, told.words[u])
			if word, ok := impl.ShortestWord(s, u); ok {
				made, ok := impl.TiltWord(s, word)
				expect(t, "TiltWord "+s+" "+word, []any{made, ok}, u, true)
			}
		}
	}
}

// TestPairsOfTrays asks for trays that are not reached as well.
func TestPairsOfTrays(t *testing.T) {
	trays := slices.Concat(allTrays(2, 2, "#.a"), allTrays(3, 1, ".oa"), allTrays(1, 3, ".a"), allTrays(3, 3, ".a")[:10])
	told := map[string]reachTold{}
	for _, s := range trays {
		told[s] = reachModel(s)
	}
	for _, s := range trays {
		for _, u := range trays {
			words, back := told[s].words[u], told[u].words[s]
			expectWords(t, s, u, words)
			is, ok := impl.AreMutual(s, u)
			expect(t, "AreMutual "+s+" "+u, []any{is, ok}, len(words) > 0 && len(back) > 0, true)
		}
	}
}

// expectWords holds what is told of shortest words against all of them: none if s does not reach u.
func expectWords(t *testing.T, s, u string, words []string) {
	t.Helper()
	what := s + " " + u
	reaches, first := len(words) > 0, ""
	if reaches {
		first = words[0]
	}
	is, ok := impl.IsReached(s, u)
	expect(t, "IsReached "+what, []any{is, ok}, reaches, true)
	n, ok := impl.DistanceTo(s, u)
	expect(t, "DistanceTo "+what, []any{n, ok}, len(first), reaches)
	n, ok = impl.CountShortest(s, u)
	expect(t, "CountShortest "+what, []any{n, ok}, len(words), reaches)
	if len(first) > 40 {
		reaches, first = false, ""
	}
	word, ok := impl.ShortestWord(s, u)
	expect(t, "ShortestWord "+what, []any{word, ok}, first, reaches)
}

func TestTraysThatAreNotReached(t *testing.T) {
	for _, c := range []struct{ s, u string }{
		{"a./..", ".#/a."}, {"a./..", "b./.."}, {"a./..", "ab/.."}, {"a./..", "a..."}, {"a.", "a./.."}, {"a.", "."},
		{"a./..", "o./.."}, {"ab.", ".ba"}, {".../.a./...", "a.#/.../..."}, {".a/..", "a"}, {"a..", ".a."},
		{"..a/.../...", ".../.a./..."}, {"a#./.#.", ".#a/.#."},
	} {
		is, ok := impl.IsReached(c.s, c.u)
		expect(t, "IsReached "+c.s+" "+c.u, []any{is, ok}, false, true)
		is, ok = impl.AreMutual(c.s, c.u)
		expect(t, "AreMutual "+c.s+" "+c.u, []any{is, ok}, false, true)
		is, ok = impl.AreMutual(c.u, c.s)
		expect(t, "AreMutual "+c.u+" "+c.s, []any{is, ok}, false, true)
		failsWithZeros(t, "DistanceTo", c.s, c.u)
		failsWithZeros(t, "ShortestWord", c.s, c.u)
		failsWithZeros(t, "CountShortest", c.s, c.u)
	}
}

func TestTraysThatReachExactlyTheLimit(t *testing.T) {
	expect(t, "the model", []any{len(reachModel(reachesAll).words), len(reachModel(reachesMore).words)}, 300, 301)
	n, ok := impl.CountReached(reachesAll)
	expect(t, "CountReached", []any{n, ok}, 300, true)
	trays, ok := impl.ReachedTrays(reachesAll)
	expect(t, "ReachedTrays", []any{len(trays), ok}, 300, true)
	for _, s := range []string{"a..boo#/.#.#.#c", "#.###/#oo../ab.#.", "##./.../.../oa#/.ob"} {
		expect(t, "the model "+s, []any{countModel(s)}, 300)
		n, ok := impl.CountReached(s)
		expect(t, "CountReached "+s, []any{n, ok}, 300, true)
	}
}

func TestTraysThatReachMore(t *testing.T) {
	for _, s := range []string{reachesMore, "o.#/.o#/.ab/.oo", "oa.o/oob./o###", "...o../.oa..b/.c...o/do#o../.e#.f."} {
		expect(t, "the model "+s, []any{countModel(s)}, 301)
		for _, name := range []string{"CountReached", "ReachedTrays", "FarthestOf", "LayersOf", "ClassesReached", "LastingTrays"} {
			failsWithZeros(t, name, s)
		}
		near, _ := impl.TiltTray(s, "l")
		for _, name := range functionsOfTwoTrays() {
			failsWithZeros(t, name, s, s)
			failsWithZeros(t, name, s, near)
			failsWithZeros(t, name, s, ".")
		}
		at := strings.Index(strings.ReplaceAll(s, "/", ""), "a")
		failsWithZeros(t, "WordToCell", s, "a", at)
		failsWithZeros(t, "WordToCell", s, "a", 0)
		failsWithZeros(t, "CellsOfBall", s, "a")
	}
}

// TestOnlyTheSecondTrayReachesTooMany has a first tray that the second one reaches, and others.
func TestOnlyTheSecondTrayReachesTooMany(t *testing.T) {
	next, ok := impl.TiltTray(reachesMore, "l")
	expect(t, "TiltTray", []any{next, ok}, reachesAll, true)
	for _, s := range []string{reachesAll, ".a..ob/#.#.#o", ".", "a./..", "#"} {
		is, ok := impl.IsReached(s, reachesMore)
		expect(t, "IsReached "+s, []any{is, ok}, false, true)
		failsWithZeros(t, "AreMutual", s, reachesMore)
		failsWithZeros(t, "AreMutual", reachesMore, s)
		failsWithZeros(t, "DistanceTo", s, reachesMore)
		failsWithZeros(t, "ShortestWord", s, reachesMore)
		failsWithZeros(t, "CountShortest", s, reachesMore)
		failsWithZeros(t, "IsReached", reachesMore, s)
	}
}

func TestWordsOfExactlyMaxWordDirections(t *testing.T) {
	distances := map[int]int{}
	for u, words := range reachModel(farTray).words {
		distances[len(words[0])]++
		expectWords(t, farTray, u, words)
	}
	expect(t, "trays at the distances 40, 41 and 42", []any{distances[40], distances[41], distances[42]}, 2, 1, 0)
	n, farthest, ok := impl.FarthestOf(farTray)
	expect(t, "FarthestOf", []any{n, farthest, ok}, 41, "o.#/ao./b../c../...", true)
	n, ok = impl.DistanceTo(farTray, farthest)
	expect(t, "DistanceTo", []any{n, ok}, 41, true)
	failsWithZeros(t, "ShortestWord", farTray, farthest)
}

func TestBallsBehindExactlyMaxWordDirections(t *testing.T) {
	first := reachModel(farBallTray).wordsOfBall("c")
	expect(t, "the model", []any{len(first[19]), len(first[9])}, 40, 41)
	word, ok := impl.WordToCell(farBallTray, "c", 19)
	expect(t, "WordToCell", []any{word, ok}, "uldruldruldruldruldruldruldruldruldrurdl", true)
	failsWithZeros(t, "WordToCell", farBallTray, "c", 9)
	cells, ok := impl.CellsOfBall(farBallTray, "c")
	expect(t, "CellsOfBall", []any{cells, ok}, slices.Sorted(maps.Keys(first)), true)
	if !slices.Contains(cells, 9) {
		t.Errorf("CellsOfBall is %v", cells)
	}
}

func TestSeveralShortestWords(t *testing.T) {
	for _, c := range []struct {
		s, u, word string
		count      int
	}{
		{"a./..", "../.a", "rd", 2}, {"../.a", "a./..", "ul", 2}, {".a/..", "../a.", "dl", 2}, {"../a.", ".a/..", "ur", 2},
		{".../.a./...", "a../.../...", "ul", 2}, {".../.a./...", ".../.../..a", "rd", 2}, {".../.a./...", "...", "", 0},
		{".a.", "..a", "r", 1}, {".a.", ".a.", "", 1}, {"a.#/...", "..#/..a", "dr", 1},
		{"a.#/...", ".a#/...", "r", 1}, {"a.#/...", "..#/a..", "d", 1},
		{"###/#o./###/##./a.#/#.b/c.#", "###/#.o/###/##./..#/#c./ab#", "rululdrdldlurululdldrd", 16},
	} {
		n, ok := impl.CountShortest(c.s, c.u)
		expect(t, "CountShortest "+c.s+" "+c.u, []any{n, ok}, c.count, c.count > 0)
		word, ok := impl.ShortestWord(c.s, c.u)
		expect(t, "ShortestWord "+c.s+" "+c.u, []any{word, ok}, c.word, c.count > 0)
	}
}

func TestSeveralTraysAtTheGreatestDistance(t *testing.T) {
	for _, c := range []struct {
		s, farthest string
		distance    int
		layers      []int
	}{
		{".../.a./...", ".../.../..a", 2, []int{1, 4, 4}},
		{".a.", "..a", 1, []int{1, 2}},
		{"./o/.", "././o", 1, []int{1, 2}},
		{"a./..", "../.a", 2, []int{1, 2, 1}},
		{"a.", ".a", 1, []int{1, 1}},
	} {
		n, farthest, ok := impl.FarthestOf(c.s)
		expect(t, "FarthestOf "+c.s, []any{n, farthest, ok}, c.distance, c.farthest, true)
		layers, ok := impl.LayersOf(c.s)
		expect(t, "LayersOf "+c.s, []any{layers, ok}, c.layers, true)
	}
}

func TestKnownClasses(t *testing.T) {
	classes, ok := impl.ClassesReached(".../.a./...")
	expect(t, "ClassesReached", []any{classes, ok}, [][]string{
		{".../.../..a", ".../.../a..", "..a/.../...", "a../.../..."},
		{".../.../.a.", ".a./.../..."},
		{".../..a/...", ".../a../..."},
		{".../.a./..."},
	}, true)
	classes, ok = impl.ClassesReached(".a.")
	expect(t, "ClassesReached", []any{classes, ok}, [][]string{{"..a", "a.."}, {".a."}}, true)
	for _, c := range []struct {
		s, u string
		want bool
	}{
		{"a./..", "../.a", true}, {"..a", "a..", true}, {".a.", "a..", false}, {".a.", ".a.", true},
		{".../.a./...", ".a./.../...", false}, {".a./.../...", ".../.../.a.", true}, {".a./.../...", "a../.../...", false},
	} {
		is, ok := impl.AreMutual(c.s, c.u)
		expect(t, "AreMutual "+c.s+" "+c.u, []any{is, ok}, c.want, true)
		is, ok = impl.AreMutual(c.u, c.s)
		expect(t, "AreMutual "+c.u+" "+c.s, []any{is, ok}, c.want, true)
	}
}

// TestKnownLastingTrays has trays that never come again: no direction leaves them as they are.
func TestKnownLastingTrays(t *testing.T) {
	for _, s := range []string{".../.a./...", ".o./o.o/.o.", ".../.o./.../..."} {
		trays, _ := impl.ReachedTrays(s)
		lasting, ok := impl.LastingTrays(s)
		want := slices.DeleteFunc(trays, func(u string) bool { return u == s })
		expect(t, "LastingTrays "+s, []any{lasting, ok}, want, true)
	}
	// Tilted up or down, .a. stays: it comes again at once, though it is never reached from another tray.
	lasting, ok := impl.LastingTrays(".a.")
	expect(t, "LastingTrays", []any{lasting, ok}, []string{"..a", ".a.", "a.."}, true)
	// Each corner comes again behind several directions as well as behind one.
	lasting, ok = impl.LastingTrays("a./..")
	expect(t, "LastingTrays", []any{lasting, ok}, []string{"../.a", "../a.", ".a/..", "a./.."}, true)
}

// TestLastingTraysComeAgain looks for words with directions that lead from a tray to itself.
// A tilt made twice does what it does once, so that no tray comes again behind several directions alone.
func TestLastingTraysComeAgain(t *testing.T) {
	words := sampleWords()[1:85]
	for _, s := range sampleReached() {
		if n, _ := impl.CountReached(s); n > 20 {
			continue
		}
		lasting, ok := impl.LastingTrays(s)
		trays, _ := impl.ReachedTrays(s)
		for _, u := range trays {
			behindOne := slices.ContainsFunc(words[:4], func(word string) bool { return wordModel(u, word) == u })
			behindSome := slices.ContainsFunc(words, func(word string) bool { return wordModel(u, word) == u })
			if lasts := slices.Contains(lasting, u); !ok || lasts != behindSome || lasts != behindOne {
				t.Errorf("LastingTrays(%q) is %q, %v, and %q comes again: %v, %v", s, lasting, ok, u, behindOne, behindSome)
			}
		}
	}
}

func TestWordsToCells(t *testing.T) {
	for _, s := range sampleReached() {
		told := reachModel(s)
		cells := len(strings.ReplaceAll(s, "/", ""))
		for _, name := range []string{"a", "b", "c", "d", "e", "f"} {
			if !strings.Contains(s, name) {
				failsWithZeros(t, "CellsOfBall", s, name)
				failsWithZeros(t, "WordToCell", s, name, 0)
				continue
			}
			first := told.wordsOfBall(name)
			got, ok := impl.CellsOfBall(s, name)
			expect(t, "CellsOfBall "+s+" "+name, []any{got, ok}, slices.Sorted(maps.Keys(first)), true)
			for cell := range cells {
				want, found := first[cell]
				if len(want) > 40 {
					want, found = "", false
				}
				word, ok := impl.WordToCell(s, name, cell)
				expect(t, fmt.Sprint("WordToCell ", s, " ", name, cell), []any{word, ok}, want, found)
			}
		}
	}
}

func TestWordsToKnownCells(t *testing.T) {
	for _, c := range []struct {
		s, name string
		cell    int
		word    string
		ok      bool
	}{
		{"a./..", "a", 0, "", true}, {"a./..", "a", 1, "r", true}, {"a./..", "a", 2, "d", true}, {"a./..", "a", 3, "rd", true},
		// The ball stands there already.
		{".a.", "a", 1, "", true}, {".../.a./...", "a", 4, "", true},
		// The ball only passes the cell.
		{"a..", "a", 1, "", false}, {"a../.../...", "a", 4, "", false}, {"..../a...", "a", 5, "", false},
		// The cell is a wall, or behind one.
		{"a.#", "a", 2, "", false}, {"a#.", "a", 2, "", false}, {"a#.", "a", 1, "", false}, {"#a", "a", 0, "", false},
		// Other balls stand in the cell, or stop the ball there.
		{"ab", "a", 1, "", false}, {"ab", "b", 1, "", true}, {"ab", "b", 0, "", false}, {"ao.", "a", 1, "r", true},
		{"a.b", "a", 1, "r", true}, {"a.b", "b", 1, "l", true}, {".../.a./...", "a", 8, "rd", true},
		{"..#a", "a", 3, "", true}, {"..#a", "a", 0, "", false},
	} {
		word, ok := impl.WordToCell(c.s, c.name, c.cell)
		expect(t, fmt.Sprint("WordToCell ", c.s, " ", c.name, c.cell), []any{word, ok}, c.word, c.ok)
	}
	for _, c := range []struct {
		s, name string
		want    []int
	}{
		{"a./..", "a", []int{0, 1, 2, 3}}, {"a..", "a", []int{0, 2}}, {".a.", "a", []int{0, 1, 2}}, {"a", "a", []int{0}},
		{"a.b", "a", []int{0, 1}}, {"a.b", "b", []int{1, 2}}, {"#a#", "a", []int{1}}, {"a../.../...", "a", []int{0, 2, 6, 8}},
		{".../.a./...", "a", []int{0, 1, 2, 3, 4, 5, 6, 7, 8}},
	} {
		cells, ok := impl.CellsOfBall(c.s, c.name)
		expect(t, "CellsOfBall "+c.s+" "+c.name, []any{cells, ok}, c.want, true)
	}
}
