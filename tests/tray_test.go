package tests

import (
	"reflect"
	"slices"
	"strings"
	"testing"

	"loop.example/g01199/impl"
)

// The tests of promise 1: trays are turned and mirrored back, changed cell by cell, and parts share their cells.

func TestLimitsOfTrays(t *testing.T) {
	expect(t, "MaxSide and MaxCells", []any{impl.MaxSide, impl.MaxCells}, 7, 36)
}

func TestIsTrayAcceptsTrays(t *testing.T) {
	for _, s := range []string{
		"#", ".", "o", "a", "b", "c", "d", "e", "f",
		".......", freeText(1, 7), "abcdef", "ooo/ooo",
		"######/######/######/######/######/######",
		"......./......./......./......./.......",
		"...../...../...../...../...../...../.....",
		".#/ao", "a.o/.#.",
	} {
		if !impl.IsTray(s) {
			t.Errorf("IsTray(%q) is false", s)
		}
	}
}

func TestIsTrayRejectsOtherTexts(t *testing.T) {
	for _, s := range notTrays() {
		if impl.IsTray(s) {
			t.Errorf("IsTray(%q) is true", s)
		}
	}
}

func TestIsTrayOnEveryByte(t *testing.T) {
	for c := range 256 {
		s := string([]byte{byte(c)})
		if got, want := impl.IsTray(s), strings.Contains("#.oabcdef", s); got != want {
			t.Errorf("IsTray(%q) is %v", s, got)
		}
	}
}

func TestIsTrayOnAllShortTexts(t *testing.T) {
	texts := []string{""}
	for range 5 {
		var longer []string
		for _, s := range texts {
			if got, want := impl.IsTray(s), isTrayModel(s); got != want {
				t.Fatalf("IsTray(%q) is %v", s, got)
			}
			for _, c := range "#.oaf/g" {
				longer = append(longer, s+string(c))
			}
		}
		texts = longer
	}
}

func TestIsTrayOnAllSizes(t *testing.T) {
	for w := range 45 {
		for h := 1; h < 45; h++ {
			want := w >= 1 && w <= 7 && h <= 7 && w*h <= 36
			if got := impl.IsTray(freeText(w, h)); got != want {
				t.Errorf("IsTray of %d columns and %d rows is %v", w, h, got)
			}
		}
	}
}

func TestExampleOfChapter(t *testing.T) {
	const s = ".#/ao"
	w, h, ok := impl.SizeOf(s)
	expect(t, "SizeOf", []any{w, h, ok}, 2, 2, true)
	x, y, ok := impl.PlaceOf(s, "a")
	expect(t, "PlaceOf", []any{x, y, ok}, 0, 1, true)
	cell, ok := impl.CellAt(s, 1, 1)
	expect(t, "CellAt", []any{cell, ok}, "o", true)
	turned, ok := impl.TurnTray(s)
	expect(t, "TurnTray", []any{turned, ok}, "a./o#", true)
	balls, ok := impl.BallsOf(s)
	expect(t, "BallsOf", []any{balls, ok}, []int{2, 3}, true)
	parts, ok := impl.PartsOf(s)
	expect(t, "PartsOf", []any{parts, ok}, [][]int{{0, 2, 3}}, true)
	way, ok := impl.WayBetween(s, 0, 3)
	expect(t, "WayBetween", []any{way, ok}, 2, true)
}

func TestCellsAgreeWithText(t *testing.T) {
	for _, s := range sampleTrays() {
		rows := strings.Split(s, "/")
		w, h, ok := impl.SizeOf(s)
		expect(t, "SizeOf "+s, []any{w, h, ok}, len(rows[0]), len(rows), true)
		var balls []int
		counts := map[string]int{}
		for y, row := range rows {
			for x := range len(row) {
				want := row[x : x+1]
				counts[want]++
				if want != "#" && want != "." {
					balls = append(balls, y*len(row)+x)
				}
				cell, ok := impl.CellAt(s, x, y)
				expect(t, "CellAt "+s, []any{cell, ok}, want, true)
			}
		}
		got, ok := impl.BallsOf(s)
		if !ok || !slices.Equal(got, balls) {
			t.Errorf("BallsOf(%q) is %v, %v", s, got, ok)
		}
		for _, c := range "#.oabcdef" {
			n, ok := impl.CountCells(s, string(c))
			expect(t, "CountCells "+s, []any{n, ok}, counts[string(c)], true)
		}
	}
}

func TestPlaceOfFindsNamesAlone(t *testing.T) {
	for _, s := range sampleTrays() {
		rows := strings.Split(s, "/")
		for _, name := range []string{"a", "b", "c", "d", "e", "f"} {
			wantX, wantY, found := 0, 0, false
			for y, row := range rows {
				if x := strings.Index(row, name); x >= 0 {
					wantX, wantY, found = x, y, true
				}
			}
			x, y, ok := impl.PlaceOf(s, name)
			expect(t, "PlaceOf "+s+" "+name, []any{x, y, ok}, wantX, wantY, found)
		}
	}
}

func TestPutAtChangesOneCell(t *testing.T) {
	for _, s := range sampleTrays() {
		rows := strings.Split(s, "/")
		w := len(rows[0])
		for n := range w * len(rows) {
			x, y := n%w, n/w
			for _, c := range "#.oabcdef" {
				changed := slices.Clone(rows)
				changed[y] = rows[y][:x] + string(c) + rows[y][x+1:]
				want := strings.Join(changed, "/")
				wantOk := isTrayModel(want)
				if !wantOk {
					want = ""
				}
				got, ok := impl.PutAt(s, x, y, string(c))
				expect(t, "PutAt "+s, []any{got, ok}, want, wantOk)
			}
		}
	}
}

func TestPutAtWithNames(t *testing.T) {
	s, ok := impl.PutAt("a.", 1, 0, "a")
	expect(t, "a second ball a", []any{s, ok}, "", false)
	s, ok = impl.PutAt("a.", 0, 0, "a")
	expect(t, "a where it stands", []any{s, ok}, "a.", true)
	s, ok = impl.PutAt("a.", 0, 0, "b")
	expect(t, "b for a", []any{s, ok}, "b.", true)
	s, ok = impl.PutAt("o.", 1, 0, "o")
	expect(t, "a second ball without a name", []any{s, ok}, "oo", true)
	s, ok = impl.PutAt(".", 0, 0, "#")
	expect(t, "a wall alone", []any{s, ok}, "#", true)
}

func TestTurnMirrorTranspose(t *testing.T) {
	for _, s := range sampleTrays() {
		rows := strings.Split(s, "/")
		w, h := len(rows[0]), len(rows)
		got, ok := impl.TurnTray(s)
		expect(t, "TurnTray "+s, []any{got, ok}, textFrom(h, w, func(x, y int) byte { return rows[h-1-x][y] }), true)
		got, ok = impl.MirrorTray(s)
		expect(t, "MirrorTray "+s, []any{got, ok}, textFrom(w, h, func(x, y int) byte { return rows[y][w-1-x] }), true)
		got, ok = impl.TransposeTray(s)
		expect(t, "TransposeTray "+s, []any{got, ok}, textFrom(h, w, func(x, y int) byte { return rows[x][y] }), true)
	}
}

func TestMovesGoBack(t *testing.T) {
	for _, s := range sampleTrays() {
		for _, back := range []struct {
			name  string
			move  func(string) (string, bool)
			times int
		}{{"TurnTray", impl.TurnTray, 4}, {"MirrorTray", impl.MirrorTray, 2}, {"TransposeTray", impl.TransposeTray, 2}} {
			got := s
			for range back.times {
				next, ok := back.move(got)
				if !ok {
					t.Fatalf("%s(%q) fails", back.name, got)
				}
				got = next
			}
			if got != s {
				t.Errorf("%s %d times makes %q of %q", back.name, back.times, got, s)
			}
		}
	}
}

func TestLeastTrayAndKeepers(t *testing.T) {
	for _, s := range sampleTrays() {
		eight := eightTrays(s)
		keepers := 0
		for _, u := range eight {
			if u == s {
				keepers++
			}
		}
		least, ok := impl.LeastTray(s)
		expect(t, "LeastTray "+s, []any{least, ok}, slices.Min(eight), true)
		n, ok := impl.KeepersOf(s)
		expect(t, "KeepersOf "+s, []any{n, ok}, keepers, true)
		if 8%n != 0 {
			t.Errorf("KeepersOf(%q) is %d", s, n)
		}
		for _, u := range eight {
			if other, ok := impl.LeastTray(u); other != least || !ok {
				t.Errorf("LeastTray of %q is %q, of %q it is %q", u, other, s, least)
			}
		}
	}
}

func TestKeepersOfKnownTrays(t *testing.T) {
	for s, want := range map[string]int{
		".": 8, "#": 8, "a": 8, "../..": 8, ".#./###/.#.": 8,
		"..": 4, ".#/#.": 4, "ab": 2, ".#/..": 2, "a.o": 2,
		".#./..#/#..": 2, ".#/ao": 1, "#.../..../..../...#": 4,
		".#../...#/#.../..#.": 4, "ab.": 2, "ab/..": 1,
	} {
		n, ok := impl.KeepersOf(s)
		expect(t, "KeepersOf "+s, []any{n, ok}, want, true)
	}
}

func TestPartsAndWays(t *testing.T) {
	for _, s := range sampleTrays() {
		steps := allSteps(s)
		var wantParts [][]int
		for a, row := range steps {
			var part []int
			for b, want := range row {
				if want >= 0 {
					part = append(part, b)
				}
				got, ok := impl.WayBetween(s, a, b)
				expect(t, "WayBetween "+s, []any{got, ok}, max(want, 0), want >= 0)
			}
			if len(part) > 0 && part[0] == a {
				wantParts = append(wantParts, part)
			}
		}
		parts, ok := impl.PartsOf(s)
		if !ok || len(parts) != len(wantParts) || len(parts) > 0 && !reflect.DeepEqual(parts, wantParts) {
			t.Errorf("PartsOf(%q) is %v, %v and should be %v", s, parts, ok, wantParts)
		}
	}
}

func TestPartsAndWaysOfKnownTrays(t *testing.T) {
	parts, ok := impl.PartsOf("a#./#.#/o#.")
	expect(t, "corners are no sides", []any{parts, ok}, [][]int{{0}, {2}, {4}, {6}, {8}}, true)
	parts, ok = impl.PartsOf(".#./.#./...")
	expect(t, "a part with two arms", []any{parts, ok}, [][]int{{0, 2, 3, 5, 6, 7, 8}}, true)
	parts, ok = impl.PartsOf("##/##")
	if len(parts) != 0 || !ok {
		t.Errorf("PartsOf walls alone is %v, %v", parts, ok)
	}
	parts, ok = impl.PartsOf("..#/#..")
	expect(t, "the end of a row is not next to the following row", []any{parts, ok}, [][]int{{0, 1, 4, 5}}, true)
	parts, ok = impl.PartsOf(".##/##./.##")
	expect(t, "cells one behind the other in different rows", []any{parts, ok}, [][]int{{0}, {5}, {6}}, true)
	n, ok := impl.WayBetween(".#./.#./...", 0, 2)
	expect(t, "a way round a wall", []any{n, ok}, 6, true)
	n, ok = impl.WayBetween(".....#/.###.#/.#.#.#/.#.#.#/.###.#/......", 0, 35)
	expect(t, "a way in a great tray", []any{n, ok}, 10, true)
	n, ok = impl.WayBetween(".", 0, 0)
	expect(t, "a way without steps", []any{n, ok}, 0, true)
	n, ok = impl.WayBetween("#", 0, 0)
	expect(t, "a way in a wall", []any{n, ok}, 0, false)
	n, ok = impl.WayBetween(".#.", 0, 2)
	expect(t, "a way through a wall", []any{n, ok}, 0, false)
}

func TestEmptyTrayOfAllSizes(t *testing.T) {
	great := int(^uint(0) >> 1)
	sides := []int{-great - 1, -7, -6, -1, 0, 1, 2, 3, 4, 5, 6, 7, 8, 36, 1 << 32, great}
	for _, w := range sides {
		for _, h := range sides {
			want := ""
			fits := w >= 1 && w <= 7 && h >= 1 && h <= 7 && w*h <= 36
			if fits {
				want = freeText(w, h)
			}
			got, ok := impl.EmptyTray(w, h)
			expect(t, "EmptyTray", []any{got, ok}, want, fits)
		}
	}
}

func TestWallsOfTakesBallsOut(t *testing.T) {
	for _, s := range sampleTrays() {
		want := strings.Map(func(c rune) rune {
			if c == 'o' || c >= 'a' && c <= 'f' {
				return '.'
			}
			return c
		}, s)
		got, ok := impl.WallsOf(s)
		expect(t, "WallsOf "+s, []any{got, ok}, want, true)
	}
}

func TestCropTray(t *testing.T) {
	for s, want := range map[string]string{
		".": ".", "a": "a", "###/#.#/###": ".", "#.#": ".", "#/#/o": "o",
		"..#/.##": "../.#", "#../##.": "../#.", ".#/#.": ".#/#.",
		"#.#.#": ".#.", "####/#.##/####/##a#/####": ".#/##/#a",
		".###/####/###.": ".###/####/###.", "#######/###.###": ".",
	} {
		got, ok := impl.CropTray(s)
		expect(t, "CropTray "+s, []any{got, ok}, want, true)
	}
	for _, s := range sampleTrays() {
		want, wantOk := cropModel(s)
		got, ok := impl.CropTray(s)
		expect(t, "CropTray "+s, []any{got, ok}, want, wantOk)
	}
}

func TestJoinAndBeside(t *testing.T) {
	trays := slices.Concat(sampleTrays()[:300], greatTrays())
	for _, a := range trays {
		for _, b := range trays {
			want, wantOk := checkedModel(a + "/" + b)
			got, ok := impl.JoinTrays(a, b)
			expect(t, "JoinTrays "+a+" "+b, []any{got, ok}, want, wantOk)
			want, wantOk = checkedModel(besideModel(a, b))
			got, ok = impl.BesideTrays(a, b)
			expect(t, "BesideTrays "+a+" "+b, []any{got, ok}, want, wantOk)
		}
	}
}

func TestJoinAndBesideAtLimits(t *testing.T) {
	join := func(a, b, want string, wantOk bool) {
		t.Helper()
		got, ok := impl.JoinTrays(a, b)
		expect(t, "JoinTrays", []any{got, ok}, want, wantOk)
	}
	beside := func(a, b, want string, wantOk bool) {
		t.Helper()
		got, ok := impl.BesideTrays(a, b)
		expect(t, "BesideTrays", []any{got, ok}, want, wantOk)
	}
	join("a", "b", "a/b", true)
	beside("a", "b", "ab", true)
	join(".#/ao", "..", ".#/ao/..", true)
	beside(".#/ao", "./b", ".#./aob", true)
	join(freeText(6, 5), freeText(6, 1), freeText(6, 6), true)
	join(freeText(6, 5), freeText(6, 2), "", false)
	join(freeText(7, 4), freeText(7, 1), freeText(7, 5), true)
	join(freeText(7, 4), freeText(7, 2), "", false)
	join(freeText(1, 6), freeText(1, 1), freeText(1, 7), true)
	join(freeText(1, 6), freeText(1, 2), "", false)
	beside(freeText(5, 6), freeText(1, 6), freeText(6, 6), true)
	beside(freeText(5, 6), freeText(2, 6), "", false)
	beside(freeText(6, 1), freeText(1, 1), freeText(7, 1), true)
	beside(freeText(6, 1), freeText(2, 1), "", false)
	join("..", ".", "", false)
	beside("./.", ".", "", false)
	join("a.", ".a", "", false)
	beside("a.", ".a", "", false)
	join("o#", "#o", "o#/#o", true)
	beside("o#", "#o", "o##o", true)
}

func expect(t *testing.T, what string, got []any, want ...any) {
	t.Helper()
	if !reflect.DeepEqual(got, want) {
		t.Errorf("%s: %v and should be %v", what, got, want)
	}
}
