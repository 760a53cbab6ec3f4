package tests

import (
	"cmp"
	"maps"
	"slices"
	"strings"
)

// The models of chapter 3 keep all shortest words to each tray, and join ways of any length; the program keeps one way and a number.

// A reachTold is what a tray reaches: all shortest words to each tray, each list in the order of directions, and the trays behind the four tilts.
type reachTold struct {
	words map[string][]string
	next  map[string][]string
}

func reachModel(s string) reachTold {
	told := reachTold{words: map[string][]string{s: {""}}, next: map[string][]string{}}
	layer := []string{s}
	for len(layer) > 0 {
		found := map[string][]string{}
		for _, u := range layer {
			for _, dir := range strings.Split("urdl", "") {
				next := tiltModel(u, dir).tray
				told.next[u] = append(told.next[u], next)
				if told.words[next] != nil {
					continue
				}
				for _, word := range told.words[u] {
					found[next] = append(found[next], word+dir)
				}
			}
		}
		for u, words := range found {
			slices.SortFunc(words, compareWords)
			told.words[u] = words
		}
		layer = slices.Sorted(maps.Keys(found))
	}
	return told
}

// compareWords puts shorter words first, and such of one length in the order of directions.
func compareWords(v, w string) int {
	order := strings.NewReplacer("u", "0", "r", "1", "d", "2", "l", "3")
	return cmp.Or(cmp.Compare(len(v), len(w)), cmp.Compare(order.Replace(v), order.Replace(w)))
}

func (told reachTold) trays() []string {
	return slices.Sorted(maps.Keys(told.words))
}

func (told reachTold) distance(u string) int {
	return len(told.words[u][0])
}

// farthest returns all trays at the greatest distance, and this distance.
func (told reachTold) farthest() ([]string, int) {
	greatest := 0
	var trays []string
	for _, u := range told.trays() {
		d := told.distance(u)
		if d > greatest {
			greatest, trays = d, nil
		}
		if d == greatest {
			trays = append(trays, u)
		}
	}
	return trays, greatest
}

func (told reachTold) layers() []int {
	_, greatest := told.farthest()
	layers := make([]int, greatest+1)
	for u := range told.words {
		layers[told.distance(u)]++
	}
	return layers
}

// behind tells for all pairs of trays, by their numbers in the order of texts, whether some word with a direction leads from one to the other.
func (told reachTold) behind() [][]bool {
	trays := told.trays()
	behind := make([][]bool, len(trays))
	for n, u := range trays {
		behind[n] = make([]bool, len(trays))
		for _, next := range told.next[u] {
			k, _ := slices.BinarySearch(trays, next)
			behind[n][k] = true
		}
	}
	for over := range trays {
		for n := range trays {
			for k := range trays {
				if behind[n][over] && behind[over][k] {
					behind[n][k] = true
				}
			}
		}
	}
	return behind
}

func (told reachTold) classes() [][]string {
	trays, behind := told.trays(), told.behind()
	var classes [][]string
	for n := range trays {
		var class []string
		for k, u := range trays {
			if k == n || behind[n][k] && behind[k][n] {
				class = append(class, u)
			}
		}
		if class[0] == trays[n] {
			classes = append(classes, class)
		}
	}
	return classes
}

func (told reachTold) lasting() []string {
	trays, behind := told.trays(), told.behind()
	var lasting []string
	for n, u := range trays {
		if behind[n][n] {
			lasting = append(lasting, u)
		}
	}
	return lasting
}

// wordsOfBall returns for each cell in which a ball stands the first one of the shortest words that bring it there.
func (told reachTold) wordsOfBall(name string) map[int]string {
	first := map[int]string{}
	for u, words := range told.words {
		cell := strings.Index(strings.ReplaceAll(u, "/", ""), name)
		if cell < 0 {
			continue
		}
		if word, found := first[cell]; !found || compareWords(words[0], word) < 0 {
			first[cell] = words[0]
		}
	}
	return first
}

// countModel counts the trays that are reached, but no more than 301 of them.
func countModel(s string) int {
	found := map[string]bool{s: true}
	queue := []string{s}
	for len(queue) > 0 && len(found) <= 300 {
		for _, dir := range strings.Split("urdl", "") {
			if next := tiltModel(queue[0], dir).tray; !found[next] {
				found[next] = true
				queue = append(queue, next)
			}
		}
		queue = queue[1:]
	}
	return min(len(found), 301)
}

// sampleReached are trays that reach 300 trays at most.
func sampleReached() []string {
	trays := slices.Concat(
		allTrays(1, 1, "#.oa"), allTrays(3, 1, "#.oab"), allTrays(1, 4, "#.oa"), allTrays(2, 2, "#.oab"),
		allTrays(3, 2, ".a"), allTrays(3, 3, ".a"), knownReached(),
	)
	for _, s := range greatTrays() {
		if countModel(s) <= 300 {
			trays = append(trays, s)
		}
	}
	return trays
}

// knownReached have several shortest words, several classes, great distances, or exactly 300 trays that they reach.
func knownReached() []string {
	return []string{
		"a./..", ".../.a./...", ".../.o./...", "a.o/.#.", "....", ".a..", "..#../.a.../.....",
		"###/#o./###/##./a.#/#.b/c.#", reachesAll, farTray, farBallTray,
	}
}

const (
	// reachesAll reaches 300 trays exactly. Tilted left, reachesMore becomes it, and reaches one more: itself.
	reachesAll  = "ao..../#o#.#b"
	reachesMore = ".a...o/#o#.#b"

	// farTray reaches trays at the distances 40 and 41, the greatest one.
	farTray = "o.#/a../b.o/.../..c"

	// The ball c of farBallTray comes to the cell 19 behind 40 directions first, and to the cell 9 behind 41.
	farBallTray = "##.coa/#.#bo#/##.ooo/#.oooo"
)
