package tests

import (
	"slices"
	"strconv"
	"strings"

	"loop.example/g01334/impl"
)

// The model of chapter 9 follows the document word by word, writes down all clues and tries all hidden things: it is what the program is compared with.

// hiddenInModel returns all hidden things, so many, in lexicographic order.
func hiddenInModel(many int) [][]int {
	var all [][]int
	eachList(many, 1, 6, func(things []int) { all = append(all, things) })
	return all
}

// allCluesInModel returns all clues of so many things, whatever that number is: there are none unless it is 2, 3 or 4.
func allCluesInModel(things int) []impl.Clue {
	if things != 2 && things != 3 && things != 4 {
		return nil
	}
	var clues []impl.Clue
	for c := 0; c <= 24; c++ {
		clues = append(clues, clueOf(0, 0, 0, c))
	}
	for a := 0; a < things; a++ {
		for b := 0; b < things; b++ {
			if a == b {
				continue
			}
			clues = append(clues, clueOf(1, a, b, 0), clueOf(1, a, b, 1))
			for c := 1; c <= 36; c++ {
				clues = append(clues, clueOf(4, a, b, c))
			}
		}
	}
	for room := 6; room <= 24; room++ {
		clues = append(clues, clueOf(2, room, 0, 1), clueOf(2, room, 0, 2), clueOf(2, room, 0, 3), clueOf(2, room, 0, 4))
	}
	for size := 1; size <= 24; size++ {
		clues = append(clues, clueOf(3, size, 0, 0), clueOf(3, size, 0, 1))
	}
	for c := 1; c <= 6; c++ {
		clues = append(clues, clueOf(5, 0, 0, c))
	}
	return clues
}

// haveJustInModel reports whether some of the things, at least one, have just a size together.
func haveJustInModel(things []int, size int) bool {
	for _, chosen := range increasingLists(len(things)) {
		together := 0
		for _, k := range chosen {
			together += things[k]
		}
		if len(chosen) > 0 && together == size {
			return true
		}
	}
	return false
}

// doesFitInModel requires a clue of so many things.
func doesFitInModel(c impl.Clue, things []int) bool {
	switch c.Kind {
	case 0:
		return sum(things) == c.C
	case 1:
		return (things[c.A] > things[c.B]) == (c.C == 1)
	case 2:
		fewest, _, _ := fewestInModel(things, c.A)
		return fewest == c.C
	case 3:
		return haveJustInModel(things, c.A) == (c.C == 1)
	case 4:
		return things[c.A]*things[c.B] == c.C
	case 5:
		return slices.Max(things) == c.C
	}
	panic("no kind of a clue")
}

// puzzlesInModel are puzzles of so many things. It keeps which hidden things fit a clue, so that each clue is looked at once.
type puzzlesInModel struct {
	things int
	hidden [][]int
	fits   map[impl.Clue][]bool
}

func newPuzzlesInModel(things int) puzzlesInModel {
	return puzzlesInModel{things: things, hidden: hiddenInModel(things), fits: map[impl.Clue][]bool{}}
}

// allPuzzlesInModel returns the puzzles of 2, 3 and 4 things, told by these numbers.
func allPuzzlesInModel() map[int]puzzlesInModel {
	return map[int]puzzlesInModel{2: newPuzzlesInModel(2), 3: newPuzzlesInModel(3), 4: newPuzzlesInModel(4)}
}

// fitting tells for each hidden things whether they fit a clue.
func (m puzzlesInModel) fitting(c impl.Clue) []bool {
	if m.fits[c] == nil {
		for _, things := range m.hidden {
			m.fits[c] = append(m.fits[c], doesFitInModel(c, things))
		}
	}
	return m.fits[c]
}

// solutions returns all hidden things that fit all clues.
func (m puzzlesInModel) solutions(clues []impl.Clue) [][]int {
	var solutions [][]int
	for i, things := range m.hidden {
		if !slices.ContainsFunc(clues, func(c impl.Clue) bool { return !m.fitting(c)[i] }) {
			solutions = append(solutions, things)
		}
	}
	return solutions
}

func (m puzzlesInModel) count(clues []impl.Clue) int { return len(m.solutions(clues)) }

// withoutInModel returns the clues without the one with an index.
func withoutInModel(clues []impl.Clue, k int) []impl.Clue {
	var others []impl.Clue
	for i, c := range clues {
		if i != k {
			others = append(others, c)
		}
	}
	return others
}

// sure fails if there is no solution.
func (m puzzlesInModel) sure(clues []impl.Clue) ([]int, bool) {
	solutions := m.solutions(clues)
	if len(solutions) == 0 {
		return nil, false
	}
	sure := make([]int, m.things)
	for k := range sure {
		sizes := map[int]bool{}
		for _, things := range solutions {
			sizes[things[k]] = true
		}
		sure[k] = -1
		if len(sizes) == 1 {
			sure[k] = solutions[0][k]
		}
	}
	return sure, true
}

func (m puzzlesInModel) needless(clues []impl.Clue) []int {
	var needless []int
	for k := range clues {
		if m.count(withoutInModel(clues, k)) == m.count(clues) {
			needless = append(needless, k)
		}
	}
	return needless
}

func (m puzzlesInModel) left(clues []impl.Clue) []int {
	left := []int{len(m.hidden)}
	for k := range clues {
		left = append(left, m.count(clues[:k+1]))
	}
	return left
}

// best fails if there are no clues.
func (m puzzlesInModel) best(clues []impl.Clue) (int, bool) {
	counts := []int{}
	for _, c := range clues {
		counts = append(counts, m.count([]impl.Clue{c}))
	}
	if len(counts) == 0 {
		return 0, false
	}
	return slices.Index(counts, slices.Min(counts)), true
}

// harder asks for each clue, the first one first, whether the puzzle is solved by those that were kept and those that come behind. It fails unless the puzzle is solved.
func (m puzzlesInModel) harder(clues []impl.Clue) ([]impl.Clue, bool) {
	if m.count(clues) != 1 {
		return nil, false
	}
	var kept []impl.Clue
	for k, c := range clues {
		if m.count(slices.Concat(kept, clues[k+1:])) != 1 {
			kept = append(kept, c)
		}
	}
	return kept, true
}

// madeInModel writes down all numbers first. Each clue is the one that things fit of those with the numbers that are told.
func madeInModel(things []int, clues, seed int) impl.Puzzle {
	numbers := []int{seed}
	for range 2 * clues {
		numbers = append(numbers, (numbers[len(numbers)-1]*241+1693)%10007)
	}
	made := puzzleOf(len(things))
	for k := range clues {
		kind, y := numbers[2*k+1]%6, numbers[2*k+2]
		a, b := 0, 0
		switch kind {
		case 1, 4:
			a = y % len(things)
			b = a + 1
			if b == len(things) {
				b = 0
			}
		case 2:
			a = y%19 + 6
		case 3:
			a = y%24 + 1
		}
		for c := 0; c <= 36; c++ {
			if told := clueOf(kind, a, b, c); (c <= 1 || kind != 1 && kind != 3) && doesFitInModel(told, things) {
				made.Clues = append(made.Clues, told)
			}
		}
	}
	return made
}

func puzzleTextInModel(p impl.Puzzle) string {
	text := strconv.Itoa(p.Things) + "t"
	for k, c := range p.Clues {
		if k > 0 {
			text += ","
		}
		text += strconv.Itoa(c.Kind) + "." + strconv.Itoa(c.A) + "." + strconv.Itoa(c.B) + "." + strconv.Itoa(c.C)
	}
	return text
}

// clueTextsInModel are the texts of all clues of 2, 3 and 4 things.
type clueTextsInModel map[string]map[string]bool

func newClueTextsInModel() clueTextsInModel {
	texts := clueTextsInModel{}
	for things := 2; things <= 4; things++ {
		number := strconv.Itoa(things)
		texts[number] = map[string]bool{}
		for _, c := range allCluesInModel(things) {
			text, _ := strings.CutPrefix(puzzleTextInModel(puzzleOf(things, c)), number+"t")
			texts[number][text] = true
		}
	}
	return texts
}

// isPuzzleText takes any text.
func (m clueTextsInModel) isPuzzleText(s string) bool {
	if len(s) < 2 || m[s[:1]] == nil || s[1] != 't' {
		return false
	}
	if len(s) == 2 {
		return true
	}
	clues := strings.Split(s[2:], ",")
	return len(clues) <= 6 && !slices.ContainsFunc(clues, func(text string) bool { return !m[s[:1]][text] })
}
