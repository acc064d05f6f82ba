package tests

import (
	"fmt"
	"math"
	"slices"
	"strings"
	"testing"

	"loop.example/g01334/impl"
)

func clueOf(kind, a, b, c int) impl.Clue { return impl.Clue{Kind: kind, A: a, B: b, C: c} }

func puzzleOf(things int, clues ...impl.Clue) impl.Puzzle {
	return impl.Puzzle{Things: things, Clues: clues}
}

// examplePuzzle is 2t0.0.0.11,1.0.1.1.
func examplePuzzle() impl.Puzzle { return puzzleOf(2, clueOf(0, 0, 0, 11), clueOf(1, 0, 1, 1)) }

// hiddenThings returns 2..4 hidden things.
func (m *mixer) hiddenThings() []int { return m.list(m.next(2, 4), 1, impl.MaxHidden) }

// clue returns one of a kind, of so many things.
func (m *mixer) clue(kind, things int) impl.Clue {
	switch kind {
	case 0:
		return clueOf(kind, 0, 0, m.next(0, 24))
	case 1, 4:
		a := m.next(0, things-1)
		b := (a + m.next(1, things-1)) % things
		if kind == 1 {
			return clueOf(kind, a, b, m.next(0, 1))
		}
		return clueOf(kind, a, b, m.next(1, 6)*m.next(1, 6))
	case 2:
		return clueOf(kind, m.next(6, 24), 0, m.next(1, 4))
	case 3:
		return clueOf(kind, m.next(1, 24), 0, m.next(0, 1))
	default:
		return clueOf(kind, 0, 0, m.next(1, 6))
	}
}

// puzzle returns one with so many clues, of which some hidden things fit all, or most.
func (m *mixer) puzzle(clues int) impl.Puzzle {
	hidden := m.hiddenThings()
	p := puzzleOf(len(hidden))
	for range clues {
		kind := m.next(0, 5)
		c := m.clue(kind, len(hidden))
		for m.next(0, 200) > 0 && !doesFitInModel(c, hidden) {
			c = m.clue(kind, len(hidden))
		}
		p.Clues = append(p.Clues, c)
	}
	return p
}

// eachPuzzle visits puzzles of all numbers of things and of clues.
func eachPuzzle(visit func(p impl.Puzzle)) {
	m := &mixer{state: 71}
	for things := 2; things <= 4; things++ {
		visit(puzzleOf(things))
	}
	for range 60 {
		for clues := 1; clues <= impl.MaxClues; clues++ {
			p := m.puzzle(clues)
			visit(p)
			// The same clue twice.
			if clues < impl.MaxClues {
				visit(puzzleOf(p.Things, append(p.Clues, p.Clues[m.next(0, clues-1)])...))
			}
		}
	}
	for seed := 0; seed <= 9999; seed += 99 {
		visit(madeInModel(m.hiddenThings(), m.next(4, impl.MaxClues), seed))
	}
}

func TestPuzzleExample(t *testing.T) {
	p := examplePuzzle()
	mustReturn(t, "ParsePuzzle", results(impl.ParsePuzzle("2t0.0.0.11,1.0.1.1")), p)
	mustReturn(t, "PuzzleText", results(impl.PuzzleText(p)), "2t0.0.0.11,1.0.1.1")
	mustReturn(t, "Solutions", results(impl.Solutions(p)), [][]int{{6, 5}})
	mustReturn(t, "CountSolutions", results(impl.CountSolutions(p)), 1)
	mustReturn(t, "IsSolved", results(impl.IsSolved(p)), true)
	mustReturn(t, "LeftByClues", results(impl.LeftByClues(p)), []int{36, 2, 1})
	mustReturn(t, "CountSolutions of none", results(impl.CountSolutions(puzzleOf(2, clueOf(4, 0, 1, 35)))), 0)
	mustReturn(t, "SureSizes of 18", results(impl.SureSizes(puzzleOf(3, clueOf(0, 0, 0, 18)))), []int{6, 6, 6})
	mustReturn(t, "SureSizes of the greatest size 1", results(impl.SureSizes(puzzleOf(2, clueOf(5, 0, 0, 1)))), []int{1, 1})
	mustReturn(t, "DoesFit with a room of 6", results(impl.DoesFit(clueOf(2, 6, 0, 3), []int{6, 6, 1})), true)
	mustReturn(t, "DoesFit with a room of 7", results(impl.DoesFit(clueOf(2, 7, 0, 2), []int{6, 6, 1})), true)
}

// puzzleCase tells what there is to tell of a puzzle: first and sure are nil if there is no solution, best is -1 if there is no clue, and harder is empty unless the puzzle is solved.
type puzzleCase struct {
	text        string
	count       int
	first, sure []int
	needless    []int
	left        []int
	best        int
	harder      string
}

func puzzleCases() []puzzleCase {
	return []puzzleCase{
		// No clue: all hidden things.
		{"2t", 36, []int{1, 1}, []int{-1, -1}, nil, []int{36}, -1, ""},
		{"3t", 216, []int{1, 1, 1}, []int{-1, -1, -1}, nil, []int{216}, -1, ""},
		{"4t", 1296, []int{1, 1, 1, 1}, []int{-1, -1, -1, -1}, nil, []int{1296}, -1, ""},
		// Clues that all hidden things fit, and just one does not.
		{"2t2.24.0.1", 36, []int{1, 1}, []int{-1, -1}, []int{0}, []int{36, 36}, 0, ""},
		{"2t3.24.0.0,2.12.0.1", 36, []int{1, 1}, []int{-1, -1}, []int{0, 1}, []int{36, 36, 36}, 0, ""},
		{"4t3.24.0.0", 1295, []int{1, 1, 1, 1}, []int{-1, -1, -1, -1}, nil, []int{1296, 1295}, 0, ""},
		{"2t2.11.0.1", 35, []int{1, 1}, []int{-1, -1}, nil, []int{36, 35}, 0, ""},
		// One clue with just one solution.
		{"3t0.0.0.18", 1, []int{6, 6, 6}, []int{6, 6, 6}, nil, []int{216, 1}, 0, "3t0.0.0.18"},
		{"2t5.0.0.1", 1, []int{1, 1}, []int{1, 1}, nil, []int{36, 1}, 0, "2t5.0.0.1"},
		{"4t5.0.0.1", 1, []int{1, 1, 1, 1}, []int{1, 1, 1, 1}, nil, []int{1296, 1}, 0, "4t5.0.0.1"},
		{"4t3.24.0.1", 1, []int{6, 6, 6, 6}, []int{6, 6, 6, 6}, nil, []int{1296, 1}, 0, "4t3.24.0.1"},
		{"4t2.23.0.2", 1, []int{6, 6, 6, 6}, []int{6, 6, 6, 6}, nil, []int{1296, 1}, 0, "4t2.23.0.2"},
		{"2t4.1.0.1", 1, []int{1, 1}, []int{1, 1}, nil, []int{36, 1}, 0, "2t4.1.0.1"},
		// No solution: by one clue, by two that exclude each other, and by two each of which is enough.
		{"2t4.0.1.35", 0, nil, nil, nil, []int{36, 0}, 0, ""},
		{"2t2.6.0.3", 0, nil, nil, nil, []int{36, 0}, 0, ""},
		{"2t0.0.0.13", 0, nil, nil, nil, []int{36, 0}, 0, ""},
		{"2t1.0.1.1,1.1.0.1", 0, nil, nil, nil, []int{36, 15, 0}, 0, ""},
		{"2t0.0.0.0,0.0.0.24", 0, nil, nil, []int{0, 1}, []int{36, 0, 0}, 0, ""},
		{"2t5.0.0.6,0.0.0.1", 0, nil, nil, []int{0}, []int{36, 11, 0}, 1, ""},
		// Some sizes are sure, and some are not.
		{"2t0.0.0.11", 2, []int{5, 6}, []int{-1, -1}, nil, []int{36, 2}, 0, ""},
		{"3t4.0.1.36", 6, []int{6, 6, 1}, []int{6, 6, -1}, nil, []int{216, 6}, 0, ""},
		{"3t1.0.1.1,5.0.0.2", 2, []int{2, 1, 1}, []int{2, 1, -1}, nil, []int{216, 90, 2}, 1, ""},
		{"4t4.1.3.30,1.3.1.1,5.0.0.6,0.0.0.13", 1, []int{1, 5, 1, 6}, []int{1, 5, 1, 6}, []int{2}, []int{1296, 72, 36, 36, 1}, 0, "4t4.1.3.30,1.3.1.1,0.0.0.13"},
		// Pairs that need two boxes: of the size 7 together there are 6, of 8 there are 5, and so on.
		{"2t2.6.0.2", 21, []int{1, 6}, []int{-1, -1}, nil, []int{36, 21}, 0, ""},
		// The same clue twice: one of both is needed.
		{"2t0.0.0.12,0.0.0.12", 1, []int{6, 6}, []int{6, 6}, []int{0, 1}, []int{36, 1, 1}, 0, "2t0.0.0.12"},
		{"2t1.0.1.1,0.0.0.11,1.0.1.1", 1, []int{6, 5}, []int{6, 5}, []int{0, 2}, []int{36, 15, 1, 1}, 1, "2t0.0.0.11,1.0.1.1"},
		// Each clue alone is needless, but not all together are.
		{"2t0.0.0.2,4.0.1.1", 1, []int{1, 1}, []int{1, 1}, []int{0, 1}, []int{36, 1, 1}, 0, "2t4.0.1.1"},
		{"2t0.0.0.2,4.0.1.1,5.0.0.1", 1, []int{1, 1}, []int{1, 1}, []int{0, 1, 2}, []int{36, 1, 1, 1}, 0, "2t5.0.0.1"},
		// Clues behind the first one that are as good, and a better one behind others.
		{"2t5.0.0.6,0.0.0.11,4.0.1.30", 2, []int{5, 6}, []int{-1, -1}, []int{0, 1, 2}, []int{36, 11, 2, 2}, 1, ""},
		{"2t5.0.0.5,0.0.0.9,4.0.1.25", 0, nil, nil, []int{0}, []int{36, 9, 2, 0}, 2, ""},
		// Puzzles that cannot be made harder, and such that can by several clues, the first one being needed or not.
		{"2t0.0.0.11,1.0.1.1", 1, []int{6, 5}, []int{6, 5}, nil, []int{36, 2, 1}, 0, "2t0.0.0.11,1.0.1.1"},
		{"4t1.0.1.1,1.1.2.1,1.2.3.1,0.0.0.18", 1, []int{6, 5, 4, 3}, []int{6, 5, 4, 3}, nil, []int{1296, 540, 120, 15, 1}, 3, "4t1.0.1.1,1.1.2.1,1.2.3.1,0.0.0.18"},
		{"2t1.0.1.1,0.0.0.11,5.0.0.6,4.0.1.30", 1, []int{6, 5}, []int{6, 5}, []int{1, 2, 3}, []int{36, 15, 1, 1, 1}, 1, "2t1.0.1.1,4.0.1.30"},
		// Six clues.
		{"4t0.0.0.24,5.0.0.6,4.0.1.36,1.2.3.0,2.6.0.4,3.24.0.1", 1, []int{6, 6, 6, 6}, []int{6, 6, 6, 6}, []int{0, 1, 2, 3, 4, 5}, []int{1296, 1, 1, 1, 1, 1, 1}, 0, "4t3.24.0.1"},
		{"2t5.0.0.6,1.0.1.0,1.1.0.0,2.6.0.2,3.6.0.1,4.1.0.36", 1, []int{6, 6}, []int{6, 6}, []int{0, 1, 2, 3, 4, 5}, []int{36, 11, 6, 1, 1, 1, 1}, 5, "2t4.1.0.36"},
	}
}

func TestPuzzlesByHand(t *testing.T) {
	for _, c := range puzzleCases() {
		p, ok := impl.ParsePuzzle(c.text)
		if !ok || !impl.IsPuzzle(p) {
			t.Fatalf("%s is no puzzle", c.text)
		}
		name := " of " + c.text
		mustReturn(t, "CountSolutions"+name, results(impl.CountSolutions(p)), c.count)
		mustReturn(t, "IsSolved"+name, results(impl.IsSolved(p)), c.count == 1)
		mustReturn(t, "NeedlessClues"+name, results(impl.NeedlessClues(p)), c.needless)
		mustReturn(t, "LeftByClues"+name, results(impl.LeftByClues(p)), c.left)
		mustReturnIf(t, c.first != nil, "FirstSolution"+name, results(impl.FirstSolution(p)), c.first)
		mustReturnIf(t, c.sure != nil, "SureSizes"+name, results(impl.SureSizes(p)), c.sure)
		mustReturnIf(t, c.best >= 0, "BestClue"+name, results(impl.BestClue(p)), c.best)
		harder, _ := impl.ParsePuzzle(c.harder)
		mustReturnIf(t, c.harder != "", "HarderPuzzle"+name, results(impl.HarderPuzzle(p)), harder)
	}
}

// mustReturnIf checks that a call returned just one result if there is one, and that it failed otherwise.
func mustReturnIf(t *testing.T, is bool, name string, all []any, want any) {
	t.Helper()
	if is {
		mustReturn(t, name, all, want)
	} else {
		mustFail(t, name, all)
	}
}

func TestSolutionsByHand(t *testing.T) {
	cases := []struct {
		p         impl.Puzzle
		solutions [][]int
	}{
		{puzzleOf(2, clueOf(0, 0, 0, 11)), [][]int{{5, 6}, {6, 5}}},
		{puzzleOf(2, clueOf(4, 0, 1, 12)), [][]int{{2, 6}, {3, 4}, {4, 3}, {6, 2}}},
		{puzzleOf(3, clueOf(5, 0, 0, 2), clueOf(1, 0, 1, 1)), [][]int{{2, 1, 1}, {2, 1, 2}}},
		{puzzleOf(3, clueOf(3, 17, 0, 1)), [][]int{{5, 6, 6}, {6, 5, 6}, {6, 6, 5}}},
		{puzzleOf(4, clueOf(0, 0, 0, 5)), [][]int{{1, 1, 1, 2}, {1, 1, 2, 1}, {1, 2, 1, 1}, {2, 1, 1, 1}}},
		{puzzleOf(4, clueOf(2, 22, 0, 2)), [][]int{{5, 6, 6, 6}, {6, 5, 6, 6}, {6, 6, 5, 6}, {6, 6, 6, 5}, {6, 6, 6, 6}}},
	}
	for _, c := range cases {
		solutions, ok := impl.Solutions(c.p)
		mustReturnApart(t, fmt.Sprint("Solutions of ", c.p), solutions, ok, c.solutions)
	}
	mustReturn(t, "Solutions of none", results(impl.Solutions(puzzleOf(2, clueOf(4, 0, 1, 35)))), [][]int{})
}

func TestDoesFitByHand(t *testing.T) {
	cases := []struct {
		things []int
		fits   []impl.Clue
		misses []impl.Clue
	}{
		{[]int{6, 5},
			[]impl.Clue{clueOf(0, 0, 0, 11), clueOf(1, 0, 1, 1), clueOf(1, 1, 0, 0), clueOf(2, 6, 0, 2), clueOf(2, 10, 0, 2), clueOf(2, 11, 0, 1), clueOf(3, 11, 0, 1), clueOf(3, 6, 0, 1), clueOf(3, 5, 0, 1), clueOf(3, 1, 0, 0), clueOf(3, 12, 0, 0), clueOf(4, 0, 1, 30), clueOf(4, 1, 0, 30), clueOf(5, 0, 0, 6)},
			[]impl.Clue{clueOf(0, 0, 0, 12), clueOf(0, 0, 0, 0), clueOf(1, 0, 1, 0), clueOf(1, 1, 0, 1), clueOf(2, 6, 0, 1), clueOf(2, 11, 0, 2), clueOf(2, 6, 0, 4), clueOf(3, 11, 0, 0), clueOf(3, 1, 0, 1), clueOf(3, 24, 0, 1), clueOf(4, 0, 1, 36), clueOf(5, 0, 0, 5)}},
		// Both ends of the numbers.
		{[]int{1, 1},
			[]impl.Clue{clueOf(0, 0, 0, 2), clueOf(1, 0, 1, 0), clueOf(1, 1, 0, 0), clueOf(2, 6, 0, 1), clueOf(2, 24, 0, 1), clueOf(3, 1, 0, 1), clueOf(3, 2, 0, 1), clueOf(3, 24, 0, 0), clueOf(4, 0, 1, 1), clueOf(5, 0, 0, 1)},
			[]impl.Clue{clueOf(0, 0, 0, 0), clueOf(1, 0, 1, 1), clueOf(1, 1, 0, 1), clueOf(2, 6, 0, 2), clueOf(3, 1, 0, 0), clueOf(3, 3, 0, 1), clueOf(4, 0, 1, 2), clueOf(5, 0, 0, 6)}},
		{[]int{6, 6, 6, 6},
			[]impl.Clue{clueOf(0, 0, 0, 24), clueOf(1, 3, 2, 0), clueOf(2, 6, 0, 4), clueOf(2, 11, 0, 4), clueOf(2, 12, 0, 2), clueOf(2, 23, 0, 2), clueOf(2, 24, 0, 1), clueOf(3, 24, 0, 1), clueOf(3, 1, 0, 0), clueOf(4, 3, 0, 36), clueOf(5, 0, 0, 6)},
			[]impl.Clue{clueOf(0, 0, 0, 23), clueOf(1, 0, 3, 1), clueOf(2, 6, 0, 3), clueOf(2, 23, 0, 1), clueOf(2, 24, 0, 2), clueOf(3, 24, 0, 0), clueOf(3, 23, 0, 1), clueOf(4, 0, 3, 35), clueOf(5, 0, 0, 1)}},
		// A thing fills a box.
		{[]int{6, 6, 1},
			[]impl.Clue{clueOf(2, 6, 0, 3), clueOf(2, 7, 0, 2), clueOf(2, 12, 0, 2), clueOf(2, 13, 0, 1)},
			[]impl.Clue{clueOf(2, 6, 0, 2), clueOf(2, 7, 0, 3), clueOf(2, 12, 0, 1)}},
		// By a rule there are more boxes than there need be.
		{[]int{2, 3, 4, 3},
			[]impl.Clue{clueOf(2, 6, 0, 2)},
			[]impl.Clue{clueOf(2, 6, 0, 3), clueOf(2, 6, 0, 4)}},
		// Things apart from each other have a size together.
		{[]int{5, 3, 2, 6},
			[]impl.Clue{clueOf(3, 7, 0, 1), clueOf(3, 16, 0, 1), clueOf(3, 13, 0, 1), clueOf(3, 12, 0, 0), clueOf(3, 4, 0, 0), clueOf(4, 0, 2, 10), clueOf(4, 3, 1, 18), clueOf(1, 3, 0, 1), clueOf(1, 2, 1, 0), clueOf(5, 0, 0, 6)},
			[]impl.Clue{clueOf(3, 7, 0, 0), clueOf(3, 12, 0, 1), clueOf(4, 0, 1, 10), clueOf(1, 0, 3, 1), clueOf(5, 0, 0, 5)}},
	}
	for _, c := range cases {
		for _, clue := range c.fits {
			mustReturn(t, fmt.Sprint("DoesFit of ", clue, " and ", c.things), results(impl.DoesFit(clue, c.things)), true)
		}
		for _, clue := range c.misses {
			mustReturn(t, fmt.Sprint("DoesFit of ", clue, " and ", c.things), results(impl.DoesFit(clue, c.things)), false)
		}
	}
}

// TestIsClue asks for all numbers within the bounds and about them, and for numbers of things that cannot be hidden as well.
func TestIsClue(t *testing.T) {
	for things := -1; things <= 6; things++ {
		clues := map[impl.Clue]bool{}
		for _, c := range allCluesInModel(things) {
			clues[c] = true
		}
		for kind := -1; kind <= 6; kind++ {
			for a := -1; a <= 25; a++ {
				for b := -1; b <= 6; b++ {
					for told := -1; told <= 37; told++ {
						c := clueOf(kind, a, b, told)
						if is := impl.IsClue(things, c); is != clues[c] {
							t.Errorf("%v is a clue of %d things: %v", c, things, is)
						}
					}
				}
			}
		}
	}
}

// TestIsClueOfNoHiddenThings asks for numbers of things that hidden things cannot have, of which nothing is a clue.
func TestIsClueOfNoHiddenThings(t *testing.T) {
	clues := allCluesInModel(4)
	// These tell of things that there would be if there were so many.
	clues = append(clues, clueOf(1, 0, 4, 1), clueOf(4, 4, 3, 36), clueOf(1, 98, 99, 0), clueOf(4, 0, math.MaxInt-1, 1), clueOf(1, math.MaxInt-1, 5, 0))
	for _, things := range append(badThingCounts(), math.MinInt+1, -100, -3, 7, 8, 24, 1<<32, 1<<32+2, 1<<62, math.MaxInt-1) {
		for _, c := range clues {
			if impl.IsClue(things, c) {
				t.Errorf("%v is a clue of %d things", c, things)
			}
		}
	}
}

// TestIsClueOfThingsThatThereAreNot asks for clues of hidden things that tell of a thing behind the last one, or before the first one.
func TestIsClueOfThingsThatThereAreNot(t *testing.T) {
	for things := 2; things <= 4; things++ {
		for _, k := range []int{things, things + 1, 5, 100, math.MaxInt, -1, -2, math.MinInt} {
			for _, c := range []impl.Clue{clueOf(1, 0, k, 1), clueOf(1, k, 1, 0), clueOf(4, 1, k, 6), clueOf(4, k, 0, 6)} {
				if impl.IsClue(things, c) {
					t.Errorf("%v is a clue of %d things", c, things)
				}
			}
		}
	}
}

func TestIsPuzzle(t *testing.T) {
	good := []impl.Puzzle{puzzleOf(2), puzzleOf(3), puzzleOf(4), {Things: 2, Clues: []impl.Clue{}}, examplePuzzle(), puzzleOf(4, slices.Repeat([]impl.Clue{clueOf(4, 3, 2, 36)}, 6)...)}
	eachPuzzle(func(p impl.Puzzle) { good = append(good, p) })
	for _, p := range good {
		if !impl.IsPuzzle(p) {
			t.Errorf("%v is no puzzle", p)
		}
	}
	for _, p := range badPuzzles() {
		if impl.IsPuzzle(p) {
			t.Errorf("%v is a puzzle", p)
		}
	}
}

// TestAllCluesFollowTheModel compares for each clue all hidden things, and the puzzle with this clue alone.
func TestAllCluesFollowTheModel(t *testing.T) {
	for things, model := range allPuzzlesInModel() {
		for _, c := range allCluesInModel(things) {
			fitting := model.fitting(c)
			for i, hidden := range model.hidden {
				if fits, ok := impl.DoesFit(c, hidden); !ok || fits != fitting[i] {
					t.Errorf("DoesFit of %v and %v: %v %v", c, hidden, fits, ok)
				}
			}
			mustFollowPuzzles(t, model, puzzleOf(things, c))
		}
	}
}

func TestPuzzlesFollowTheModel(t *testing.T) {
	models := allPuzzlesInModel()
	solved := 0
	eachPuzzle(func(p impl.Puzzle) {
		mustFollowPuzzles(t, models[p.Things], p)
		if models[p.Things].count(p.Clues) == 1 {
			solved++
		}
	})
	if solved < 100 {
		t.Errorf("only %d puzzles are solved", solved)
	}
}

// mustFollowPuzzles compares all that there is to tell of a puzzle.
func mustFollowPuzzles(t *testing.T, m puzzlesInModel, p impl.Puzzle) {
	t.Helper()
	name := fmt.Sprint(" of ", p)
	solutions := m.solutions(p.Clues)
	mustReturn(t, "Solutions"+name, results(impl.Solutions(p)), solutions)
	mustReturn(t, "CountSolutions"+name, results(impl.CountSolutions(p)), len(solutions))
	mustReturn(t, "IsSolved"+name, results(impl.IsSolved(p)), len(solutions) == 1)
	mustReturn(t, "NeedlessClues"+name, results(impl.NeedlessClues(p)), m.needless(p.Clues))
	mustReturn(t, "LeftByClues"+name, results(impl.LeftByClues(p)), m.left(p.Clues))
	sure, is := m.sure(p.Clues)
	mustReturnIf(t, is, "SureSizes"+name, results(impl.SureSizes(p)), sure)
	if is {
		mustReturn(t, "FirstSolution"+name, results(impl.FirstSolution(p)), solutions[0])
	} else {
		mustFail(t, "FirstSolution"+name, results(impl.FirstSolution(p)))
	}
	best, is := m.best(p.Clues)
	mustReturnIf(t, is, "BestClue"+name, results(impl.BestClue(p)), best)
	harder, is := m.harder(p.Clues)
	mustReturnIf(t, is, "HarderPuzzle"+name, results(impl.HarderPuzzle(p)), puzzleOf(p.Things, harder...))
}

// TestSolutionsFitAllClues is the first part of promise 9.
func TestSolutionsFitAllClues(t *testing.T) {
	eachPuzzle(func(p impl.Puzzle) {
		solutions, ok := impl.Solutions(p)
		if !ok {
			t.Fatalf("Solutions of %v fails", p)
		}
		for _, things := range hiddenInModel(p.Things) {
			is := slices.ContainsFunc(solutions, func(solution []int) bool { return slices.Equal(solution, things) })
			fits := true
			for _, c := range p.Clues {
				fit, _ := impl.DoesFit(c, things)
				fits = fits && fit
			}
			if is != fits {
				t.Errorf("%v is a solution of %v: %v", things, p, is)
			}
		}
		if !slices.IsSortedFunc(solutions, slices.Compare) {
			t.Errorf("Solutions of %v are in no order: %v", p, solutions)
		}
	})
}

// TestHarderPuzzlesAreSolvedByTheSameThings is the second part of promise 9.
func TestHarderPuzzlesAreSolvedByTheSameThings(t *testing.T) {
	eachPuzzle(func(p impl.Puzzle) {
		solved, _ := impl.IsSolved(p)
		harder, ok := impl.HarderPuzzle(p)
		if ok != solved {
			t.Errorf("HarderPuzzle of %v: %v", p, ok)
		}
		if !ok {
			return
		}
		name := fmt.Sprint(" of the harder puzzle of ", p)
		things, _ := impl.FirstSolution(p)
		mustReturn(t, "Solutions"+name, results(impl.Solutions(harder)), [][]int{things})
		mustReturn(t, "SureSizes"+name, results(impl.SureSizes(harder)), things)
		// No clue can be taken out any more.
		mustReturn(t, "NeedlessClues"+name, results(impl.NeedlessClues(harder)), []int{})
		mustReturn(t, "HarderPuzzle"+name, results(impl.HarderPuzzle(harder)), harder)
	})
}

func TestDropClueByHand(t *testing.T) {
	sum, greater, greatest := clueOf(0, 0, 0, 11), clueOf(1, 0, 1, 1), clueOf(5, 0, 0, 6)
	p := puzzleOf(2, sum, greater, greatest)
	mustReturn(t, "DropClue of the first one", results(impl.DropClue(p, 0)), puzzleOf(2, greater, greatest))
	mustReturn(t, "DropClue of one between", results(impl.DropClue(p, 1)), puzzleOf(2, sum, greatest))
	mustReturn(t, "DropClue of the last one", results(impl.DropClue(p, 2)), puzzleOf(2, sum, greater))
	mustReturn(t, "DropClue of the only one", results(impl.DropClue(puzzleOf(3, sum), 0)), puzzleOf(3))
	// Of the same clues it matters which one is dropped only by what is between them.
	mustReturn(t, "DropClue of the first one of two", results(impl.DropClue(puzzleOf(2, sum, greater, sum), 0)), puzzleOf(2, greater, sum))
	mustReturn(t, "DropClue of the second one of two", results(impl.DropClue(puzzleOf(2, sum, greater, sum), 2)), puzzleOf(2, sum, greater))
}

func TestAddClueByHand(t *testing.T) {
	sum, greatest := clueOf(0, 0, 0, 11), clueOf(5, 0, 0, 6)
	mustReturn(t, "AddClue to none", results(impl.AddClue(puzzleOf(2), sum)), puzzleOf(2, sum))
	mustReturn(t, "AddClue to one", results(impl.AddClue(puzzleOf(2, sum), greatest)), puzzleOf(2, sum, greatest))
	mustReturn(t, "AddClue of the same one", results(impl.AddClue(puzzleOf(2, sum), sum)), puzzleOf(2, sum, sum))
	five := slices.Repeat([]impl.Clue{sum}, 5)
	mustReturn(t, "AddClue to five", results(impl.AddClue(puzzleOf(4, five...), greatest)), puzzleOf(4, append(five, greatest)...))
	// Nothing has the sizes that it tells of: it is a clue all the same.
	mustReturn(t, "AddClue without a solution", results(impl.AddClue(puzzleOf(2), clueOf(4, 1, 0, 35))), puzzleOf(2, clueOf(4, 1, 0, 35)))
	mustReturn(t, "AddClue of the last thing", results(impl.AddClue(puzzleOf(4), clueOf(1, 3, 0, 1))), puzzleOf(4, clueOf(1, 3, 0, 1)))
}

func TestCluesAreDroppedAndAdded(t *testing.T) {
	m := &mixer{state: 72}
	eachPuzzle(func(p impl.Puzzle) {
		for k := range p.Clues {
			mustReturn(t, fmt.Sprint("DropClue of ", p, " and ", k), results(impl.DropClue(p, k)), puzzleOf(p.Things, withoutInModel(p.Clues, k)...))
		}
		if len(p.Clues) < impl.MaxClues {
			c := m.clue(m.next(0, 5), p.Things)
			longer, ok := impl.AddClue(p, c)
			mustReturn(t, fmt.Sprint("AddClue of ", p, " and ", c), results(longer, ok), puzzleOf(p.Things, slices.Concat(p.Clues, []impl.Clue{c})...))
			mustReturn(t, fmt.Sprint("DropClue of ", c), results(impl.DropClue(longer, len(p.Clues))), p)
		}
	})
}

func TestMakePuzzleByHand(t *testing.T) {
	cases := []struct {
		things      []int
		clues, seed int
		text        string
	}{
		{[]int{6, 5}, 0, 0, "2t"},
		{[]int{1, 2, 3}, 0, 9999, "3t"},
		{[]int{6, 5}, 1, 0, "2t1.0.1.1"},
		{[]int{5, 6}, 1, 0, "2t1.0.1.0"},
		{[]int{6, 5}, 6, 0, "2t1.0.1.1,0.0.0.11,2.15.0.1,4.0.1.30,0.0.0.11,3.17.0.0"},
		{[]int{1, 2, 3, 4}, 6, 0, "4t1.2.3.0,0.0.0.10,2.15.0.1,4.2.3.12,0.0.0.10,3.17.0.0"},
		{[]int{6, 5}, 6, 9999, "2t4.0.1.30,3.16.0.0,0.0.0.11,4.0.1.30,3.11.0.1,2.18.0.1"},
		{[]int{6, 6, 6, 6}, 6, 9999, "4t4.0.1.36,3.16.0.0,0.0.0.24,4.2.3.36,3.11.0.0,2.18.0.2"},
		// The thing behind the last one is the first one.
		{[]int{1, 2, 3}, 6, 4711, "3t1.2.0.1,0.0.0.6,3.6.0.1,1.2.0.1,5.0.0.3,2.16.0.1"},
		{[]int{1, 1}, 3, 1, "2t2.23.0.1,1.1.0.0,5.0.0.1"},
	}
	for _, c := range cases {
		p, ok := impl.ParsePuzzle(c.text)
		if !ok {
			t.Fatalf("%s is no puzzle", c.text)
		}
		mustReturn(t, fmt.Sprint("MakePuzzle of ", c.things, " with ", c.clues, " and ", c.seed), results(impl.MakePuzzle(c.things, c.clues, c.seed)), p)
	}
}

func TestMakePuzzleFollowsTheModel(t *testing.T) {
	m := &mixer{state: 73}
	for seed := 0; seed <= 9999; seed++ {
		things, clues := m.hiddenThings(), seed%7
		name := fmt.Sprint("MakePuzzle of ", things, " with ", clues, " and ", seed)
		p, ok := impl.MakePuzzle(things, clues, seed)
		mustReturn(t, name, results(p, ok), madeInModel(things, clues, seed))
		for _, c := range p.Clues {
			mustReturn(t, fmt.Sprint(name, ": DoesFit of ", c), results(impl.DoesFit(c, things)), true)
		}
		if seed%50 == 0 {
			solutions, _ := impl.Solutions(p)
			if !slices.ContainsFunc(solutions, func(solution []int) bool { return slices.Equal(solution, things) }) {
				t.Errorf("%s is not solved by these things", name)
			}
		}
	}
}

func TestPuzzleTexts(t *testing.T) {
	texts := map[string]impl.Puzzle{
		"2t":                        puzzleOf(2),
		"3t":                        puzzleOf(3),
		"4t":                        puzzleOf(4),
		"2t0.0.0.0":                 puzzleOf(2, clueOf(0, 0, 0, 0)),
		"2t0.0.0.24":                puzzleOf(2, clueOf(0, 0, 0, 24)),
		"4t1.3.2.0,1.0.3.1":         puzzleOf(4, clueOf(1, 3, 2, 0), clueOf(1, 0, 3, 1)),
		"3t2.6.0.1,2.24.0.4":        puzzleOf(3, clueOf(2, 6, 0, 1), clueOf(2, 24, 0, 4)),
		"3t3.1.0.0,3.24.0.1":        puzzleOf(3, clueOf(3, 1, 0, 0), clueOf(3, 24, 0, 1)),
		"2t4.0.1.1,4.1.0.36":        puzzleOf(2, clueOf(4, 0, 1, 1), clueOf(4, 1, 0, 36)),
		"4t5.0.0.1,5.0.0.6":         puzzleOf(4, clueOf(5, 0, 0, 1), clueOf(5, 0, 0, 6)),
		"2t0.0.0.11,1.0.1.1":        examplePuzzle(),
		"2t5.0.0.3,5.0.0.3":         puzzleOf(2, clueOf(5, 0, 0, 3), clueOf(5, 0, 0, 3)),
		"4t" + sixTimes("4.3.2.36"): puzzleOf(4, slices.Repeat([]impl.Clue{clueOf(4, 3, 2, 36)}, 6)...),
	}
	m := &mixer{state: 74}
	mustBeTexts(t, texts, func() impl.Puzzle { return m.puzzle(m.next(0, impl.MaxClues)) }, impl.ParsePuzzle, impl.PuzzleText)
	eachPuzzle(func(p impl.Puzzle) {
		mustReturn(t, fmt.Sprint("PuzzleText of ", p), results(impl.PuzzleText(p)), puzzleTextInModel(p))
	})
}

// sixTimes returns the text of six clues that are the same.
func sixTimes(clue string) string { return strings.Repeat(clue+",", 5) + clue }

func TestTextsThatAreNoPuzzles(t *testing.T) {
	texts := []string{
		// No things, or no t.
		"", "t", "2", "22", "2.0.0.0.11", "20.0.0.11", "0.0.0.11", "t0.0.0.11", "tt", "2tt", "t2", "2t2t", "tt2", "2T", "2T0.0.0.11", "2s0.0.0.11", "2 0.0.0.11", "2x", "2,0.0.0.11", "2t0.0.0.11t",
		// Numbers of things that there are not.
		"0t", "1t", "5t", "-2t", "24t", "1t0.0.0.2", "5t0.0.0.11", "0t0.0.0.0", "99999999999999999999t", "18446744073709551618t",
		// A sign, a zero ahead, a space.
		"+2t", "+2t0.0.0.11", "2t+0.0.0.11", "2t0.0.0.+11", "2t-0.0.0.11", "2t0.-0.0.11", "2t0.0.-0.11", "2t0.0.0.-11", "2t0.0.0.-0", "02t", "02t0.0.0.11", "2t00.0.0.11", "2t0.00.0.11", "2t0.0.00.11", "2t0.0.0.011", "2t0.0.0.00",
		" 2t", "2 t", "2t ", "2t 0.0.0.11", "2t0.0.0.11 ", "2t0. 0.0.11", "2t0.0.0.11, 1.0.1.1", "2t0.0.0.11 ,1.0.1.1", "2t0.0.0.11\n", "\n2t", "2t\x00", "\x002t",
		// A point or a comma too many or too few.
		"2t.", "2t0", "2t0.0", "2t0.0.0", "2t0.0.0.", "2t.0.0.0.11", "2t0.0.0.11.", "2t0..0.0.11", "2t0.0..11", "2t0.0.0..11", "2t0.0.0.0.11", "2t0.0.011", "2t...", "2t0...11",
		"2t,", "2t,,", "2t0.0.0.11,", "2t,0.0.0.11", "2t0.0.0.11,,1.0.1.1", "2t0.0.0.111.0.1.1", "2t0.0.0.11.1.0.1.1", "2t0.0.0.11,1.0.1", "2t0.0.0,1.0.1.1", "2t0,0,0,11", "2t0.0.0,11", "2t,1.0.1.1,",
		// Other letters.
		"2t0/0/0/11", "2t0-0-0-11", "2t0|0|0|11", "2t0.0.0.11;1.0.1.1", "2t0.0.0.11/1.0.1.1", "2ta.0.0.11", "2t0.0.0.b", "2t0x0.0.0.11", "2t0.0.0.1e1", "2t0.0.0.1_1", "2t0·0·0·11", "٢t", "2t٠.٠.٠.١", "2ţ", "\xff", "2t\xff", "2\xfft",
		// No clues: kinds, numbers that are not told, and numbers that are too small or too large.
		"2t-1.0.0.11", "2t6.0.0.1", "2t6.0.0.0", "2t0.1.0.11", "2t0.0.1.11", "2t0.0.0.25", "2t0.0.0.-1", "2t1.0.0.1", "2t1.1.1.0", "2t1.0.2.1", "2t1.2.0.1", "2t1.-1.0.1", "2t1.0.1.2", "3t1.3.0.1", "4t1.0.4.1",
		"2t2.5.0.1", "2t2.25.0.1", "2t2.6.1.1", "2t2.6.0.0", "2t2.6.0.5", "2t3.0.0.0", "2t3.25.0.0", "2t3.1.1.0", "2t3.1.0.2", "2t4.0.1.0", "2t4.0.1.37", "2t4.0.0.1", "2t4.1.1.36", "2t4.0.2.1", "2t5.0.0.0", "2t5.0.0.7", "2t5.1.0.1", "2t5.0.1.1",
		"2t0.0.0.99999999999999999999", "2t99999999999999999999.0.0.0", "2t0.18446744073709551616.0.11", "2t0.0.0.18446744073709551627", "2t0.0.0.-9223372036854775808",
		// Seven clues and more.
		"4t" + sixTimes("0.0.0.11") + ",0.0.0.11", "4t" + sixTimes("0.0.0.11") + ",", "4t" + sixTimes("0.0.0.11") + ".0.0.0.11", "2t" + strings.Repeat("0.0.0.11,", 100000) + "0.0.0.11",
		strings.Repeat("2", 100000) + "t", "2t" + strings.Repeat("0", 100000) + ".0.0.11", strings.Repeat("t", 100000), "2t" + strings.Repeat(",", 100000), "2t" + strings.Repeat(".", 100000), "2t" + strings.Repeat("0.", 100000) + "0",
	}
	for _, text := range texts {
		mustFail(t, fmt.Sprintf("ParsePuzzle of %.40q", text), results(impl.ParsePuzzle(text)))
	}
}

func TestPuzzleTextsOfShortStrings(t *testing.T) {
	// A text of one clue has nine bytes at least.
	mustParseTexts(t, "02t.,", 9, newClueTextsInModel().isPuzzleText, impl.ParsePuzzle, impl.PuzzleText)
}

// TestPuzzleTextsWithAByteChanged takes a byte out of texts, puts one in, or exchanges one.
func TestPuzzleTextsWithAByteChanged(t *testing.T) {
	isText := newClueTextsInModel().isPuzzleText
	check := func(s string) { mustParseText(t, s, isText, impl.ParsePuzzle, impl.PuzzleText) }
	const bytes = "0123456789t.,-+ T\x00"
	for _, text := range []string{"2t", "3t1.0.2.1", "2t0.0.0.11,1.0.1.1", "4t2.6.0.4,3.24.0.1,4.3.0.36,5.0.0.6", "4t" + sixTimes("3.10.0.0")} {
		for i := range len(text) + 1 {
			for _, b := range strings.Split(bytes, "") {
				check(text[:i] + b + text[i:])
				if i < len(text) {
					check(text[:i] + b + text[i+1:])
				}
			}
			if i < len(text) {
				check(text[:i] + text[i+1:])
			}
		}
	}
}
