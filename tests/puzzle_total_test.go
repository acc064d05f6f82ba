package tests

import (
	"fmt"
	"math"
	"slices"
	"testing"

	"loop.example/g01334/impl"
)

// Promise 11 for chapter 9: every function accepts all arguments, modifies none of them and shares no memory with them.

// noClues are no clues of two things, and of three and four ones only if they tell of another thing.
func noClues() []impl.Clue {
	var clues []impl.Clue
	for _, bad := range []int{-1, -2, 6, 7, 100, math.MinInt, math.MaxInt} {
		clues = append(clues, clueOf(bad, 0, 0, 0), clueOf(bad, 0, 0, 1), clueOf(bad, 0, 1, 1), clueOf(bad, 6, 0, 1))
	}
	for _, bad := range []int{-1, -2, 37, 100, math.MinInt, math.MaxInt} {
		clues = append(clues, clueOf(0, 0, 0, bad), clueOf(1, 0, 1, bad), clueOf(2, 6, 0, bad), clueOf(3, 5, 0, bad), clueOf(4, 0, 1, bad), clueOf(5, 0, 0, bad))
		clues = append(clues, clueOf(0, bad, 0, 5), clueOf(1, bad, 0, 1), clueOf(2, bad, 0, 1), clueOf(3, bad, 0, 1), clueOf(4, bad, 0, 5), clueOf(5, bad, 0, 5))
		clues = append(clues, clueOf(0, 0, bad, 5), clueOf(1, 0, bad, 1), clueOf(2, 6, bad, 1), clueOf(3, 5, bad, 1), clueOf(4, 0, bad, 5), clueOf(5, 0, bad, 5))
	}
	return append(clues,
		// Just outside the bounds.
		clueOf(0, 0, 0, 25), clueOf(1, 0, 1, 2), clueOf(2, 5, 0, 1), clueOf(2, 25, 0, 1), clueOf(2, 6, 0, 0), clueOf(2, 6, 0, 5), clueOf(3, 0, 0, 0), clueOf(3, 25, 0, 0), clueOf(3, 5, 0, 2), clueOf(4, 0, 1, 0), clueOf(5, 0, 0, 0), clueOf(5, 0, 0, 7),
		// Numbers that are not told.
		clueOf(0, 1, 0, 5), clueOf(0, 0, 1, 5), clueOf(0, 0, 1, 0), clueOf(2, 6, 1, 1), clueOf(3, 5, 1, 1), clueOf(5, 1, 0, 5), clueOf(5, 0, 1, 5), clueOf(5, 0, 1, 1),
		// Things that are the same, and such that there are not.
		clueOf(1, 0, 0, 0), clueOf(1, 0, 0, 1), clueOf(1, 1, 1, 0), clueOf(4, 0, 0, 1), clueOf(4, 1, 1, 36), clueOf(1, 0, 2, 1), clueOf(1, 2, 0, 0), clueOf(4, 1, 2, 5), clueOf(4, 2, 1, 5), clueOf(1, 2, 3, 1), clueOf(4, 4, 3, 5), clueOf(1, 4, 0, 1),
	)
}

// hasNoOther reports whether a clue tells of no other things than the first two ones, whether it is a clue or not.
func hasNoOther(c impl.Clue) bool {
	return c.Kind != 1 && c.Kind != 4 || c.A < 2 && c.B < 2
}

// badThingCounts are no numbers of hidden things.
func badThingCounts() []int {
	return []int{0, 1, 5, 6, -1, -2, -4, 9, 100, math.MinInt, math.MaxInt}
}

func badPuzzles() []impl.Puzzle {
	var puzzles []impl.Puzzle
	good := clueOf(0, 0, 0, 11)
	for _, bad := range badThingCounts() {
		puzzles = append(puzzles, puzzleOf(bad), puzzleOf(bad, good), puzzleOf(bad, slices.Repeat([]impl.Clue{good}, 6)...))
	}
	for things := 2; things <= 4; things++ {
		puzzles = append(puzzles, puzzleOf(things, slices.Repeat([]impl.Clue{good}, 7)...), puzzleOf(things, slices.Repeat([]impl.Clue{good}, 1000)...))
		// The next thing behind the last one.
		puzzles = append(puzzles, puzzleOf(things, clueOf(1, 0, things, 1)), puzzleOf(things, clueOf(4, things, 0, 5)), puzzleOf(things, clueOf(4, 0, -1, 5)))
	}
	for _, bad := range noClues() {
		puzzles = append(puzzles, puzzleOf(2, bad), puzzleOf(2, good, bad), puzzleOf(2, bad, good), puzzleOf(2, append(slices.Repeat([]impl.Clue{good}, 5), bad)...))
		if hasNoOther(bad) {
			puzzles = append(puzzles, puzzleOf(3, bad, good), puzzleOf(4, good, bad))
		}
	}
	// What comes before has no solution, so that the last clue need not be looked at to find none.
	return append(puzzles, puzzleOf(2, clueOf(0, 0, 0, 0), clueOf(5, 0, 0, 7)), puzzleOf(2, clueOf(4, 0, 1, 35), clueOf(4, 0, 2, 35)))
}

func badHidden() [][]int {
	return [][]int{
		nil, {}, {1}, {6}, {1, 2, 3, 4, 5}, repeated(1, 5), repeated(6, 6), repeated(3, 1000),
		{0, 1}, {1, 0}, {7, 1}, {1, 7}, {6, 5, 0}, {6, 5, 7}, {0, 6, 5}, {1, 2, 3, 0}, {1, 2, 3, 7}, {-1, 2}, {2, -1}, {100, 1},
		{math.MinInt, 1}, {1, math.MaxInt}, {math.MinInt, math.MaxInt},
	}
}

// puzzleArguments are all that the functions of chapter 9 are called with.
type puzzleArguments struct {
	p      impl.Puzzle
	c      impl.Clue
	k      int
	things []int
	clues  int
	seed   int
}

// examplePuzzling are valid arguments for all functions.
func examplePuzzling() puzzleArguments {
	return puzzleArguments{p: examplePuzzle(), c: clueOf(5, 0, 0, 6), k: 1, things: []int{6, 5}, clues: 3, seed: 7}
}

// puzzleCalls are all functions that need a puzzle.
func puzzleCalls() map[string]func(a puzzleArguments) []any {
	return map[string]func(a puzzleArguments) []any{
		"IsPuzzle":       func(a puzzleArguments) []any { return results(impl.IsPuzzle(a.p)) },
		"Solutions":      func(a puzzleArguments) []any { return results(impl.Solutions(a.p)) },
		"CountSolutions": func(a puzzleArguments) []any { return results(impl.CountSolutions(a.p)) },
		"FirstSolution":  func(a puzzleArguments) []any { return results(impl.FirstSolution(a.p)) },
		"SureSizes":      func(a puzzleArguments) []any { return results(impl.SureSizes(a.p)) },
		"IsSolved":       func(a puzzleArguments) []any { return results(impl.IsSolved(a.p)) },
		"NeedlessClues":  func(a puzzleArguments) []any { return results(impl.NeedlessClues(a.p)) },
		"DropClue":       func(a puzzleArguments) []any { return results(impl.DropClue(a.p, a.k)) },
		"AddClue":        func(a puzzleArguments) []any { return results(impl.AddClue(a.p, a.c)) },
		"LeftByClues":    func(a puzzleArguments) []any { return results(impl.LeftByClues(a.p)) },
		"BestClue":       func(a puzzleArguments) []any { return results(impl.BestClue(a.p)) },
		"HarderPuzzle":   func(a puzzleArguments) []any { return results(impl.HarderPuzzle(a.p)) },
		"PuzzleText":     func(a puzzleArguments) []any { return results(impl.PuzzleText(a.p)) },
	}
}

// hiddenCalls are all functions that need hidden things.
func hiddenCalls() map[string]func(a puzzleArguments) []any {
	return map[string]func(a puzzleArguments) []any{
		"DoesFit":    func(a puzzleArguments) []any { return results(impl.DoesFit(a.c, a.things)) },
		"MakePuzzle": func(a puzzleArguments) []any { return results(impl.MakePuzzle(a.things, a.clues, a.seed)) },
	}
}

// puzzlingCalls are all functions of chapter 9 but ParsePuzzle.
func puzzlingCalls() map[string]func(a puzzleArguments) []any {
	calls := puzzleCalls()
	for name, call := range hiddenCalls() {
		calls[name] = call
	}
	calls["IsClue"] = func(a puzzleArguments) []any { return results(impl.IsClue(a.p.Things, a.c)) }
	return calls
}

// TestExamplePuzzlingIsValid makes sure that calls with one argument exchanged fail because of that one.
func TestExamplePuzzlingIsValid(t *testing.T) {
	for name, call := range puzzlingCalls() {
		if all := call(examplePuzzling()); !succeeded(all) {
			t.Errorf("%s fails", name)
		}
	}
}

func TestPuzzlesAreRequired(t *testing.T) {
	for name, call := range puzzleCalls() {
		for _, p := range badPuzzles() {
			a := examplePuzzling()
			a.p, a.k = p, 0
			mustFail(t, fmt.Sprintf("%s of %.200s", name, fmt.Sprint(p)), call(a))
		}
	}
}

func TestHiddenThingsAreRequired(t *testing.T) {
	for name, call := range hiddenCalls() {
		for _, things := range badHidden() {
			for clues := 0; clues <= impl.MaxClues; clues++ {
				a := examplePuzzling()
				a.things, a.clues = things, clues
				mustFail(t, fmt.Sprint(name, " of ", things, " with ", clues), call(a))
			}
		}
	}
}

func TestCluesAreRequired(t *testing.T) {
	for _, c := range noClues() {
		if impl.IsClue(2, c) {
			t.Errorf("%v is a clue", c)
		}
		for _, things := range [][]int{{6, 5}, {1, 1}, {6, 6}} {
			mustFail(t, fmt.Sprint("DoesFit of ", c, " and ", things), results(impl.DoesFit(c, things)))
		}
		mustFail(t, fmt.Sprint("AddClue of ", c), results(impl.AddClue(puzzleOf(2), c)))
		mustFail(t, fmt.Sprint("AddClue to others of ", c), results(impl.AddClue(examplePuzzle(), c)))
	}
	for things := 2; things <= 4; things++ {
		// A thing that there is not, but would be if there were one more.
		for _, c := range []impl.Clue{clueOf(1, 0, things, 1), clueOf(1, things, 0, 1), clueOf(4, 1, things, 6), clueOf(4, things, 1, 6)} {
			mustFail(t, fmt.Sprint("DoesFit of ", c, " and ", things), results(impl.DoesFit(c, repeated(3, things))))
			mustFail(t, fmt.Sprint("AddClue of ", c, " to ", things), results(impl.AddClue(puzzleOf(things), c)))
		}
	}
}

func TestIndicesOfCluesAreRequired(t *testing.T) {
	six := puzzleOf(3, slices.Repeat([]impl.Clue{clueOf(0, 0, 0, 11)}, 6)...)
	for _, p := range []impl.Puzzle{puzzleOf(2), puzzleOf(4, clueOf(5, 0, 0, 6)), examplePuzzle(), six} {
		for _, k := range []int{-1, -2, -6, len(p.Clues), len(p.Clues) + 1, 7, 100, math.MinInt, math.MaxInt} {
			mustFail(t, fmt.Sprint("DropClue of ", p, " and ", k), results(impl.DropClue(p, k)))
		}
	}
}

func TestWhatPuzzlesDoNotAllow(t *testing.T) {
	six := puzzleOf(3, slices.Repeat([]impl.Clue{clueOf(0, 0, 0, 11)}, 6)...)
	mustFail(t, "AddClue to six", results(impl.AddClue(six, clueOf(5, 0, 0, 6))))
	mustFail(t, "AddClue to six, of the same", results(impl.AddClue(six, six.Clues[0])))
	for things := 2; things <= 4; things++ {
		mustFail(t, "BestClue of none", results(impl.BestClue(puzzleOf(things))))
	}
	for _, p := range []impl.Puzzle{puzzleOf(2), puzzleOf(4), six, puzzleOf(2, clueOf(0, 0, 0, 11)), puzzleOf(2, clueOf(4, 0, 1, 35)), puzzleOf(2, clueOf(0, 0, 0, 2), clueOf(5, 0, 0, 2))} {
		mustFail(t, fmt.Sprint("HarderPuzzle of ", p), results(impl.HarderPuzzle(p)))
	}
	for _, p := range []impl.Puzzle{puzzleOf(2, clueOf(4, 0, 1, 35)), puzzleOf(2, clueOf(0, 0, 0, 2), clueOf(5, 0, 0, 2))} {
		mustFail(t, fmt.Sprint("FirstSolution of ", p), results(impl.FirstSolution(p)))
		mustFail(t, fmt.Sprint("SureSizes of ", p), results(impl.SureSizes(p)))
	}
}

func TestNumbersOfMadePuzzlesAreRequired(t *testing.T) {
	for _, things := range [][]int{{6, 5}, {1, 2, 3, 4}} {
		for _, clues := range []int{-1, -2, -6, impl.MaxClues + 1, impl.MaxClues + 2, 100, 1 << 32, math.MinInt, math.MaxInt} {
			mustFail(t, fmt.Sprint("MakePuzzle of ", things, " with ", clues), results(impl.MakePuzzle(things, clues, 7)))
		}
		for _, seed := range []int{-1, -2, -9999, 10000, 10001, 10007, 1 << 32, math.MinInt, math.MaxInt} {
			for _, clues := range []int{0, 1, impl.MaxClues} {
				mustFail(t, fmt.Sprint("MakePuzzle of ", things, " with ", clues, " and ", seed), results(impl.MakePuzzle(things, clues, seed)))
			}
		}
	}
}

func TestPuzzleArgumentsAreKept(t *testing.T) {
	clues := examplePuzzle().Clues
	sum := clueOf(0, 0, 0, 12)
	changes := []func(a *puzzleArguments){
		func(a *puzzleArguments) {},
		func(a *puzzleArguments) { a.k = 0 },
		func(a *puzzleArguments) { a.k = 2 },
		func(a *puzzleArguments) { a.p = puzzleOf(2) },
		func(a *puzzleArguments) { a.p = puzzleOf(2, clues[0]); a.k = 0 },
		// Solved, and not to be made harder, or by one clue or several ones.
		func(a *puzzleArguments) { a.p = puzzleOf(3, clueOf(0, 0, 0, 18)) },
		func(a *puzzleArguments) { a.p = puzzleOf(2, sum, sum) },
		func(a *puzzleArguments) {
			a.p = puzzleOf(2, clues[1], clues[0], clueOf(5, 0, 0, 6), clueOf(4, 0, 1, 30))
			a.k = 3
		},
		func(a *puzzleArguments) { a.p = puzzleOf(2, sum, sum, sum, sum, sum); a.k = 4 },
		func(a *puzzleArguments) {
			a.p = puzzleOf(4, slices.Repeat([]impl.Clue{clueOf(2, 23, 0, 2)}, 6)...)
			a.k = 5
		},
		// Not solved.
		func(a *puzzleArguments) { a.p = puzzleOf(4, clueOf(0, 0, 0, 23), clueOf(2, 6, 0, 4)) },
		func(a *puzzleArguments) { a.p = puzzleOf(2, clueOf(4, 0, 1, 35)) },
		// No puzzles.
		func(a *puzzleArguments) { a.p = puzzleOf(2, slices.Repeat(clues, 4)...) },
		func(a *puzzleArguments) { a.p = puzzleOf(5, clues...) },
		func(a *puzzleArguments) { a.p = puzzleOf(2, clues[0], clueOf(6, 0, 0, 1)) },
		func(a *puzzleArguments) { a.c = clueOf(1, 0, 2, 1) },
		func(a *puzzleArguments) { a.c, a.things = clueOf(2, 6, 0, 2), []int{2, 3, 4, 3} },
		func(a *puzzleArguments) { a.c, a.things = clueOf(3, 7, 0, 1), []int{5, 3, 2, 6} },
		func(a *puzzleArguments) { a.things, a.clues, a.seed = []int{1, 2, 3, 4}, 6, 404 },
		func(a *puzzleArguments) { a.things, a.clues, a.seed = []int{1, 2, 3, 4}, 0, 0 },
		func(a *puzzleArguments) { a.things = []int{1, 7} },
		func(a *puzzleArguments) { a.clues, a.seed = 7, -1 },
	}
	for name, call := range puzzlingCalls() {
		for _, change := range changes {
			a := examplePuzzling()
			change(&a)
			title := fmt.Sprint(name, " of ", a)
			given, cluesKept := guardedBy(a.p.Clues, markedClue())
			things, thingsKept := guarded(a.things)
			a.p.Clues, a.things = given, things
			mustKeep(t, title, func() []any { return call(a) }, cluesKept, thingsKept)
		}
	}
}

func TestParsedPuzzlesAreNew(t *testing.T) {
	first, _ := impl.ParsePuzzle("2t0.0.0.11,1.0.1.1")
	spoil([]any{first})
	mustReturn(t, "ParsePuzzle again", results(impl.ParsePuzzle("2t0.0.0.11,1.0.1.1")), examplePuzzle())
}

func TestPuzzlesAtTheSameTime(t *testing.T) {
	for name, call := range puzzlingCalls() {
		mustAgreeAtTheSameTime(t, name, func() []any { return call(examplePuzzling()) })
	}
}

func TestAnyPuzzlesAreAccepted(t *testing.T) {
	odd := []int{math.MinInt, -2, -1, 0, 1, 2, 3, 4, 5, 6, 7, 24, 25, 36, 37, 9999, 10000, math.MaxInt}
	m := &mixer{state: 75}
	pick := func() int { return odd[m.next(0, len(odd)-1)] }
	for range 1000 {
		a := puzzleArguments{p: puzzleOf(pick()), c: clueOf(m.next(-1, 6), pick(), pick(), pick()), k: pick(), clues: pick(), seed: pick()}
		for range m.next(0, 4) {
			a.things = append(a.things, pick())
			a.p.Clues = append(a.p.Clues, clueOf(m.next(-1, 6), pick(), pick(), pick()))
		}
		if m.next(0, 1) == 0 {
			a.p, a.things = m.puzzle(m.next(0, impl.MaxClues)), m.hiddenThings()
		}
		for name, call := range puzzlingCalls() {
			if all := call(a); !succeeded(all) {
				mustFail(t, fmt.Sprint(name, " of ", a), all)
			}
		}
	}
}
