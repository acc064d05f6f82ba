package tests

import (
	"fmt"
	"math"
	"testing"

	"loop.example/g01334/impl"
)

// Promise 11 for chapter 3: every function accepts all arguments, modifies none of them and shares no memory with them.

func badSides() []int {
	return []int{0, -1, impl.MaxSide + 1, math.MinInt, math.MaxInt}
}

func badNests() [][]impl.Box {
	lists := [][]impl.Box{nil, {}, cubes(1, 2, 3, 4, 5, 6, 7, 8), sameNested(1, 1, 1, 1000)}
	for _, bad := range badSides() {
		for _, box := range []impl.Box{boxOf(bad, 2, 3), boxOf(1, bad, 3), boxOf(1, 2, bad), boxOf(bad, bad, bad)} {
			lists = append(lists, []impl.Box{box}, append(exampleNest(), box), append([]impl.Box{box}, exampleNest()...))
		}
	}
	return lists
}

// badNestings are no nestings of the boxes of the example.
func badNestings() [][]int {
	return [][]int{
		nil, {}, {-1}, {-1, -1, -1}, {1, -1, 3}, {-1, -1, -1, -1, -1}, {1, -1, 3, -1, -1}, repeated(-1, impl.MaxNested), repeated(-1, 1000),
		{0, -1, -1, -1}, {-1, 1, -1, -1}, {-1, -1, -1, 3}, {0, 1, 2, 3}, {0, 0, 0, 0}, {-1, 0, -1, -1}, {-1, -1, -1, 0}, {1, 0, -1, -1},
		{-1, 2, -1, -1}, {-1, -1, 1, -1}, {3, 3, -1, -1}, {-1, 3, 3, -1}, {3, 3, 3, -1}, {1, 3, 3, -1}, {2, 2, -1, -1},
		{-2, -1, -1, -1}, {-1, -1, -1, -2}, {4, -1, -1, -1}, {-1, -1, -1, 4}, {1, -1, 5, -1}, {math.MaxInt, -1, -1, -1}, {math.MinInt, -1, -1, -1}, {-1, -1, math.MinInt, -1},
	}
}

// boxesCalls are all functions of boxes alone.
func boxesCalls() map[string]func(boxes []impl.Box) []any {
	return map[string]func(boxes []impl.Box) []any{
		"AreBoxes":         func(boxes []impl.Box) []any { return results(impl.AreBoxes(boxes)) },
		"LongestNest":      func(boxes []impl.Box) []any { return results(impl.LongestNest(boxes)) },
		"FewestOuter":      func(boxes []impl.Box) []any { return results(impl.FewestOuter(boxes)) },
		"FirstNesting":     func(boxes []impl.Box) []any { return results(impl.FirstNesting(boxes)) },
		"CountNestings":    func(boxes []impl.Box) []any { return results(impl.CountNestings(boxes)) },
		"LeastOuterVolume": func(boxes []impl.Box) []any { return results(impl.LeastOuterVolume(boxes)) },
		"ApartBoxes":       func(boxes []impl.Box) []any { return results(impl.ApartBoxes(boxes)) },
		"PairsFitting":     func(boxes []impl.Box) []any { return results(impl.PairsFitting(boxes)) },
		"BoxesText":        func(boxes []impl.Box) []any { return results(impl.BoxesText(boxes)) },
	}
}

// nestCalls are all functions of chapter 3 with lists as arguments, by which they are called with a list of boxes around and an index.
func nestCalls() map[string]func(boxes []impl.Box, plan []int, k int) []any {
	calls := nestingCalls()
	for name, call := range boxesCalls() {
		calls[name] = func(boxes []impl.Box, plan []int, k int) []any { return call(boxes) }
	}
	calls["IsNesting"] = func(boxes []impl.Box, plan []int, k int) []any { return results(impl.IsNesting(boxes, plan)) }
	return calls
}

func TestBoxesAreRequired(t *testing.T) {
	for name, call := range nestCalls() {
		for _, boxes := range badNests() {
			mustFail(t, fmt.Sprint(name, " of ", boxes), call(boxes, repeated(-1, len(boxes)), 0))
			mustFail(t, fmt.Sprint(name, " by none of ", boxes), call(boxes, nil, 0))
			// The boxes of the example are valid ones in this one, where they come first.
			mustFail(t, fmt.Sprint(name, " by boxes inside of ", boxes), call(boxes, []int{1, -1, 3, -1, -1}, 1))
		}
	}
}

func TestNestingsAreRequired(t *testing.T) {
	for name, call := range nestingCalls() {
		for _, plan := range badNestings() {
			for k := -1; k <= 4; k++ {
				mustFail(t, fmt.Sprint(name, " by ", plan, k), call(exampleNest(), plan, k))
			}
		}
	}
}

func TestNestArgumentsAreKept(t *testing.T) {
	inputs := []struct {
		boxes []impl.Box
		plan  []int
		k     int
	}{
		{exampleNest(), []int{1, -1, 3, -1}, 1},
		{exampleNest(), []int{1, 3, -1, -1}, 3},
		{exampleNest(), []int{1, -1, 3, -1}, 0},
		{exampleNest(), []int{-1, 2, 3, -1}, 3},
		{exampleNest(), []int{1, -1, 3, -1}, 4},
		{cubes(5), []int{-1}, 0},
		{cubes(7, 6, 5, 4, 3, 2, 1), []int{-1, 0, 1, 2, 3, 4, 5}, 0},
		{[]impl.Box{boxOf(3, 6, 2), boxOf(5, 2, 1), boxOf(9, 4, 9)}, []int{2, 0, -1}, 2},
		{sameNested(3, 2, 1, 7), repeated(-1, 7), 3},
		{sameNested(3, 2, 1, 8), repeated(-1, 8), 3},
		{cubes(1, 0, 2), []int{2, -1, -1}, 2},
	}
	for name, call := range nestCalls() {
		for _, in := range inputs {
			boxes, boxesKept := guardedBy(in.boxes, markedBox())
			plan, planKept := guarded(in.plan)
			mustKeep(t, fmt.Sprint(name, " of ", in.boxes), func() []any { return call(boxes, plan, in.k) }, boxesKept, planKept)
		}
	}
}

func TestPairsShareNoMemory(t *testing.T) {
	pairs, ok := impl.PairsFitting(exampleNest())
	mustReturnApart(t, "PairsFitting", pairs, ok, [][]int{{0, 1}, {0, 2}, {0, 3}, {1, 3}, {2, 3}})
}

func TestParsedBoxesAreNew(t *testing.T) {
	first, _ := impl.ParseBoxes("1x1x1,2x2x2,2x3x3,4x4x4")
	spoil([]any{first})
	mustReturn(t, "ParseBoxes again", results(impl.ParseBoxes("1x1x1,2x2x2,2x3x3,4x4x4")), exampleNest())
}

func TestAnyNestsAreAccepted(t *testing.T) {
	odd := []int{math.MinInt, -2, -1, 0, 1, 2, 3, 6, 7, 8, 49, 50, 51, math.MaxInt}
	m := &mixer{state: 25}
	pick := func() int { return odd[m.next(0, len(odd)-1)] }
	for range 500 {
		boxes := make([]impl.Box, m.next(0, 9))
		for i := range boxes {
			boxes[i] = boxOf(pick(), pick(), pick())
		}
		if m.next(0, 1) == 0 {
			boxes = m.nearCubes(m.next(1, 7))
		}
		plan := make([]int, m.next(0, 9))
		for i := range plan {
			plan[i] = pick()
		}
		k := pick()
		for name, call := range nestCalls() {
			if all := call(boxes, plan, k); !succeeded(all) {
				mustFail(t, fmt.Sprint(name, " of ", boxes, plan, k), all)
			}
		}
		a, b := boxOf(pick(), pick(), pick()), boxOf(pick(), pick(), pick())
		for name, all := range map[string][]any{
			"FitsIn": results(impl.FitsIn(a, b)), "FitsTurned": results(impl.FitsTurned(a, b)), "VolumeOf": results(impl.VolumeOf(a)),
		} {
			if !succeeded(all) {
				mustFail(t, fmt.Sprint(name, " of ", a, b), all)
			}
		}
	}
}
