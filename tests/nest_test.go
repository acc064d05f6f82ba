package tests

import (
	"fmt"
	"math"
	"regexp"
	"slices"
	"strings"
	"testing"

	"loop.example/g01334/impl"
)

func boxOf(wide, deep, high int) impl.Box {
	return impl.Box{Wide: wide, Deep: deep, High: high}
}

// exampleNest are 1x1x1,2x2x2,2x3x3,4x4x4.
func exampleNest() []impl.Box {
	return []impl.Box{boxOf(1, 1, 1), boxOf(2, 2, 2), boxOf(2, 3, 3), boxOf(4, 4, 4)}
}

// sameNested returns n times the same box.
func sameNested(wide, deep, high, n int) []impl.Box {
	return slices.Repeat([]impl.Box{boxOf(wide, deep, high)}, n)
}

// cubes returns boxes with three equal sides.
func cubes(sides ...int) []impl.Box {
	boxes := make([]impl.Box, len(sides))
	for i, side := range sides {
		boxes[i] = boxOf(side, side, side)
	}
	return boxes
}

// nested returns n boxes whose sides are at most so long.
func (m *mixer) nested(n, side int) []impl.Box {
	boxes := make([]impl.Box, n)
	for i := range boxes {
		boxes[i] = boxOf(m.next(1, side), m.next(1, side), m.next(1, side))
	}
	return boxes
}

// nearCubes returns n boxes of which many fit into others.
func (m *mixer) nearCubes(n int) []impl.Box {
	boxes := make([]impl.Box, n)
	for i := range boxes {
		least := m.next(1, impl.MaxSide-2)
		boxes[i] = boxOf(m.next(least, least+2), m.next(least, least+2), m.next(least, least+2))
	}
	return boxes
}

// eachNestSample visits small boxes of all kinds, and some great ones.
func eachNestSample(visit func(boxes []impl.Box)) {
	for n := 1; n <= 3; n++ {
		eachList(n, 0, 7, func(kinds []int) {
			boxes := make([]impl.Box, n)
			for i, kind := range kinds {
				boxes[i] = boxOf(1+kind%2, 1+kind/2%2, 1+kind/4)
			}
			visit(boxes)
		})
	}
	m := &mixer{state: 21}
	for range 150 {
		visit(m.nested(m.next(2, 5), m.next(2, 6)))
		visit(m.nearCubes(m.next(2, 5)))
	}
	for range 8 {
		visit(m.nested(impl.MaxNested, 4))
		visit(m.nested(impl.MaxNested, impl.MaxSide))
		visit(m.nearCubes(impl.MaxNested))
	}
}

func TestNestExample(t *testing.T) {
	boxes := exampleNest()
	mustReturn(t, "FitsIn as they stand", results(impl.FitsIn(boxOf(1, 2, 5), boxOf(3, 6, 2))), false)
	mustReturn(t, "FitsTurned", results(impl.FitsTurned(boxOf(1, 2, 5), boxOf(3, 6, 2))), true)
	mustReturn(t, "LongestNest", results(impl.LongestNest(boxes)), []int{0, 1, 3})
	mustReturn(t, "FitsTurned with a side in common", results(impl.FitsTurned(boxes[1], boxes[2])), false)
	mustReturn(t, "FewestOuter", results(impl.FewestOuter(boxes)), 2)
	mustReturn(t, "FirstNesting", results(impl.FirstNesting(boxes)), []int{1, -1, 3, -1})
	mustReturn(t, "CountNestings", results(impl.CountNestings(boxes)), 4)
	mustReturn(t, "ApartBoxes", results(impl.ApartBoxes(boxes)), []int{1, 2})
	mustReturn(t, "LeastOuterVolume", results(impl.LeastOuterVolume(boxes)), 72)
	mustReturn(t, "PairsFitting", results(impl.PairsFitting(boxes)), [][]int{{0, 1}, {0, 2}, {0, 3}, {1, 3}, {2, 3}})
	mustReturn(t, "BoxesText", results(impl.BoxesText(boxes)), "1x1x1,2x2x2,2x3x3,4x4x4")
	mustReturn(t, "ParseBoxes", results(impl.ParseBoxes("1x1x1,2x2x2,2x3x3,4x4x4")), boxes)
}

func TestAreBoxes(t *testing.T) {
	good := [][]impl.Box{exampleNest(), cubes(1), cubes(50), sameNested(1, 50, 25, 7), sameNested(50, 1, 1, 7), cubes(7, 6, 5, 4, 3, 2, 1)}
	mustTellApart(t, "AreBoxes", impl.AreBoxes, good, badNests())
}

func TestFittingByHand(t *testing.T) {
	cases := []struct {
		a, b          impl.Box
		stands, turns bool
	}{
		{boxOf(1, 1, 1), boxOf(2, 2, 2), true, true},
		{boxOf(2, 2, 2), boxOf(1, 1, 1), false, false},
		{boxOf(2, 2, 2), boxOf(2, 2, 2), false, false},
		{boxOf(1, 2, 3), boxOf(2, 3, 4), true, true},
		{boxOf(3, 2, 1), boxOf(2, 3, 4), false, true},
		{boxOf(1, 2, 3), boxOf(4, 3, 2), false, true},
		{boxOf(5, 5, 1), boxOf(2, 6, 6), false, true},
		{boxOf(1, 9, 9), boxOf(10, 2, 10), false, true},
		{boxOf(9, 1, 9), boxOf(10, 2, 10), true, true},
		{boxOf(1, 2, 3), boxOf(9, 9, 3), false, true},
		{boxOf(2, 2, 2), boxOf(3, 3, 2), false, false},
		{boxOf(2, 2, 2), boxOf(3, 2, 3), false, false},
		{boxOf(2, 2, 2), boxOf(2, 3, 3), false, false},
		{boxOf(1, 1, 3), boxOf(50, 50, 3), false, true},
		{boxOf(1, 3, 3), boxOf(50, 50, 3), false, true},
		{boxOf(3, 3, 3), boxOf(50, 50, 3), false, false},
		{boxOf(1, 5, 5), boxOf(2, 5, 6), false, false},
		{boxOf(1, 1, 50), boxOf(50, 50, 50), false, false},
		{boxOf(49, 49, 49), boxOf(50, 50, 50), true, true},
		{boxOf(50, 50, 50), boxOf(50, 50, 50), false, false},
	}
	for _, c := range cases {
		name := fmt.Sprintf(" of %v into %v", c.a, c.b)
		mustReturn(t, "FitsIn"+name, results(impl.FitsIn(c.a, c.b)), c.stands)
		mustReturn(t, "FitsTurned"+name, results(impl.FitsTurned(c.a, c.b)), c.turns)
	}
}

func TestFittingFollowsTheModel(t *testing.T) {
	eachList(6, 1, 4, func(sides []int) {
		a, b := boxOf(sides[0], sides[1], sides[2]), boxOf(sides[3], sides[4], sides[5])
		stands := a.Wide < b.Wide && a.Deep < b.Deep && a.High < b.High
		if got, ok := impl.FitsIn(a, b); !ok || got != stands {
			t.Errorf("FitsIn of %v into %v: %v %v, want %v", a, b, got, ok, stands)
		}
		if got, ok := impl.FitsTurned(a, b); !ok || got != fitsInModel(a, b) {
			t.Errorf("FitsTurned of %v into %v: %v %v, want %v", a, b, got, ok, fitsInModel(a, b))
		}
	})
}

func TestVolumeOf(t *testing.T) {
	cases := map[impl.Box]int{
		boxOf(1, 1, 1): 1, boxOf(2, 3, 3): 18, boxOf(2, 3, 5): 30, boxOf(7, 1, 1): 7, boxOf(1, 7, 1): 7, boxOf(1, 1, 7): 7, boxOf(50, 50, 50): 125000, boxOf(50, 1, 49): 2450,
	}
	for box, want := range cases {
		mustReturn(t, fmt.Sprint("VolumeOf ", box), results(impl.VolumeOf(box)), want)
	}
}

func TestSingleBoxesAreRequired(t *testing.T) {
	good := boxOf(2, 3, 4)
	for _, bad := range badSides() {
		for _, box := range []impl.Box{boxOf(bad, 3, 4), boxOf(2, bad, 4), boxOf(2, 3, bad), boxOf(bad, bad, bad)} {
			mustFail(t, fmt.Sprint("VolumeOf ", box), results(impl.VolumeOf(box)))
			for _, both := range [][]impl.Box{{box, good}, {good, box}, {box, box}} {
				mustFail(t, fmt.Sprint("FitsIn of ", both), results(impl.FitsIn(both[0], both[1])))
				mustFail(t, fmt.Sprint("FitsTurned of ", both), results(impl.FitsTurned(both[0], both[1])))
			}
		}
	}
}

// nestCase tells what the functions of boxes alone return.
type nestCase struct {
	text    string
	longest []int
	fewest  int
	first   []int
	count   int
	volume  int
	apart   []int
	pairs   int
}

func nestCases() []nestCase {
	return []nestCase{
		// One box.
		{"5x6x7", []int{0}, 1, []int{-1}, 1, 210, []int{0}, 0},
		// Boxes none of which fits into another one: with a side in common, equal ones, and a long, a flat and a thick one.
		{"1x9x9,1x8x8,1x7x7", []int{0}, 3, []int{-1, -1, -1}, 1, 81 + 64 + 49, []int{0, 1, 2}, 0},
		{"3x4x5,3x4x5,5x4x3,4x3x5", []int{0}, 4, []int{-1, -1, -1, -1}, 1, 240, []int{0, 1, 2, 3}, 0},
		{"1x1x9,8x1x8,5x5x5", []int{0}, 3, []int{-1, -1, -1}, 1, 9 + 64 + 125, []int{0, 1, 2}, 0},
		{"50x50x50,50x50x50,50x50x50,50x50x50,50x50x50,50x50x50,50x50x50", []int{0}, 7, []int{-1, -1, -1, -1, -1, -1, -1}, 1, 875000, []int{0, 1, 2, 3, 4, 5, 6}, 0},
		// Boxes that fit only if they are turned.
		{"1x2x5,3x6x2", []int{0, 1}, 1, []int{1, -1}, 1, 36, []int{0}, 1},
		{"3x6x2,1x2x5,9x4x9", []int{1, 0, 2}, 1, []int{2, 0, -1}, 1, 324, []int{0}, 3},
		// As many boxes as may be, each one in the next one, and in the one before.
		{"1x1x1,2x2x2,3x3x3,4x4x4,5x5x5,6x6x6,7x7x7", []int{0, 1, 2, 3, 4, 5, 6}, 1, []int{1, 2, 3, 4, 5, 6, -1}, 1, 343, []int{0}, 21},
		{"7x7x7,6x6x6,5x5x5,4x4x4,3x3x3,2x2x2,1x1x1", []int{6, 5, 4, 3, 2, 1, 0}, 1, []int{-1, 0, 1, 2, 3, 4, 5}, 1, 343, []int{0}, 21},
		// Equal boxes in equal boxes.
		{"1x1x1,1x1x1,2x2x2,2x2x2", []int{0, 2}, 2, []int{2, 3, -1, -1}, 2, 16, []int{0, 1}, 4},
		{"2x2x2,1x1x1,1x1x1,1x1x1", []int{1, 0}, 3, []int{-1, -1, -1, 0}, 3, 10, []int{1, 2, 3}, 3},
		// Of three boxes that fit into the same one, the last one comes inside first in order, but another one leaves the least volume.
		{"9x9x9,3x3x3,1x8x8,2x4x4", []int{1, 0}, 3, []int{-1, -1, -1, 0}, 3, 729 + 27 + 32, []int{1, 2, 3}, 3},
		// Putting each box into the first one into which it fits would leave one outer box more.
		{"1x1x1,2x2x9,1x1x5,2x2x2", []int{0, 1}, 2, []int{3, -1, 1, -1}, 1, 44, []int{0, 2}, 3},
	}
}

func TestNestsByHand(t *testing.T) {
	for _, c := range nestCases() {
		boxes, _ := impl.ParseBoxes(c.text)
		name := " of " + c.text
		mustReturn(t, "LongestNest"+name, results(impl.LongestNest(boxes)), c.longest)
		mustReturn(t, "FewestOuter"+name, results(impl.FewestOuter(boxes)), c.fewest)
		mustReturn(t, "FirstNesting"+name, results(impl.FirstNesting(boxes)), c.first)
		mustReturn(t, "CountNestings"+name, results(impl.CountNestings(boxes)), c.count)
		mustReturn(t, "LeastOuterVolume"+name, results(impl.LeastOuterVolume(boxes)), c.volume)
		mustReturn(t, "ApartBoxes"+name, results(impl.ApartBoxes(boxes)), c.apart)
		if pairs, ok := impl.PairsFitting(boxes); !ok || len(pairs) != c.pairs {
			t.Errorf("PairsFitting%s: want %d, got %v %v", name, c.pairs, pairs, ok)
		}
	}
}

func TestNestsFollowTheModel(t *testing.T) {
	eachNestSample(func(boxes []impl.Box) {
		name := fmt.Sprint(" of ", boxes)
		first, fewest, count := leastNestingInModel(boxes, fewestOuterInModel)
		mustReturn(t, "FewestOuter"+name, results(impl.FewestOuter(boxes)), fewest)
		mustReturn(t, "FirstNesting"+name, results(impl.FirstNesting(boxes)), first)
		mustReturn(t, "CountNestings"+name, results(impl.CountNestings(boxes)), count)
		_, volume, _ := leastNestingInModel(boxes, volumeInModel)
		mustReturn(t, "LeastOuterVolume"+name, results(impl.LeastOuterVolume(boxes)), volume)
		mustReturn(t, "LongestNest"+name, results(impl.LongestNest(boxes)), longestNestInModel(boxes))
		mustReturn(t, "ApartBoxes"+name, results(impl.ApartBoxes(boxes)), apartInModel(boxes))
		var pairs [][]int
		for i, arounds := range boxesAroundInModel(boxes) {
			for _, around := range arounds {
				pairs = append(pairs, []int{i, around})
			}
		}
		mustReturn(t, "PairsFitting"+name, results(impl.PairsFitting(boxes)), pairs)
	})
}

// TestFewestOuterAreAsManyAsApart is promise 3: the fewest outer boxes are as many as boxes apart.
func TestFewestOuterAreAsManyAsApart(t *testing.T) {
	eachNestSample(func(boxes []impl.Box) {
		fewest, okFewest := impl.FewestOuter(boxes)
		first, okFirst := impl.FirstNesting(boxes)
		apart, okApart := impl.ApartBoxes(boxes)
		if !okFewest || !okFirst || !okApart {
			t.Fatalf("%v: %v %v %v", boxes, okFewest, okFirst, okApart)
		}
		if len(apart) != fewest || !areApartInModel(boxes, apart) || slices.Max(apart) >= len(boxes) || len(slices.Compact(slices.Clone(apart))) != fewest {
			t.Errorf("%v: the fewest are %d, but apart are %v", boxes, fewest, apart)
		}
		if outer, ok := impl.OuterBoxes(boxes, first); !isNestingInModel(boxes, first) || !ok || len(outer) != fewest {
			t.Errorf("%v: the fewest are %d, but %v has %v", boxes, fewest, first, outer)
		}
	})
}

func TestIsNesting(t *testing.T) {
	for _, plan := range [][]int{{-1, -1, -1, -1}, {1, -1, 3, -1}, {1, 3, -1, -1}, {2, 3, -1, -1}, {2, -1, 3, -1}, {3, -1, -1, -1}, {-1, 3, -1, -1}} {
		mustReturn(t, fmt.Sprint("IsNesting of ", plan), results(impl.IsNesting(exampleNest(), plan)), true)
	}
	for _, plan := range badNestings() {
		mustReturn(t, fmt.Sprint("IsNesting of ", plan), results(impl.IsNesting(exampleNest(), plan)), false)
	}
}

func TestNestingsByHand(t *testing.T) {
	boxes := cubes(3, 9, 1, 7, 5, 2, 8)
	plan := []int{4, -1, 5, 6, -1, 3, 1}
	mustReturn(t, "OuterBoxes", results(impl.OuterBoxes(boxes, plan)), []int{1, 4})
	mustReturn(t, "DepthsOf", results(impl.DepthsOf(boxes, plan)), []int{1, 0, 4, 2, 0, 3, 1})
	contents := [][]int{nil, {6, 3, 5, 2}, nil, {5, 2}, {0}, {2}, {3, 5, 2}}
	taken := [][]int{nil, {4, -1, 5, 6, -1, 3, -1}, nil, {4, -1, 5, 6, -1, -1, 1}, {-1, -1, 5, 6, -1, 3, 1}, {4, -1, -1, 6, -1, 3, 1}, {4, -1, 5, -1, -1, 3, 1}}
	for k := range boxes {
		mustReturn(t, fmt.Sprint("ContentsOf ", k), results(impl.ContentsOf(boxes, plan, k)), contents[k])
		if taken[k] == nil {
			mustFail(t, fmt.Sprint("TakeOut of ", k), results(impl.TakeOut(boxes, plan, k)))
		} else {
			mustReturn(t, fmt.Sprint("TakeOut of ", k), results(impl.TakeOut(boxes, plan, k)), taken[k])
		}
	}

	one := cubes(5)
	mustReturn(t, "OuterBoxes of one", results(impl.OuterBoxes(one, []int{-1})), []int{0})
	mustReturn(t, "DepthsOf one", results(impl.DepthsOf(one, []int{-1})), []int{0})
	mustReturn(t, "ContentsOf one", results(impl.ContentsOf(one, []int{-1}, 0)), []int(nil))
	mustFail(t, "TakeOut of one", results(impl.TakeOut(one, []int{-1}, 0)))

	chain := cubes(7, 6, 5, 4, 3, 2, 1)
	all := []int{-1, 0, 1, 2, 3, 4, 5}
	mustReturn(t, "OuterBoxes of a chain", results(impl.OuterBoxes(chain, all)), []int{0})
	mustReturn(t, "DepthsOf a chain", results(impl.DepthsOf(chain, all)), []int{0, 1, 2, 3, 4, 5, 6})
	mustReturn(t, "ContentsOf a chain", results(impl.ContentsOf(chain, all, 0)), []int{1, 2, 3, 4, 5, 6})
	mustReturn(t, "TakeOut of a chain", results(impl.TakeOut(chain, all, 0)), []int{-1, -1, 1, 2, 3, 4, 5})
	mustReturn(t, "TakeOut of the last but one", results(impl.TakeOut(chain, all, 5)), []int{-1, 0, 1, 2, 3, 4, -1})
	mustFail(t, "TakeOut of the last", results(impl.TakeOut(chain, all, 6)))
}

// TestTakeOutNeedsABoxInside tells a box that holds none from one that is in none: the box taken out is the one inside.
func TestTakeOutNeedsABoxInside(t *testing.T) {
	boxes := exampleNest()
	plan := []int{1, -1, -1, -1}
	mustReturn(t, "TakeOut of an outer box that holds one", results(impl.TakeOut(boxes, plan, 1)), []int{-1, -1, -1, -1})
	mustFail(t, "TakeOut of a box that is in one and holds none", results(impl.TakeOut(boxes, plan, 0)))
	for _, k := range []int{2, 3} {
		mustFail(t, fmt.Sprintf("TakeOut of %d, in none and holding none", k), results(impl.TakeOut(boxes, plan, k)))
		mustFail(t, fmt.Sprintf("TakeOut of %d, all boxes being in none", k), results(impl.TakeOut(boxes, []int{-1, -1, -1, -1}, k)))
	}
}

// nestingCalls are all functions of a nesting that fail if the list is none.
func nestingCalls() map[string]func(boxes []impl.Box, plan []int, k int) []any {
	return map[string]func(boxes []impl.Box, plan []int, k int) []any{
		"OuterBoxes": func(boxes []impl.Box, plan []int, k int) []any { return results(impl.OuterBoxes(boxes, plan)) },
		"DepthsOf":   func(boxes []impl.Box, plan []int, k int) []any { return results(impl.DepthsOf(boxes, plan)) },
		"ContentsOf": func(boxes []impl.Box, plan []int, k int) []any { return results(impl.ContentsOf(boxes, plan, k)) },
		"TakeOut":    func(boxes []impl.Box, plan []int, k int) []any { return results(impl.TakeOut(boxes, plan, k)) },
	}
}

func TestNestingsOfAllLists(t *testing.T) {
	m := &mixer{state: 22}
	samples := [][]impl.Box{exampleNest(), cubes(1, 2, 3, 4), cubes(3, 1, 1, 2), cubes(2, 2, 1), cubes(1, 2), cubes(4), m.nested(4, 4), m.nearCubes(4), m.nearCubes(3)}
	for _, boxes := range samples {
		for length := 0; length <= len(boxes)+1; length++ {
			eachList(length, -2, len(boxes), func(plan []int) { checkNesting(t, boxes, plan) })
		}
	}
}

func TestNestingsFollowTheModel(t *testing.T) {
	m := &mixer{state: 23}
	for range 25 {
		boxes := m.nearCubes(m.next(4, 5))
		for _, plan := range nestingsInModel(boxes) {
			checkNesting(t, boxes, plan)
		}
	}
}

// checkNesting compares all functions of one list with the model, whether the list is a nesting or not.
func checkNesting(t *testing.T, boxes []impl.Box, plan []int) {
	t.Helper()
	name := fmt.Sprintf(" of %v by %v", boxes, plan)
	is := isNestingInModel(boxes, plan)
	mustReturn(t, "IsNesting"+name, results(impl.IsNesting(boxes, plan)), is)
	if !is {
		for called, call := range nestingCalls() {
			mustFail(t, called+name, call(boxes, plan, len(boxes)-1))
		}
		return
	}
	mustReturn(t, "OuterBoxes"+name, results(impl.OuterBoxes(boxes, plan)), outerOfInModel(plan))
	mustReturn(t, "DepthsOf"+name, results(impl.DepthsOf(boxes, plan)), depthsInModel(plan))
	for k := range boxes {
		mustReturn(t, fmt.Sprint("ContentsOf ", k, name), results(impl.ContentsOf(boxes, plan, k)), contentsInModel(boxes, plan, k))
		if taken, ok := takenOutInModel(boxes, plan, k); ok {
			mustReturn(t, fmt.Sprint("TakeOut of ", k, name), results(impl.TakeOut(boxes, plan, k)), taken)
		} else {
			mustFail(t, fmt.Sprint("TakeOut of ", k, name), results(impl.TakeOut(boxes, plan, k)))
		}
	}
}

func TestBoxesTexts(t *testing.T) {
	texts := map[string][]impl.Box{
		"1x1x1":               cubes(1),
		"50x50x50":            cubes(50),
		"1x2x3":               {boxOf(1, 2, 3)},
		"10x49x9,3x2x1,3x2x1": {boxOf(10, 49, 9), boxOf(3, 2, 1), boxOf(3, 2, 1)},
		strings.Repeat("50x50x50,", 6) + "50x50x50": sameNested(50, 50, 50, 7),
		"1x1x1,2x2x2,3x3x3,4x4x4,5x5x5,6x6x6,7x7x7": cubes(1, 2, 3, 4, 5, 6, 7),
	}
	m := &mixer{state: 24}
	next := func() []impl.Box { return m.nested(m.next(1, impl.MaxNested), impl.MaxSide) }
	mustBeTexts(t, texts, next, impl.ParseBoxes, impl.BoxesText)
}

func TestTextsThatAreNoBoxes(t *testing.T) {
	texts := []string{
		"", ",", "x", "xx", "1", "1x", "1x1", "1x1x", "x1x1", "1xx1", "1x1x1x", "x1x1x1", "1x1x1x1", "1x1x1,", ",1x1x1", "1x1x1,,2x2x2", "1x1x1,2x2", "1x1,2x2x2", "1,1,1", "1x1,1",
		"0x1x1", "1x0x1", "1x1x0", "51x1x1", "1x51x1", "1x1x51", "-1x1x1", "1x-1x1", "1x1x-1", "+1x1x1", "1x+1x1", "1x1x+1", "01x1x1", "1x01x1", "1x1x01", "00x1x1",
		" 1x1x1", "1x1x1 ", "1 x1x1", "1x1x1, 2x2x2", "1x1x1;2x2x2", "1X1X1", "1×1×1", "1*1*1", "1.0x1x1", "0x1", "0x1x1x1", "1_0x1x1", "axbxc", "1x1xc", "1x1x1\n", "\x00", "\xff", "١x١x١",
		"99999999999999999999x1x1", "1x18446744073709551617x1", "1x1x-9223372036854775808",
		strings.Repeat("1x1x1,", 7) + "1x1x1", strings.Repeat("1x1x1,", 8) + "1x1x1",
		strings.Repeat("1x1x1,", 100000) + "1x1x1", strings.Repeat("1x", 100000) + "1", strings.Repeat("0", 100000) + "1x1x1",
		strings.Repeat(",", 100000), strings.Repeat("x", 100000), strings.Repeat("9", 100000) + "x1x1",
	}
	for _, text := range texts {
		mustFail(t, fmt.Sprintf("ParseBoxes of %.40q", text), results(impl.ParseBoxes(text)))
	}
}

func TestBoxesTextsOfShortStrings(t *testing.T) {
	// No text of two boxes is so short.
	isText := regexp.MustCompile(`^([1-9]|[1-4]\d|50)(x([1-9]|[1-4]\d|50)){2}$`)
	mustParseTexts(t, "015x,-", 7, isText.MatchString, impl.ParseBoxes, impl.BoxesText)
}

func TestNestingIndicesAreRequired(t *testing.T) {
	for _, k := range []int{-1, -2, 4, 5, impl.MaxNested, math.MinInt, math.MaxInt} {
		mustFail(t, fmt.Sprint("ContentsOf ", k), results(impl.ContentsOf(exampleNest(), []int{1, -1, 3, -1}, k)))
		mustFail(t, fmt.Sprint("TakeOut of ", k), results(impl.TakeOut(exampleNest(), []int{1, -1, 3, -1}, k)))
	}
}
