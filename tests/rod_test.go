package tests

import (
	"fmt"
	"math"
	"regexp"
	"slices"
	"strings"
	"testing"

	"loop.example/g01334/impl"
)

// lengths returns at most n lengths, none longer than most.
func (m *mixer) lengths(n, most int) []int {
	lengths := m.list(n, 1, most)
	slices.Sort(lengths)
	return slices.Compact(lengths)
}

// orders returns how many are ordered of each of some lengths, at most so many pieces together, and of no length that is longer than the rod.
func (m *mixer) orders(rod int, lengths []int, pieces int) []int {
	counts := make([]int, len(lengths))
	for range pieces {
		kind := m.next(0, len(lengths)-1)
		if lengths[kind] <= rod && counts[kind] < impl.MaxOrdersOf {
			counts[kind]++
		}
	}
	return counts
}

// eachRodSample visits rods and lengths, small ones of all kinds and some great ones.
func eachRodSample(visit func(rod int, lengths []int)) {
	for rod := 1; rod <= 9; rod++ {
		for n := 1; n <= 3; n++ {
			eachList(n, 1, 10, func(lengths []int) {
				if impl.AreLengths(lengths) {
					visit(rod, lengths)
				}
			})
		}
	}
	m := &mixer{state: 31}
	for range 60 {
		rod := m.next(10, impl.MaxRod)
		visit(rod, m.lengths(m.next(1, 3), rod))
		visit(rod, []int{m.next(6, 20), m.next(21, 30), m.next(31, 40), m.next(41, impl.MaxRod)})
	}
}

// eachOrderSample visits orders of small rods, and some of great ones and of as many pieces as may be.
func eachOrderSample(visit func(rod int, lengths, counts []int)) {
	for rod := 4; rod <= 8; rod++ {
		for _, lengths := range [][]int{{2, 3}, {3, 4}, {1, 4}, {2, 5}} {
			eachList(2, 0, 3, func(counts []int) {
				if lengths[1] <= rod || counts[1] == 0 {
					visit(rod, lengths, counts)
				}
			})
		}
	}
	m := &mixer{state: 32}
	for range 200 {
		rod := m.next(1, impl.MaxRod)
		lengths := m.lengths(m.next(1, impl.MaxKinds), min(rod+5, impl.MaxRod))
		visit(rod, lengths, m.orders(rod, lengths, m.next(0, 7)))
	}
	for range 8 {
		rod := m.next(20, impl.MaxRod)
		lengths := m.lengths(impl.MaxKinds, rod/2)
		visit(rod, lengths, m.orders(rod, lengths, impl.MaxThings))
	}
	visit(7, []int{2, 3, 4}, []int{4, 4, 1})
}

func TestRodExample(t *testing.T) {
	lengths := []int{3, 4}
	mustReturn(t, "FullPatterns", results(impl.FullPatterns(10, lengths)), [][]int{{0, 2}, {2, 1}, {3, 0}})
	mustReturn(t, "LeastWaste", results(impl.LeastWaste(10, lengths)), 0, []int{2, 1})
	mustReturn(t, "CountPatterns", results(impl.CountPatterns(10, lengths)), 8)
	mustReturn(t, "FewestRods", results(impl.FewestRods(10, lengths, []int{3, 2})), 2)
	mustReturn(t, "RodsBound", results(impl.RodsBound(10, lengths, []int{3, 2})), 2)
	mustReturn(t, "FirstRods", results(impl.FirstRods(10, lengths, []int{3, 2})), [][]int{{3, 0}, {0, 2}})
	prices := []int{1, 5, 8, 9}
	mustReturn(t, "BestRodValue", results(impl.BestRodValue(prices, 4)), 10)
	mustReturn(t, "FirstBestCut", results(impl.FirstBestCut(prices, 4)), []int{2, 2})
	mustReturn(t, "CountAllCuts", results(impl.CountAllCuts(4)), 5)
}

func TestAreLengths(t *testing.T) {
	good := [][]int{{1}, {60}, {3, 4}, {1, 2, 3, 4}, {57, 58, 59, 60}, {1, 60}, {1, 30, 31, 60}}
	mustTellApart(t, "AreLengths", impl.AreLengths, good, badLengths())
}

func TestPatternsByHand(t *testing.T) {
	cases := []struct {
		rod              int
		lengths, pattern []int
		used             int
		full             bool
	}{
		{10, []int{3, 4}, []int{2, 1}, 10, true},
		{10, []int{3, 4}, []int{0, 2}, 8, true},
		{10, []int{3, 4}, []int{1, 1}, 7, false},
		{10, []int{3, 4}, []int{2, 0}, 6, false},
		// Without pieces: full only if each length is longer than the rod.
		{10, []int{3, 4}, []int{0, 0}, 0, false},
		{2, []int{3, 4}, []int{0, 0}, 0, true},
		{3, []int{3, 4}, []int{0, 0}, 0, false},
		{3, []int{3, 4}, []int{1, 0}, 3, true},
		// One length, as long as the rod, longer than it, and such that the rod is all pieces.
		{1, []int{1}, []int{1}, 1, true},
		{1, []int{1}, []int{0}, 0, false},
		{1, []int{2}, []int{0}, 0, true},
		{60, []int{60}, []int{1}, 60, true},
		{59, []int{60}, []int{0}, 0, true},
		{60, []int{1}, []int{60}, 60, true},
		{60, []int{1}, []int{59}, 59, false},
		{60, []int{1, 2, 3, 4}, []int{60, 0, 0, 0}, 60, true},
		{60, []int{1, 2, 3, 4}, []int{10, 10, 6, 3}, 60, true},
		{60, []int{1, 2, 3, 4}, []int{9, 10, 6, 3}, 59, false},
		{60, []int{7, 59, 60}, []int{8, 0, 0}, 56, true},
	}
	for _, c := range cases {
		name := fmt.Sprintf(" of %d by %v: %v", c.rod, c.lengths, c.pattern)
		mustReturn(t, "IsRodPattern"+name, results(impl.IsRodPattern(c.rod, c.lengths, c.pattern)), true)
		mustReturn(t, "UsedOf"+name, results(impl.UsedOf(c.rod, c.lengths, c.pattern)), c.used)
		mustReturn(t, "WasteOfPattern"+name, results(impl.WasteOfPattern(c.rod, c.lengths, c.pattern)), c.rod-c.used)
		mustReturn(t, "IsFullPattern"+name, results(impl.IsFullPattern(c.rod, c.lengths, c.pattern)), c.full)
	}
}

// patternCalls are all functions of a pattern that fail if the list is none.
func patternCalls() map[string]func(rod int, lengths, list []int) []any {
	return map[string]func(rod int, lengths, list []int) []any{
		"UsedOf":         func(rod int, lengths, list []int) []any { return results(impl.UsedOf(rod, lengths, list)) },
		"WasteOfPattern": func(rod int, lengths, list []int) []any { return results(impl.WasteOfPattern(rod, lengths, list)) },
		"IsFullPattern":  func(rod int, lengths, list []int) []any { return results(impl.IsFullPattern(rod, lengths, list)) },
	}
}

func TestPatternsOfAllLists(t *testing.T) {
	for _, lengths := range [][]int{{1}, {3}, {1, 2}, {2, 3}, {3, 4}, {4, 9}, {1, 2, 3}, {2, 5, 6}, {1, 2, 3, 4}} {
		for rod := 1; rod <= 7; rod++ {
			for n := 0; n <= len(lengths)+1; n++ {
				eachList(n, -1, 4, func(list []int) { checkRodPattern(t, rod, lengths, list) })
			}
		}
	}
}

// checkRodPattern compares all functions of one list with the model, whether the list is a pattern or not.
func checkRodPattern(t *testing.T, rod int, lengths, list []int) {
	t.Helper()
	name := fmt.Sprintf(" of %d by %v: %v", rod, lengths, list)
	is := isRodPatternInModel(rod, lengths, list)
	mustReturn(t, "IsRodPattern"+name, results(impl.IsRodPattern(rod, lengths, list)), is)
	if !is {
		for called, call := range patternCalls() {
			mustFail(t, called+name, call(rod, lengths, list))
		}
		return
	}
	used := usedInModel(lengths, list)
	mustReturn(t, "UsedOf"+name, results(impl.UsedOf(rod, lengths, list)), used)
	mustReturn(t, "WasteOfPattern"+name, results(impl.WasteOfPattern(rod, lengths, list)), rod-used)
	mustReturn(t, "IsFullPattern"+name, results(impl.IsFullPattern(rod, lengths, list)), isFullInModel(rod, lengths, list))
}

func TestIsRodPattern(t *testing.T) {
	for _, list := range badRodPatterns() {
		mustReturn(t, fmt.Sprint("IsRodPattern of ", list), results(impl.IsRodPattern(10, []int{3, 4}, list)), false)
	}
}

func TestAllPatternsByHand(t *testing.T) {
	cases := []struct {
		rod     int
		lengths []int
		full    [][]int
		count   int
		waste   int
		least   []int
	}{
		{1, []int{3}, [][]int{{0}}, 1, 1, []int{0}},
		{3, []int{3}, [][]int{{1}}, 2, 0, []int{1}},
		{30, []int{3}, [][]int{{10}}, 11, 0, []int{10}},
		{60, []int{60}, [][]int{{1}}, 2, 0, []int{1}},
		{59, []int{60}, [][]int{{0}}, 1, 59, []int{0}},
		{60, []int{57, 58, 59, 60}, [][]int{{0, 0, 0, 1}, {0, 0, 1, 0}, {0, 1, 0, 0}, {1, 0, 0, 0}}, 5, 0, []int{0, 0, 0, 1}},
		{56, []int{57, 58, 59, 60}, [][]int{{0, 0, 0, 0}}, 1, 56, []int{0, 0, 0, 0}},
		{5, []int{3, 4, 6}, [][]int{{0, 1, 0}, {1, 0, 0}}, 3, 1, []int{0, 1, 0}},
		// Of two patterns without waste the first one counts, which has less of the first length.
		{12, []int{3, 4}, [][]int{{0, 3}, {1, 2}, {2, 1}, {4, 0}}, 11, 0, []int{0, 3}},
		// 0 0 1 is not full: it leaves 3.
		{8, []int{3, 4, 5}, [][]int{{0, 2, 0}, {1, 0, 1}, {1, 1, 0}, {2, 0, 0}}, 8, 0, []int{0, 2, 0}},
	}
	for _, c := range cases {
		name := fmt.Sprintf(" of %d by %v", c.rod, c.lengths)
		mustReturn(t, "FullPatterns"+name, results(impl.FullPatterns(c.rod, c.lengths)), c.full)
		mustReturn(t, "CountPatterns"+name, results(impl.CountPatterns(c.rod, c.lengths)), c.count)
		mustReturn(t, "LeastWaste"+name, results(impl.LeastWaste(c.rod, c.lengths)), c.waste, c.least)
	}
}

func TestAllPatternsFollowTheModel(t *testing.T) {
	eachRodSample(func(rod int, lengths []int) {
		name := fmt.Sprintf(" of %d by %v", rod, lengths)
		mustReturn(t, "CountPatterns"+name, results(impl.CountPatterns(rod, lengths)), len(patternsInModel(rod, lengths)))
		waste, pattern := leastWasteInModel(rod, lengths)
		mustReturn(t, "LeastWaste"+name, results(impl.LeastWaste(rod, lengths)), waste, pattern)
		if lengths[0] < 3 || lengths[0]*10 < rod {
			mustFail(t, "FullPatterns"+name, results(impl.FullPatterns(rod, lengths)))
		} else {
			mustReturn(t, "FullPatterns"+name, results(impl.FullPatterns(rod, lengths)), fullPatternsInModel(rod, lengths))
		}
	})
}

func TestFullPatternsNeedLongPieces(t *testing.T) {
	for rod := 1; rod <= impl.MaxRod; rod++ {
		for least := 1; least <= impl.MaxRod; least++ {
			_, ok := impl.FullPatterns(rod, []int{least})
			if want := least >= 3 && 10*least >= rod; ok != want {
				t.Errorf("FullPatterns of %d by %d: %v, want %v", rod, least, ok, want)
			}
		}
	}
	mustFail(t, "FullPatterns of 30 by 2 and more", results(impl.FullPatterns(20, []int{2, 30, 40, 50})))
	mustFail(t, "FullPatterns of 31 by 3 and more", results(impl.FullPatterns(31, []int{3, 30, 40, 50})))
	mustReturn(t, "FullPatterns of 30 by 3 and more", results(impl.FullPatterns(30, []int{3, 30, 40, 50})), [][]int{{0, 1, 0, 0}, {10, 0, 0, 0}})
	mustReturn(t, "FullPatterns of 60 by 6 and more", results(impl.FullPatterns(60, []int{6, 59, 60})), [][]int{{0, 0, 1}, {0, 1, 0}, {10, 0, 0}})
}

func TestMostPatterns(t *testing.T) {
	count := 0
	for a := 0; a <= 60; a++ {
		for b := 0; a+2*b <= 60; b++ {
			for c := 0; a+2*b+3*c <= 60; c++ {
				count += 1 + (60-a-2*b-3*c)/4
			}
		}
	}
	mustReturn(t, "CountPatterns", results(impl.CountPatterns(60, []int{1, 2, 3, 4})), count)
	mustReturn(t, "LeastWaste", results(impl.LeastWaste(60, []int{1, 2, 3, 4})), 0, []int{0, 0, 0, 15})
}

func TestCountOrders(t *testing.T) {
	cases := map[int][][]int{
		0:  {{0}, {0, 0}, {0, 0, 0, 0}},
		1:  {{1}, {0, 1}, {0, 0, 0, 1}},
		6:  {{6}, {1, 2, 3}, {6, 0, 0, 0}},
		9:  {{3, 6}, {6, 3}, {2, 2, 2, 3}},
		10: {{6, 4}, {1, 2, 3, 4}},
		24: {{6, 6, 6, 6}},
	}
	for want, lists := range cases {
		for _, counts := range lists {
			mustReturn(t, fmt.Sprint("CountOrders of ", counts), results(impl.CountOrders(counts)), want)
		}
	}
	for _, counts := range badCounts() {
		mustFail(t, fmt.Sprint("CountOrders of ", counts), results(impl.CountOrders(counts)))
	}
}

func TestRodsByHand(t *testing.T) {
	cases := []struct {
		rod             int
		lengths, counts []int
		bound           int
		first, longest  [][]int
	}{
		{10, []int{3, 4}, []int{3, 2}, 2, [][]int{{3, 0}, {0, 2}}, [][]int{{0, 2}, {3, 0}}},
		// The greatest pattern comes first if no rod is wasted by it; without it, it is 3 0.
		{7, []int{2, 3}, []int{4, 2}, 2, [][]int{{2, 1}, {2, 1}}, [][]int{{0, 2}, {3, 0}, {1, 0}}},
		{6, []int{1, 5}, []int{2, 2}, 2, [][]int{{1, 1}, {1, 1}}, [][]int{{1, 1}, {1, 1}}},
		{6, []int{1, 5}, []int{6, 1}, 2, [][]int{{6, 0}, {0, 1}}, [][]int{{1, 1}, {5, 0}}},
		// The later rods have the greatest patterns that are left.
		{7, []int{2, 3, 4}, []int{4, 3, 1}, 3, [][]int{{2, 1, 0}, {2, 1, 0}, {0, 1, 1}}, [][]int{{0, 1, 1}, {0, 2, 0}, {3, 0, 0}, {1, 0, 0}}},
		{5, []int{2, 3}, []int{2, 3}, 3, [][]int{{1, 1}, {1, 1}, {0, 1}}, [][]int{{1, 1}, {1, 1}, {0, 1}}},
		// A piece comes out of the first rod that is long enough still, which is not the last one, nor the one with the least waste.
		{10, []int{1, 4, 7}, []int{1, 1, 1}, 2, [][]int{{1, 1, 0}, {0, 0, 1}}, [][]int{{1, 0, 1}, {0, 1, 0}}},
		{12, []int{2, 5, 8}, []int{1, 2, 1}, 2, [][]int{{1, 2, 0}, {0, 0, 1}}, [][]int{{1, 0, 1}, {0, 2, 0}}},
		// No orders at all, or none of some lengths, which may be longer than the rod then.
		{10, []int{3, 4}, []int{0, 0}, 0, nil, nil},
		{1, []int{57, 58, 59, 60}, []int{0, 0, 0, 0}, 0, nil, nil},
		{10, []int{3, 11}, []int{4, 0}, 2, [][]int{{3, 0}, {1, 0}}, [][]int{{3, 0}, {1, 0}}},
		{10, []int{3, 10}, []int{0, 2}, 2, [][]int{{0, 1}, {0, 1}}, [][]int{{0, 1}, {0, 1}}},
		// One length, and as many pieces as may be, in one rod or each out of its own.
		{1, []int{1}, []int{6}, 6, [][]int{{1}, {1}, {1}, {1}, {1}, {1}}, [][]int{{1}, {1}, {1}, {1}, {1}, {1}}},
		{60, []int{10}, []int{6}, 1, [][]int{{6}}, [][]int{{6}}},
		{59, []int{10}, []int{6}, 2, [][]int{{5}, {1}}, [][]int{{5}, {1}}},
		{9, []int{1, 2, 3, 4}, []int{6, 1, 1, 1}, 2, [][]int{{6, 1, 0, 0}, {0, 0, 1, 1}}, [][]int{{0, 1, 1, 1}, {6, 0, 0, 0}}},
		{60, []int{31, 32}, []int{3, 6}, 5, slices.Concat(slices.Repeat([][]int{{1, 0}}, 3), slices.Repeat([][]int{{0, 1}}, 6)), slices.Concat(slices.Repeat([][]int{{0, 1}}, 6), slices.Repeat([][]int{{1, 0}}, 3))},
	}
	for _, c := range cases {
		name := fmt.Sprintf(" of %d by %v: %v", c.rod, c.lengths, c.counts)
		mustReturn(t, "FewestRods"+name, results(impl.FewestRods(c.rod, c.lengths, c.counts)), len(c.first))
		mustReturn(t, "RodsBound"+name, results(impl.RodsBound(c.rod, c.lengths, c.counts)), c.bound)
		mustReturn(t, "FirstRods"+name, results(impl.FirstRods(c.rod, c.lengths, c.counts)), c.first)
		mustReturn(t, "LongestFirstRods"+name, results(impl.LongestFirstRods(c.rod, c.lengths, c.counts)), c.longest)
	}
}

func TestRodsFollowTheModel(t *testing.T) {
	eachOrderSample(func(rod int, lengths, counts []int) {
		name := fmt.Sprintf(" of %d by %v: %v", rod, lengths, counts)
		first := firstRodsInModel(rod, lengths, counts)
		mustReturn(t, "FewestRods"+name, results(impl.FewestRods(rod, lengths, counts)), len(first))
		mustReturn(t, "FirstRods"+name, results(impl.FirstRods(rod, lengths, counts)), first)
		mustReturn(t, "LongestFirstRods"+name, results(impl.LongestFirstRods(rod, lengths, counts)), longestFirstRodsInModel(rod, lengths, counts))
		bound := 0
		for bound*rod < usedInModel(lengths, counts) {
			bound++
		}
		mustReturn(t, "RodsBound"+name, results(impl.RodsBound(rod, lengths, counts)), bound)
	})
}

// TestPlansCutJustAllPieces is the first half of promise 4: plans cut out just all pieces.
func TestPlansCutJustAllPieces(t *testing.T) {
	eachOrderSample(func(rod int, lengths, counts []int) {
		name := fmt.Sprintf("%d by %v: %v", rod, lengths, counts)
		fewest, okFewest := impl.FewestRods(rod, lengths, counts)
		bound, okBound := impl.RodsBound(rod, lengths, counts)
		first, okFirst := impl.FirstRods(rod, lengths, counts)
		longest, okLongest := impl.LongestFirstRods(rod, lengths, counts)
		if !okFewest || !okBound || !okFirst || !okLongest {
			t.Fatalf("%s: %v %v %v %v", name, okFewest, okBound, okFirst, okLongest)
		}
		if len(first) != fewest || bound > fewest || fewest > len(longest) {
			t.Errorf("%s: at least %d, the fewest are %d, by %v, and %v longest first", name, bound, fewest, first, longest)
		}
		for _, plan := range [][][]int{first, longest} {
			for _, pattern := range plan {
				mustReturn(t, "IsRodPattern of "+name, results(impl.IsRodPattern(rod, lengths, pattern)), true)
			}
			mustReturn(t, "LeftOver of "+name, results(impl.LeftOver(counts, plan)), make([]int, len(counts)))
		}
	})
}

func TestLeftOver(t *testing.T) {
	cases := []struct {
		counts   []int
		patterns [][]int
		left     []int
	}{
		// No patterns to take away, and patterns without pieces.
		{[]int{3, 2}, nil, []int{3, 2}},
		{[]int{0}, [][]int{}, []int{0}},
		{[]int{3, 2}, [][]int{{0, 0}, {0, 0}}, []int{3, 2}},
		{[]int{3, 2}, [][]int{{1, 0}}, []int{2, 2}},
		{[]int{3, 2}, [][]int{{0, 2}, {3, 0}}, []int{0, 0}},
		{[]int{6, 5, 4, 3}, [][]int{{1, 2, 3, 0}, {2, 1, 0, 3}}, []int{3, 2, 1, 0}},
		// More than MaxThings pieces, and as many patterns as may be.
		{[]int{6, 6, 6, 6}, [][]int{{6, 6, 6, 5}}, []int{0, 0, 0, 1}},
		{[]int{6}, slices.Repeat([][]int{{0}}, 20), []int{6}},
		{[]int{6, 6}, slices.Concat(slices.Repeat([][]int{{0, 0}}, 14), slices.Repeat([][]int{{1, 1}}, 6)), []int{0, 0}},
	}
	for _, c := range cases {
		mustReturn(t, fmt.Sprint("LeftOver of ", c.counts, " behind ", c.patterns), results(impl.LeftOver(c.counts, c.patterns)), c.left)
	}
}

func TestTooMuchTaken(t *testing.T) {
	bad := [][][]int{
		{{4, 0}}, {{0, 3}}, {{3, 0}, {1, 0}}, {{1, 1}, {1, 1}, {1, 1}}, {{6, 6}}, {{3, 2}, {0, 0}, {0, 1}}, {{2, 0}, {2, 2}},
		slices.Repeat([][]int{{0, 0}}, 21), slices.Repeat([][]int{{0, 0}}, 1000),
		{nil}, {{}}, {{1}}, {{0, 0, 0}}, {{1, 0}, {1}}, {{1, 0, 0}, {1, 0}}, {{0, 0}, nil},
		{{-1, 0}}, {{0, -1}}, {{2, 0}, {-1, 0}}, {{7, 0}}, {{0, 7}}, {{math.MinInt, 0}}, {{0, math.MaxInt}}, {{math.MaxInt, 0}, {math.MaxInt, 0}, {2, 0}},
		{{4, 0}, {-1, 0}}, {{-1, 0}, {4, 0}},
	}
	for _, patterns := range bad {
		mustFail(t, fmt.Sprint("LeftOver behind ", patterns), results(impl.LeftOver([]int{3, 2}, patterns)))
	}
	for _, counts := range badCounts() {
		mustFail(t, fmt.Sprint("LeftOver of ", counts), results(impl.LeftOver(counts, nil)))
		mustFail(t, fmt.Sprint("LeftOver of ", counts, " behind nothing"), results(impl.LeftOver(counts, [][]int{make([]int, len(counts))})))
		mustFail(t, fmt.Sprint("LeftOver of ", counts, " behind them"), results(impl.LeftOver(counts, [][]int{counts})))
	}
}

func TestCutsByHand(t *testing.T) {
	prices := []int{1, 5, 8, 9}
	great := append(repeated(0, 59), impl.MaxPrice)
	cases := []struct {
		prices []int
		rod    int
		worth  int
		first  []int
		count  int
	}{
		{prices, 1, 1, []int{1}, 1},
		{prices, 2, 5, []int{2}, 1},
		{prices, 3, 8, []int{3}, 1},
		{prices, 4, 10, []int{2, 2}, 1},
		{prices, 5, 13, []int{2, 3}, 1},
		{prices, 7, 18, []int{2, 2, 3}, 1},
		{prices, 10, 26, []int{2, 2, 3, 3}, 1},
		// Prices of 0, and prices of all cuts alike.
		{[]int{0}, 1, 0, []int{1}, 1},
		{[]int{0}, 5, 0, []int{1, 1, 1, 1, 1}, 1},
		{[]int{0, 0, 0}, 3, 0, []int{1, 1, 1}, 3},
		{[]int{0, 0, 0}, 6, 0, []int{1, 1, 1, 1, 1, 1}, 7},
		{[]int{0, 0, 3}, 5, 3, []int{1, 1, 3}, 2},
		{[]int{2, 4, 6, 8}, 4, 8, []int{1, 1, 1, 1}, 5},
		{[]int{0, 7, 0, 14}, 9, 28, []int{1, 2, 2, 2, 2}, 3},
		// Prices of lengths that are longer than the rod do not count.
		{[]int{3, 1000}, 1, 3, []int{1}, 1},
		{[]int{0, 0, 1000, 1000}, 2, 0, []int{1, 1}, 2},
		{great, 60, 1000, []int{60}, 1},
		{great, 59, 0, repeated(1, 59), 831820},
		{repeated(0, 60), 60, 0, repeated(1, 60), 966467},
		{repeated(impl.MaxPrice, 60), 60, 60000, repeated(1, 60), 1},
		{[]int{impl.MaxPrice}, 60, 60000, repeated(1, 60), 1},
		{[]int{0, impl.MaxPrice}, 59, 29000, append([]int{1}, repeated(2, 29)...), 1},
	}
	for _, c := range cases {
		name := fmt.Sprintf(" of %d by %v", c.rod, c.prices)
		mustReturn(t, "BestRodValue"+name, results(impl.BestRodValue(c.prices, c.rod)), c.worth)
		mustReturn(t, "FirstBestCut"+name, results(impl.FirstBestCut(c.prices, c.rod)), c.first)
		mustReturn(t, "CountBestCuts"+name, results(impl.CountBestCuts(c.prices, c.rod)), c.count)
	}
}

// eachPriceSample visits all small prices of small rods, and some great ones.
func eachPriceSample(visit func(prices []int, rod int)) {
	for rod := 1; rod <= 6; rod++ {
		for n := 1; n <= 4; n++ {
			eachList(n, 0, 3, func(prices []int) { visit(prices, rod) })
		}
	}
	m := &mixer{state: 33}
	for range 150 {
		rod := m.next(1, 20)
		visit(m.list(m.next(1, 24), 0, m.next(0, impl.MaxPrice)), rod)
		// Many cuts are worth the same.
		visit(m.list(m.next(1, 24), 0, 2), rod)
	}
	visit(m.list(impl.MaxRod, 0, impl.MaxPrice), 30)
}

func TestCutsFollowTheModel(t *testing.T) {
	eachPriceSample(func(prices []int, rod int) {
		name := fmt.Sprintf(" of %d by %v", rod, prices)
		worth, cuts := bestCutsInModel(prices, rod)
		mustReturn(t, "BestRodValue"+name, results(impl.BestRodValue(prices, rod)), worth)
		mustReturn(t, "FirstBestCut"+name, results(impl.FirstBestCut(prices, rod)), cuts[0])
		mustReturn(t, "CountBestCuts"+name, results(impl.CountBestCuts(prices, rod)), len(cuts))
	})
}

// TestBestCutsAreWorthMost is the second half of promise 4: best cuts are worth most.
func TestBestCutsAreWorthMost(t *testing.T) {
	eachPriceSample(func(prices []int, rod int) {
		name := fmt.Sprintf("%d by %v", rod, prices)
		best, okBest := impl.BestRodValue(prices, rod)
		first, okFirst := impl.FirstBestCut(prices, rod)
		if !okBest || !okFirst || sum(first) != rod || !slices.IsSorted(first) {
			t.Fatalf("%s: %v %v %v", name, okBest, first, okFirst)
		}
		mustReturn(t, "WorthOfCut of the first cut of "+name, results(impl.WorthOfCut(prices, first)), best)
		if rod > 12 {
			return
		}
		for _, cut := range cutsInModel(rod, 1, len(prices)) {
			if worth, ok := impl.WorthOfCut(prices, cut); !ok || worth > best {
				t.Errorf("%s: the best value is %d, but %v is worth %d %v", name, best, cut, worth, ok)
			}
		}
	})
}

func TestWorthOfCut(t *testing.T) {
	prices := []int{1, 5, 8, 9}
	cases := []struct {
		prices, pieces []int
		worth          int
	}{
		{prices, nil, 0},
		{prices, []int{1}, 1},
		{prices, []int{4}, 9},
		{prices, []int{2, 2}, 10},
		// In any order, and together longer than any rod.
		{prices, []int{4, 1, 3, 2, 1}, 24},
		{prices, repeated(4, 60), 540},
		{repeated(impl.MaxPrice, 60), repeated(60, 60), 60000},
		{append(repeated(7, 59), 0), []int{60, 59, 60}, 7},
		{[]int{0}, repeated(1, 60), 0},
	}
	for _, c := range cases {
		mustReturn(t, fmt.Sprint("WorthOfCut of ", c.pieces), results(impl.WorthOfCut(c.prices, c.pieces)), c.worth)
	}
	bad := [][]int{
		{0}, {5}, {-1}, {1, 2, 0}, {1, 2, 5}, {5, 1}, {-1, 2}, {math.MinInt}, {math.MaxInt}, {math.MaxInt, 1}, {61},
		repeated(1, 61), repeated(1, 1000), append(repeated(1, 59), 5), append(repeated(1, 59), 0),
	}
	for _, pieces := range bad {
		mustFail(t, fmt.Sprint("WorthOfCut of ", pieces), results(impl.WorthOfCut(prices, pieces)))
	}
}

func TestCountAllCuts(t *testing.T) {
	for rod := 1; rod <= 20; rod++ {
		mustReturn(t, fmt.Sprint("CountAllCuts of ", rod), results(impl.CountAllCuts(rod)), len(cutsInModel(rod, 1, rod)))
	}
	for rod, count := range map[int]int{1: 1, 2: 2, 3: 3, 4: 5, 5: 7, 10: 42, 30: 5604, 50: 204226, 59: 831820, 60: 966467} {
		mustReturn(t, fmt.Sprint("CountAllCuts of ", rod), results(impl.CountAllCuts(rod)), count)
	}
	for _, rod := range badRods() {
		mustFail(t, fmt.Sprint("CountAllCuts of ", rod), results(impl.CountAllCuts(rod)))
	}
}

func TestLengthsTexts(t *testing.T) {
	texts := map[string][]int{"1": {1}, "60": {60}, "3,4": {3, 4}, "9,10": {9, 10}, "1,2,3,4": {1, 2, 3, 4}, "57,58,59,60": {57, 58, 59, 60}}
	m := &mixer{state: 34}
	next := func() []int { return m.lengths(impl.MaxKinds, impl.MaxRod) }
	mustBeTexts(t, texts, next, impl.ParseLengths, impl.LengthsText)
}

func TestTextsThatAreNoLengths(t *testing.T) {
	texts := []string{
		"", ",", "0", "61", "100", "-1", "+1", "01", "00", "1,", ",1", "1,,2", "3,3", "4,3", "1,3,2", "1,2,2,3", "0,1", "1,61", "1,2,3,4,5", "1,2,3,4,", "1,2,3,4,4",
		" 1", "1 ", "1, 2", "1 ,2", "1;2", "1-2", "1|2", "1x2", "1.0", "1e1", "0x1", "1_0", "a", "1,a", "1\n", "\x00", "\xff", "١",
		"3,+4", "3,04", "99999999999999999999", "18446744073709551617", "-9223372036854775808", "1,18446744073709551618",
		strings.Repeat("1,", 100000) + "1", strings.Repeat(",", 100000), strings.Repeat("0", 100000) + "1", strings.Repeat("9", 100000),
	}
	for _, text := range texts {
		mustFail(t, fmt.Sprintf("ParseLengths of %.40q", text), results(impl.ParseLengths(text)))
	}
}

func TestLengthsTextsOfShortStrings(t *testing.T) {
	isShort := regexp.MustCompile(`^([1-9]|[1-5]\d|60)(,([1-9]|[1-5]\d|60)){0,3}$`)
	isText := func(s string) bool {
		before := 0
		for word := range strings.SplitSeq(s, ",") {
			length := 0
			for _, digit := range []byte(word) {
				length = 10*length + int(digit-'0')
			}
			if length <= before {
				return false
			}
			before = length
		}
		return true
	}
	mustParseTexts(t, "01256,-", 6, func(s string) bool { return isShort.MatchString(s) && isText(s) }, impl.ParseLengths, impl.LengthsText)
	mustParseTexts(t, "1234,", 7, func(s string) bool { return isShort.MatchString(s) && isText(s) }, impl.ParseLengths, impl.LengthsText)
}
