package tests

import (
	"fmt"
	"math"
	"testing"

	"loop.example/g01334/impl"
)

// Promise 11 for chapter 4: every function accepts all arguments, modifies none of them and shares no memory with them.

func badRods() []int {
	return []int{0, -1, -10, impl.MaxRod + 1, 100, math.MinInt, math.MaxInt}
}

func badLengths() [][]int {
	return [][]int{
		nil, {}, {0}, {-1}, {61}, {3, 3}, {4, 3}, {0, 3}, {-1, 3}, {3, 61}, {3, 0}, {3, -4}, {1, 2, 2}, {2, 1, 3}, {1, 3, 2, 4}, {1, 2, 3, 3},
		{1, 2, 3, 4, 5}, {1, 2, 3, 4, 4}, repeated(1, 1000), {math.MinInt}, {math.MaxInt}, {math.MinInt, 3}, {3, math.MaxInt}, {3, 4, math.MinInt},
	}
}

// badRodPatterns are no patterns of a rod of 10 with the lengths 3 and 4.
func badRodPatterns() [][]int {
	return [][]int{
		nil, {}, {0}, {1}, {0, 0, 0}, {1, 1, 0}, {2, 1, 0, 0}, repeated(0, 5), repeated(0, 1000),
		{4, 0}, {0, 3}, {3, 1}, {2, 2}, {1, 2}, {3, 2}, {-1, 0}, {0, -1}, {-1, 2}, {-2, 4}, {4, -1}, {2, -1}, {-1, -1},
		{math.MaxInt, 0}, {0, math.MaxInt}, {math.MinInt, 0}, {0, math.MinInt}, {math.MaxInt, math.MaxInt}, {math.MinInt, math.MinInt},
		// Products of these wrap around to lengths that would be right.
		{0, 1 << 62}, {0, math.MinInt}, {1 << 62, 1 << 62}, {1, 1<<62 + 1},
	}
}

func badCounts() [][]int {
	return [][]int{
		nil, {}, {-1}, {7}, {0, 7}, {7, 0}, {-1, 1}, {1, -1}, {6, 6, 6, 7}, {0, 0, 0, -1}, {0, 0, 0, 0, 0}, {1, 1, 1, 1, 1}, repeated(0, 1000),
		{math.MinInt}, {math.MaxInt}, {math.MaxInt, math.MinInt}, {1, math.MaxInt}, {math.MinInt, 1},
	}
}

// badOrders are no orders for a rod of 10 of the lengths 3, 4 and 11.
func badOrders() [][]int {
	return append(badCounts(), [][]int{
		{0}, {1, 1}, {1, 1, 0, 0}, {0, 0, 1}, {1, 1, 1}, {3, 2, 6}, {6, 4, 0}, {4, 6, 0}, {6, 6, 0}, {5, 5, 0}, {7, 0, 0}, {0, 7, 0}, {-1, 3, 0}, {3, -1, 0}, {3, 2, -1},
		{0, 0, math.MaxInt}, {math.MaxInt, 1, 0}, {0, math.MinInt, 0},
	}...)
}

func badPrices() [][]int {
	return [][]int{
		nil, {}, {-1}, {1001}, {1, -1}, {-1, 1}, {1, 1001}, {1001, 1}, repeated(1, impl.MaxRod+1), repeated(1, 1000), append(repeated(0, 59), -1),
		{math.MinInt}, {math.MaxInt}, {1, math.MaxInt}, {math.MinInt, 1},
	}
}

// orderCalls are all functions of orders.
func orderCalls() map[string]func(rod int, lengths, list []int) []any {
	return map[string]func(rod int, lengths, list []int) []any{
		"FewestRods":       func(rod int, lengths, list []int) []any { return results(impl.FewestRods(rod, lengths, list)) },
		"FirstRods":        func(rod int, lengths, list []int) []any { return results(impl.FirstRods(rod, lengths, list)) },
		"RodsBound":        func(rod int, lengths, list []int) []any { return results(impl.RodsBound(rod, lengths, list)) },
		"LongestFirstRods": func(rod int, lengths, list []int) []any { return results(impl.LongestFirstRods(rod, lengths, list)) },
	}
}

// priceCalls are all functions of prices and a rod.
func priceCalls() map[string]func(prices []int, rod int) []any {
	return map[string]func(prices []int, rod int) []any{
		"BestRodValue":  func(prices []int, rod int) []any { return results(impl.BestRodValue(prices, rod)) },
		"FirstBestCut":  func(prices []int, rod int) []any { return results(impl.FirstBestCut(prices, rod)) },
		"CountBestCuts": func(prices []int, rod int) []any { return results(impl.CountBestCuts(prices, rod)) },
	}
}

// rodCalls are all functions of a rod and lengths, by which they are called with a pattern or orders.
func rodCalls() map[string]func(rod int, lengths, list []int) []any {
	calls := orderCalls()
	for name, call := range patternCalls() {
		calls[name] = call
	}
	calls["IsRodPattern"] = func(rod int, lengths, list []int) []any { return results(impl.IsRodPattern(rod, lengths, list)) }
	calls["FullPatterns"] = func(rod int, lengths, list []int) []any { return results(impl.FullPatterns(rod, lengths)) }
	calls["CountPatterns"] = func(rod int, lengths, list []int) []any { return results(impl.CountPatterns(rod, lengths)) }
	calls["LeastWaste"] = func(rod int, lengths, list []int) []any { return results(impl.LeastWaste(rod, lengths)) }
	return calls
}

// rodListCalls are all functions of chapter 4 with lists as arguments: the first list are lengths, counts or prices.
func rodListCalls() map[string]func(rod int, first, second []int) []any {
	calls := rodCalls()
	for name, call := range priceCalls() {
		calls[name] = func(rod int, first, second []int) []any { return call(first, rod) }
	}
	calls["AreLengths"] = func(rod int, first, second []int) []any { return results(impl.AreLengths(first)) }
	calls["CountOrders"] = func(rod int, first, second []int) []any { return results(impl.CountOrders(first)) }
	calls["WorthOfCut"] = func(rod int, first, second []int) []any { return results(impl.WorthOfCut(first, second)) }
	calls["LengthsText"] = func(rod int, first, second []int) []any { return results(impl.LengthsText(first)) }
	calls["LeftOver"] = func(rod int, first, second []int) []any { return results(impl.LeftOver(first, [][]int{second})) }
	return calls
}

func TestRodsAndLengthsAreRequired(t *testing.T) {
	for name, call := range rodCalls() {
		for _, lengths := range badLengths() {
			mustFail(t, fmt.Sprint(name, " by ", lengths), call(10, lengths, make([]int, len(lengths))))
			mustFail(t, fmt.Sprint(name, " of one by ", lengths), call(impl.MaxRod, lengths, append([]int{1}, make([]int, max(0, len(lengths)-1))...)))
			mustFail(t, fmt.Sprint(name, " of nothing by ", lengths), call(10, lengths, nil))
		}
		for _, rod := range badRods() {
			mustFail(t, fmt.Sprint(name, " of ", rod), call(rod, []int{6, 7}, []int{0, 0}))
			mustFail(t, fmt.Sprint(name, " of one of ", rod), call(rod, []int{6, 7}, []int{1, 0}))
		}
		for _, rod := range []int{1, impl.MaxRod} {
			if !succeeded(call(rod, []int{6, 7}, []int{0, 0})) {
				t.Errorf("%s fails for a rod of %d", name, rod)
			}
		}
	}
	for _, lengths := range badLengths() {
		mustFail(t, fmt.Sprint("LengthsText of ", lengths), results(impl.LengthsText(lengths)))
	}
}

func TestPatternsAreRequired(t *testing.T) {
	for name, call := range patternCalls() {
		for _, list := range badRodPatterns() {
			mustFail(t, fmt.Sprint(name, " of ", list), call(10, []int{3, 4}, list))
		}
	}
}

func TestOrdersAreRequired(t *testing.T) {
	for name, call := range orderCalls() {
		for _, list := range badOrders() {
			mustFail(t, fmt.Sprint(name, " of ", list), call(10, []int{3, 4, 11}, list))
		}
		for _, list := range [][]int{{0, 0, 0}, {6, 3, 0}, {3, 6, 0}} {
			if !succeeded(call(10, []int{3, 4, 11}, list)) {
				t.Errorf("%s fails for %v", name, list)
			}
		}
		if !succeeded(call(11, []int{3, 4, 11}, []int{0, 3, 6})) {
			t.Errorf("%s fails for a length as long as the rod", name)
		}
	}
}

func TestPricesAreRequired(t *testing.T) {
	for name, call := range priceCalls() {
		for _, prices := range badPrices() {
			mustFail(t, fmt.Sprint(name, " by ", prices), call(prices, 1))
		}
		for _, rod := range badRods() {
			mustFail(t, fmt.Sprint(name, " of ", rod), call([]int{1, 5, 8, 9}, rod))
		}
		for _, rod := range []int{1, impl.MaxRod} {
			if !succeeded(call([]int{1, 5, 8, 9}, rod)) {
				t.Errorf("%s fails for a rod of %d", name, rod)
			}
		}
	}
	for _, prices := range badPrices() {
		mustFail(t, fmt.Sprint("WorthOfCut by ", prices), results(impl.WorthOfCut(prices, []int{1})))
		mustFail(t, fmt.Sprint("WorthOfCut of nothing by ", prices), results(impl.WorthOfCut(prices, nil)))
	}
}

func TestRodArgumentsAreKept(t *testing.T) {
	inputs := []struct {
		rod           int
		first, second []int
	}{
		{10, []int{3, 4}, []int{2, 1}},
		{10, []int{3, 4}, []int{3, 2}},
		{10, []int{3, 4}, []int{0, 0}},
		{10, []int{4, 3}, []int{2, 1}},
		{10, []int{3, 4}, []int{1, 1, 1}},
		{60, []int{10, 20, 30, 40}, []int{0, 0, 0, 1}},
		{60, []int{6}, []int{6}},
		{4, []int{6, 5, 2, 0}, []int{1, 3, 2, 0}},
		{5, []int{1, 5, 8, 9}, []int{4, 1, 3}},
		{61, []int{1, 5, 8, 9}, nil},
		{10, nil, nil},
	}
	for name, call := range rodListCalls() {
		for _, in := range inputs {
			first, firstKept := guarded(in.first)
			second, secondKept := guarded(in.second)
			mustKeep(t, fmt.Sprint(name, " of ", in), func() []any { return call(in.rod, first, second) }, firstKept, secondKept)
		}
	}
}

func TestTakenPatternsAreKept(t *testing.T) {
	for _, rows := range [][][]int{nil, {{0, 0}}, {{1, 0}, {0, 2}, {1, 0}}, {{6, 6}}, {{1, 0}, {1}}} {
		counts, countsKept := guarded([]int{3, 2})
		patterns, patternsKept := guardedRows(rows)
		mustKeep(t, fmt.Sprint("LeftOver behind ", rows), func() []any { return results(impl.LeftOver(counts, patterns)) }, countsKept, patternsKept)
	}
}

func TestPatternsShareNoMemory(t *testing.T) {
	full, ok := impl.FullPatterns(10, []int{3, 4})
	mustReturnApart(t, "FullPatterns", full, ok, [][]int{{0, 2}, {2, 1}, {3, 0}})
	first, ok := impl.FirstRods(10, []int{3, 5}, []int{4, 4})
	mustReturnApart(t, "FirstRods", first, ok, [][]int{{3, 0}, {1, 1}, {0, 2}, {0, 1}})
	first, ok = impl.FirstRods(10, []int{6}, []int{3})
	mustReturnApart(t, "FirstRods of equal patterns", first, ok, [][]int{{1}, {1}, {1}})
	longest, ok := impl.LongestFirstRods(10, []int{3, 6}, []int{4, 2})
	mustReturnApart(t, "LongestFirstRods", longest, ok, [][]int{{1, 1}, {1, 1}, {2, 0}})
}

func TestParsedLengthsAreNew(t *testing.T) {
	first, _ := impl.ParseLengths("3,4,10,60")
	spoil([]any{first})
	mustReturn(t, "ParseLengths again", results(impl.ParseLengths("3,4,10,60")), []int{3, 4, 10, 60})
}

// TestPatternsAreFoundAgain calls functions whose patterns are found by goroutines often: it does not matter which one is the first.
func TestPatternsAreFoundAgain(t *testing.T) {
	for range 200 {
		mustReturn(t, "LeastWaste", results(impl.LeastWaste(31, []int{2, 3, 5, 7})), 0, []int{0, 0, 2, 3})
		mustReturn(t, "FirstRods", results(impl.FirstRods(20, []int{2, 3, 5, 7}, []int{3, 2, 2, 2})), [][]int{{3, 2, 1, 0}, {0, 0, 1, 2}})
	}
}

func TestAnyRodsAreAccepted(t *testing.T) {
	odd := []int{math.MinInt, -1, 0, 1, 2, 3, 5, 6, 7, 10, 59, 60, 61, 1000, 1001, math.MaxInt}
	m := &mixer{state: 35}
	pick := func() int { return odd[m.next(0, len(odd)-1)] }
	picked := func() []int {
		list := make([]int, m.next(0, 5))
		for i := range list {
			list[i] = pick()
		}
		return list
	}
	for range 1000 {
		rod, first, second := pick(), picked(), picked()
		if m.next(0, 1) == 0 {
			first = m.lengths(m.next(1, 4), 60)
		}
		for name, call := range rodListCalls() {
			if all := call(rod, first, second); !succeeded(all) {
				mustFail(t, fmt.Sprint(name, " of ", rod, first, second), all)
			}
		}
		patterns := [][]int{second, picked(), picked()}
		if all := results(impl.LeftOver(first, patterns)); !succeeded(all) {
			mustFail(t, fmt.Sprint("LeftOver of ", first, " behind ", patterns), all)
		}
	}
}
