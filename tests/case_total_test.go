package tests

import (
	"fmt"
	"math"
	"testing"

	"loop.example/g01334/impl"
)

// Promise 11 for chapter 6: every function accepts all arguments, modifies none of them and shares no memory with them.

func badLimits() []int {
	return []int{-1, -2, impl.MaxLimit + 1, impl.MaxLimit + 2, 2 * impl.MaxLimit, 10000, math.MinInt, math.MaxInt}
}

func badItems() [][]impl.Item {
	lists := [][]impl.Item{nil, {}, sameItems(1, 1, 1, 11), sameItems(0, 0, 0, 11), sameItems(1, 1, 1, 1000)}
	var items []impl.Item
	for _, bad := range badLimits() {
		items = append(items, itemOf(bad, 2, 3), itemOf(1, bad, 3), itemOf(1, 2, bad), itemOf(bad, bad, bad))
	}
	for _, bad := range items {
		lists = append(lists, []impl.Item{bad}, append(exampleItems(), bad), append([]impl.Item{bad}, exampleItems()...))
	}
	return lists
}

func badCases() []impl.Case {
	var cases []impl.Case
	for _, bad := range badLimits() {
		cases = append(cases, caseOf(bad, 5), caseOf(6, bad), caseOf(bad, 0), caseOf(0, bad), caseOf(bad, bad))
	}
	return cases
}

// badChosen are no increasing lists of the items of the example.
func badChosen() [][]int {
	return [][]int{
		{-1}, {3}, {4}, {-2}, {10}, {0, 3}, {2, 3}, {-1, 0}, {0, -1}, {3, 0}, {0, 1, 3}, {-1, 0, 1}, {0, 1, 2, 3}, {-1, 0, 1, 2},
		{0, 0}, {1, 1}, {2, 2}, {0, 0, 1}, {0, 1, 1}, {0, 1, 2, 2}, {1, 0}, {2, 1}, {2, 0}, {0, 2, 1}, {1, 0, 2}, {2, 1, 0}, {0, 1, 0}, {0, 1, 2, 0},
		repeated(0, impl.MaxItems), repeated(2, 1000), allItems(4), allItems(10),
		{math.MinInt}, {math.MaxInt}, {math.MinInt, 0}, {0, math.MaxInt}, {0, math.MinInt}, {math.MaxInt, 0}, {0, 1, 2, math.MaxInt}, {math.MinInt, math.MaxInt},
	}
}

// caseArguments are all that the functions of chapter 6 are called with.
type caseArguments struct {
	items  []impl.Item
	c, d   impl.Case
	chosen []int
	limit  int
	value  int
}

// exampleArguments are valid ones for all functions.
func exampleArguments() caseArguments {
	return caseArguments{items: exampleItems(), c: exampleCase(), d: caseOf(3, 2), chosen: []int{2}, limit: 5, value: 5}
}

// packCalls are all functions that need a suitcase.
func packCalls() map[string]func(a caseArguments) []any {
	return map[string]func(a caseArguments) []any{
		"IsChoice":     func(a caseArguments) []any { return results(impl.IsChoice(a.items, a.c, a.chosen)) },
		"BestPacked":   func(a caseArguments) []any { return results(impl.BestPacked(a.items, a.c)) },
		"FirstPacked":  func(a caseArguments) []any { return results(impl.FirstPacked(a.items, a.c)) },
		"CountPacked":  func(a caseArguments) []any { return results(impl.CountPacked(a.items, a.c)) },
		"PackByValue":  func(a caseArguments) []any { return results(impl.PackByValue(a.items, a.c)) },
		"PackByRatio":  func(a caseArguments) []any { return results(impl.PackByRatio(a.items, a.c)) },
		"MostPacked":   func(a caseArguments) []any { return results(impl.MostPacked(a.items, a.c)) },
		"GainOfWeight": func(a caseArguments) []any { return results(impl.GainOfWeight(a.items, a.c, a.limit)) },
		"GainOfBulk":   func(a caseArguments) []any { return results(impl.GainOfBulk(a.items, a.c, a.limit)) },
		"AlwaysPacked": func(a caseArguments) []any { return results(impl.AlwaysPacked(a.items, a.c)) },
		"TwoCases":     func(a caseArguments) []any { return results(impl.TwoCases(a.items, a.c, a.d)) },
		"CountChoices": func(a caseArguments) []any { return results(impl.CountChoices(a.items, a.c)) },
		"BestExchange": func(a caseArguments) []any { return results(impl.BestExchange(a.items, a.c, a.chosen)) },
	}
}

// caseCalls are all functions of chapter 6 with a list as an argument.
func caseCalls() map[string]func(a caseArguments) []any {
	calls := packCalls()
	calls["AreItems"] = func(a caseArguments) []any { return results(impl.AreItems(a.items)) }
	calls["TotalsOf"] = func(a caseArguments) []any { return results(impl.TotalsOf(a.items, a.chosen)) }
	calls["LightestFor"] = func(a caseArguments) []any { return results(impl.LightestFor(a.items, a.limit, a.value)) }
	calls["NeverNeeded"] = func(a caseArguments) []any { return results(impl.NeverNeeded(a.items)) }
	calls["ItemsText"] = func(a caseArguments) []any { return results(impl.ItemsText(a.items)) }
	return calls
}

// TestExampleArgumentsAreValid makes sure that calls with one of them exchanged fail because of that one.
func TestExampleArgumentsAreValid(t *testing.T) {
	for name, call := range caseCalls() {
		if all := call(exampleArguments()); !succeeded(all) {
			t.Errorf("%s fails", name)
		}
	}
}

func TestItemsAreRequired(t *testing.T) {
	for name, call := range caseCalls() {
		for _, items := range badItems() {
			for _, chosen := range [][]int{nil, {0}, {2}, {1, 2}} {
				for _, c := range []impl.Case{exampleCase(), caseOf(0, 0), caseOf(200, 200)} {
					a := exampleArguments()
					a.items, a.c, a.chosen, a.value = items, c, chosen, 0
					mustFail(t, fmt.Sprint(name, " of ", chosen, " of ", items, " in ", c), call(a))
				}
			}
		}
	}
}

func TestSuitcasesAreRequired(t *testing.T) {
	for name, call := range packCalls() {
		for _, c := range badCases() {
			for _, chosen := range [][]int{nil, {2}} {
				a := exampleArguments()
				a.c, a.chosen, a.limit = c, chosen, 0
				mustFail(t, fmt.Sprint(name, " of ", chosen, " in ", c), call(a))
			}
		}
	}
	for _, d := range badCases() {
		mustFail(t, fmt.Sprint("TwoCases with ", d), results(impl.TwoCases(exampleItems(), exampleCase(), d)))
		mustFail(t, fmt.Sprint("TwoCases with ", d, " and nothing"), results(impl.TwoCases(exampleItems(), caseOf(0, 0), d)))
	}
}

func TestChoicesAreRequired(t *testing.T) {
	for _, chosen := range badChosen() {
		mustFail(t, fmt.Sprint("TotalsOf of ", chosen), results(impl.TotalsOf(exampleItems(), chosen)))
		mustFail(t, fmt.Sprint("BestExchange of ", chosen), results(impl.BestExchange(exampleItems(), caseOf(200, 200), chosen)))
	}
	// These do not fit, even though with another item instead they would.
	mustFail(t, "BestExchange of what is too heavy", results(impl.BestExchange([]impl.Item{itemOf(3, 0, 1), itemOf(2, 0, 9)}, caseOf(2, 2), []int{0})))
	mustFail(t, "BestExchange of what is too bulky", results(impl.BestExchange([]impl.Item{itemOf(0, 3, 1), itemOf(0, 2, 9)}, caseOf(2, 2), []int{0})))
}

func TestCaseArgumentsAreKept(t *testing.T) {
	changes := []func(a *caseArguments){
		func(a *caseArguments) {},
		func(a *caseArguments) { a.chosen = nil },
		func(a *caseArguments) { a.chosen = []int{0, 1} },
		func(a *caseArguments) { a.chosen = []int{1, 2} },
		func(a *caseArguments) { a.chosen = []int{2, 1} },
		func(a *caseArguments) { a.chosen = []int{0, 3} },
		func(a *caseArguments) { a.c = caseOf(200, 200) },
		func(a *caseArguments) { a.c, a.chosen = caseOf(200, 200), []int{0, 1, 2} },
		func(a *caseArguments) { a.c, a.d = caseOf(0, 0), caseOf(0, 0) },
		func(a *caseArguments) { a.c = caseOf(-1, 5) },
		func(a *caseArguments) { a.limit, a.value = 200, 10000 },
		func(a *caseArguments) { a.limit, a.value = 0, 0 },
		func(a *caseArguments) {
			a.items = []impl.Item{itemOf(3, 3, 1), itemOf(2, 2, 5), itemOf(1, 1, 9), itemOf(2, 2, 5)}
			a.chosen = []int{0, 1}
		},
		func(a *caseArguments) {
			a.items, a.c, a.chosen = sameItems(20, 20, 9, 10), caseOf(200, 200), allItems(10)
		},
		func(a *caseArguments) { a.items, a.chosen = sameItems(1, 1, 0, 10), allItems(5) },
		func(a *caseArguments) { a.items = sameItems(1, 1, 1, 11) },
		func(a *caseArguments) { a.items = append(exampleItems(), itemOf(-1, 2, 3)) },
		func(a *caseArguments) { a.items = nil },
	}
	for name, call := range caseCalls() {
		for _, change := range changes {
			a := exampleArguments()
			change(&a)
			title := fmt.Sprint(name, " of ", a)
			items, itemsKept := guardedBy(a.items, markedItem())
			chosen, chosenKept := guarded(a.chosen)
			a.items, a.chosen = items, chosen
			mustKeep(t, title, func() []any { return call(a) }, itemsKept, chosenKept)
		}
	}
}

func TestParsedItemsAreNew(t *testing.T) {
	first, _ := impl.ParseItems("4.2.5,3.3.4,3.2.3")
	spoil([]any{first})
	mustReturn(t, "ParseItems again", results(impl.ParseItems("4.2.5,3.3.4,3.2.3")), exampleItems())
}

func TestAnyItemsAreAccepted(t *testing.T) {
	odd := []int{math.MinInt, -2, -1, 0, 1, 2, 3, 5, 9, 10, 11, 199, 200, 201, 10000, 10001, math.MaxInt}
	m := &mixer{state: 53}
	pick := func() int { return odd[m.next(0, len(odd)-1)] }
	for range 1000 {
		a := caseArguments{items: make([]impl.Item, m.next(0, 11)), c: caseOf(pick(), pick()), d: caseOf(pick(), pick()), limit: pick(), value: pick()}
		for i := range a.items {
			a.items[i] = itemOf(pick(), pick(), pick())
		}
		if m.next(0, 1) == 0 {
			a.items = m.evenItems(m.next(1, 6))
		}
		if m.next(0, 1) == 0 {
			a.c, a.d = m.suitcase(m.evenItems(6)), m.suitcase(m.evenItems(6))
		}
		for range m.next(0, 4) {
			a.chosen = append(a.chosen, pick())
		}
		for name, call := range caseCalls() {
			if all := call(a); !succeeded(all) {
				mustFail(t, fmt.Sprint(name, " of ", a), all)
			}
		}
	}
}
