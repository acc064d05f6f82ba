package tests

import (
	"fmt"
	"math"
	"testing"

	"loop.example/g01334/impl"
)

// Promise 11 for chapter 5: every function accepts all arguments, modifies none of them and shares no memory with them.

func badStackables() [][]impl.Thing {
	lists := [][]impl.Thing{nil, {}, sameThings(1, 0, 1, 8), sameThings(1, 1000, 1, 8), sameThings(1, 1, 1, 1000)}
	things := []impl.Thing{thingOf(0, 2, 3), thingOf(1, 2, 0), thingOf(0, 0, 0)}
	for _, bad := range []int{-1, impl.MaxHeavy + 1, math.MinInt, math.MaxInt} {
		things = append(things, thingOf(bad, 2, 3), thingOf(1, bad, 3), thingOf(1, 2, bad), thingOf(bad, bad, bad))
	}
	for _, bad := range things {
		lists = append(lists, []impl.Thing{bad}, append(exampleStackables(), bad), append([]impl.Thing{bad}, exampleStackables()...))
	}
	return lists
}

// badStacks are no stacks of the things of the example.
func badStacks() [][]int {
	return [][]int{
		{-1}, {3}, {4}, {-2}, {0, 3}, {3, 0}, {0, -1}, {-1, 0}, {0, 1, 3}, {0, 1, -1}, {3, 1, 2},
		{0, 0}, {1, 1}, {2, 2}, {0, 1, 0}, {1, 0, 0}, {0, 1, 1}, {2, 0, 2}, {2, 2, 2},
		{0, 1, 2, 0}, {0, 1, 2, 1}, {0, 1, 2, 2}, {0, 1, 2, 3}, {0, 1, 2, -1}, {2, 1, 0, 0}, repeated(0, impl.MaxStacked), repeated(0, 1000),
		{math.MinInt}, {math.MaxInt}, {0, math.MaxInt}, {0, math.MinInt}, {math.MaxInt, 0}, {math.MinInt, 1}, {0, 1, math.MaxInt}, {0, 1, 2, math.MinInt},
	}
}

// stackablesCalls are all functions of things alone.
func stackablesCalls() map[string]func(list []impl.Thing) []any {
	return map[string]func(list []impl.Thing) []any{
		"AreStackable":    func(list []impl.Thing) []any { return results(impl.AreStackable(list)) },
		"CanStackAll":     func(list []impl.Thing) []any { return results(impl.CanStackAll(list)) },
		"SafeOrder":       func(list []impl.Thing) []any { return results(impl.SafeOrder(list)) },
		"CountSafeOrders": func(list []impl.Thing) []any { return results(impl.CountSafeOrders(list)) },
		"MostStacked":     func(list []impl.Thing) []any { return results(impl.MostStacked(list)) },
		"TallestStack":    func(list []impl.Thing) []any { return results(impl.TallestStack(list)) },
		"OnlyBelow":       func(list []impl.Thing) []any { return results(impl.OnlyBelow(list)) },
		"StrongestFirst":  func(list []impl.Thing) []any { return results(impl.StrongestFirst(list)) },
		"StackablesText":  func(list []impl.Thing) []any { return results(impl.StackablesText(list)) },
	}
}

// stackableCalls are all functions of chapter 5 with lists as arguments, by which they are called with a list of things of a stack and a number.
func stackableCalls() map[string]func(list []impl.Thing, stack []int, k int) []any {
	calls := stackCalls()
	for name, call := range stackablesCalls() {
		calls[name] = func(list []impl.Thing, stack []int, k int) []any { return call(list) }
	}
	calls["IsStack"] = func(list []impl.Thing, stack []int, k int) []any { return results(impl.IsStack(list, stack)) }
	calls["CountSafe"] = func(list []impl.Thing, stack []int, k int) []any { return results(impl.CountSafe(list, k)) }
	return calls
}

func TestStackablesAreRequired(t *testing.T) {
	for name, call := range stackableCalls() {
		for _, list := range badStackables() {
			for k := range 3 {
				mustFail(t, fmt.Sprint(name, " of nothing of ", list), call(list, nil, k))
				mustFail(t, fmt.Sprint(name, " of one of ", list), call(list, []int{0}, k))
				// The things of the example are valid ones in some of the lists, where they come first or last.
				mustFail(t, fmt.Sprint(name, " of two of ", list), call(list, []int{0, 1}, k))
				mustFail(t, fmt.Sprint(name, " of the last ones of ", list), call(list, []int{1, 2}, k))
			}
		}
	}
}

func TestStacksAreRequired(t *testing.T) {
	for name, call := range stackCalls() {
		for _, stack := range badStacks() {
			for k := -1; k <= 3; k++ {
				mustFail(t, fmt.Sprint(name, " of ", stack, k), call(exampleStackables(), stack, k))
			}
		}
	}
}

func TestStackArgumentsAreKept(t *testing.T) {
	inputs := []struct {
		list  []impl.Thing
		stack []int
		k     int
	}{
		{exampleStackables(), nil, 0},
		{exampleStackables(), []int{}, 2},
		{exampleStackables(), []int{0}, 0},
		{exampleStackables(), []int{2}, 1},
		{exampleStackables(), []int{0, 1}, 2},
		{exampleStackables(), []int{2, 1, 0}, 3},
		{exampleStackables(), []int{0, 1, 1}, 2},
		{exampleStackables(), []int{0, 3}, 1},
		{[]impl.Thing{thingOf(4, 0, 1), thingOf(2, 4, 1), thingOf(1, 6, 1)}, []int{2, 1}, 0},
		{sameThings(1, 1000, 1, 7), []int{6, 5, 4, 3, 2, 1}, 0},
		{sameThings(1, 0, 1, 7), []int{0, 1, 2, 3, 4, 5, 6}, 7},
		{sameThings(1, 0, 1, 8), []int{0}, 1},
		{[]impl.Thing{thingOf(3, 2, 1), thingOf(0, 2, 1)}, []int{0}, 1},
		{nil, nil, 0},
	}
	for name, call := range stackableCalls() {
		for _, in := range inputs {
			list, listKept := guardedBy(in.list, markedThing())
			stack, stackKept := guarded(in.stack)
			mustKeep(t, fmt.Sprint(name, " of ", in), func() []any { return call(list, stack, in.k) }, listKept, stackKept)
		}
	}
}

func TestThingsOnlyBelowShareNoMemory(t *testing.T) {
	pairs, ok := impl.OnlyBelow([]impl.Thing{thingOf(4, 0, 1), thingOf(2, 4, 1), thingOf(1, 6, 1), thingOf(5, 0, 1)})
	mustReturnApart(t, "OnlyBelow", pairs, ok, [][]int{{1, 0}, {2, 0}, {2, 3}})
}

func TestParsedStackablesAreNew(t *testing.T) {
	first, _ := impl.ParseStackables("3/5/2,2/4/3,4/1/1")
	spoil([]any{first})
	mustReturn(t, "ParseStackables again", results(impl.ParseStackables("3/5/2,2/4/3,4/1/1")), exampleStackables())
}

// failingAt returns things of which, stacked in their order, the one with an index is the lowest one that fails.
func failingAt(k int) []impl.Thing {
	list := sameThings(1, 1000, 1, impl.MaxStacked)
	list[k].Bears = 0
	return list
}

// TestNoGoroutineRemains stops the goroutine that sends weights at each thing of a stack, often.
func TestNoGoroutineRemains(t *testing.T) {
	all := []int{0, 1, 2, 3, 4, 5, 6}
	mustEndGoroutines(t, func() {
		for k := range impl.MaxStacked - 1 {
			for range 300 {
				mustReturn(t, fmt.Sprint("WhoFails at ", k), results(impl.WhoFails(failingAt(k), all)), k)
				mustReturn(t, fmt.Sprint("IsSafe at ", k), results(impl.IsSafe(failingAt(k), all)), false)
			}
		}
		for range 300 {
			mustReturn(t, "WeightsAbove", results(impl.WeightsAbove(failingAt(0), all)), []int{6, 5, 4, 3, 2, 1, 0})
			mustReturn(t, "IsSafe of nothing", results(impl.IsSafe(failingAt(0), nil)), true)
		}
	})
}

func TestStacksAtTheSameTime(t *testing.T) {
	list, stack := exampleStackables(), []int{0, 1}
	for name, call := range stackableCalls() {
		mustAgreeAtTheSameTime(t, name, func() []any { return call(list, stack, 2) })
	}
}

func TestAnyStacksAreAccepted(t *testing.T) {
	odd := []int{math.MinInt, -2, -1, 0, 1, 2, 3, 5, 6, 7, 8, 999, 1000, 1001, math.MaxInt}
	m := &mixer{state: 45}
	pick := func() int { return odd[m.next(0, len(odd)-1)] }
	for range 1000 {
		list := make([]impl.Thing, m.next(0, 9))
		for i := range list {
			list[i] = thingOf(pick(), pick(), pick())
		}
		if m.next(0, 1) == 0 {
			list = m.barelyStackable(m.next(1, impl.MaxStacked))
		}
		stack := make([]int, m.next(0, 4))
		for i := range stack {
			stack[i] = pick()
		}
		k := pick()
		for name, call := range stackableCalls() {
			if all := call(list, stack, k); !succeeded(all) {
				mustFail(t, fmt.Sprint(name, " of ", list, stack, k), all)
			}
		}
	}
}
