package tests

import (
	"fmt"
	"math"
	"regexp"
	"slices"
	"strings"
	"testing"

	"loop.example/g01334/impl"
)

func thingOf(weight, bears, high int) impl.Thing {
	return impl.Thing{Weight: weight, Bears: bears, High: high}
}

// exampleStackables are 3/5/2,2/4/3,4/1/1.
func exampleStackables() []impl.Thing {
	return []impl.Thing{thingOf(3, 5, 2), thingOf(2, 4, 3), thingOf(4, 1, 1)}
}

// sameThings returns n times the same thing.
func sameThings(weight, bears, high, n int) []impl.Thing {
	return slices.Repeat([]impl.Thing{thingOf(weight, bears, high)}, n)
}

// stackables returns n things that are at most so heavy, bear at most so much, and are at most so high.
func (m *mixer) stackables(n, weight, bears, high int) []impl.Thing {
	list := make([]impl.Thing, n)
	for i := range list {
		list[i] = thingOf(m.next(1, weight), m.next(0, bears), m.next(1, high))
	}
	return list
}

// barelyStackable returns n things, at most 7, with few safe orders: each one bears just those that are told before it, and sometimes a little more or less.
func (m *mixer) barelyStackable(n int) []impl.Thing {
	list := make([]impl.Thing, n)
	before := 0
	for i := range list {
		list[i] = thingOf(m.next(1, 100), max(0, before+m.next(-1, 3)), m.next(1, impl.MaxHeavy))
		before += list[i].Weight
	}
	for i := range list {
		k := m.next(i, n-1)
		list[i], list[k] = list[k], list[i]
	}
	return list
}

// eachStackSample visits small things of all kinds, and some great ones.
func eachStackSample(visit func(list []impl.Thing)) {
	for n := 1; n <= 3; n++ {
		eachList(n, 0, 11, func(kinds []int) {
			list := make([]impl.Thing, n)
			for i, kind := range kinds {
				list[i] = thingOf(1+kind%2, kind/2%3, 1+kind/6)
			}
			visit(list)
		})
	}
	m := &mixer{state: 41}
	for range 100 {
		visit(m.stackables(m.next(2, 5), 4, 12, 3))
		visit(m.stackables(m.next(2, 5), impl.MaxHeavy, impl.MaxHeavy, impl.MaxHeavy))
		visit(m.barelyStackable(m.next(2, 5)))
	}
	for range 5 {
		visit(m.stackables(impl.MaxStacked, 4, 30, 5))
		visit(m.stackables(impl.MaxStacked, 300, impl.MaxHeavy, impl.MaxHeavy))
		visit(m.barelyStackable(impl.MaxStacked))
	}
}

func TestStackExample(t *testing.T) {
	list := exampleStackables()
	mustReturn(t, "IsSafe", results(impl.IsSafe(list, []int{0, 1})), true)
	mustReturn(t, "CanBearMore", results(impl.CanBearMore(list, []int{0, 1})), 3)
	mustReturn(t, "WeightsAbove", results(impl.WeightsAbove(list, []int{0, 1})), []int{2, 0})
	mustReturn(t, "CanStackAll", results(impl.CanStackAll(list)), false)
	mustReturn(t, "StrongestFirst", results(impl.StrongestFirst(list)), []int{0, 1, 2})
	mustReturn(t, "WeightsAbove of the strongest first", results(impl.WeightsAbove(list, []int{0, 1, 2})), []int{6, 4, 0})
	mustReturn(t, "MostStacked", results(impl.MostStacked(list)), []int{0, 1})
	mustReturn(t, "TallestStack", results(impl.TallestStack(list)), []int{0, 1}, 5)
	mustReturn(t, "CountSafe", results(impl.CountSafe(list, 2)), 4)
	for _, stack := range ofLength(listsOfSome(3), 2) {
		mustReturn(t, fmt.Sprint("IsSafe of ", stack), results(impl.IsSafe(list, stack)), stack[0] != 2)
	}
	mustReturn(t, "OnlyBelow", results(impl.OnlyBelow(list)), [][]int{{0, 2}, {1, 2}})
	mustReturn(t, "StackablesText", results(impl.StackablesText(list)), "3/5/2,2/4/3,4/1/1")
	mustReturn(t, "ParseStackables", results(impl.ParseStackables("3/5/2,2/4/3,4/1/1")), list)
}

func TestAreStackable(t *testing.T) {
	good := [][]impl.Thing{
		exampleStackables(), {thingOf(1, 0, 1)}, {thingOf(1000, 1000, 1000)}, {thingOf(1, 1000, 1)}, {thingOf(1000, 0, 1)}, {thingOf(1, 0, 1000)},
		sameThings(1, 0, 1, 7), sameThings(1000, 1000, 1000, 7),
	}
	mustTellApart(t, "AreStackable", impl.AreStackable, good, badStackables())
}

const (
	isSafe = true
	fails  = false
)

func TestStacksByHand(t *testing.T) {
	heaviest := strings.Repeat("1000/1000/1000,", 6) + "1000/1000/1000"
	strongest := strings.Repeat("1/1000/1,", 6) + "1/1000/1"
	cases := []struct {
		text    string
		stack   []int
		weights []int
		height  int
		safe    bool
		// What can be put on still if the stack is safe, and which thing fails if it is not.
		more, who int
	}{
		// A stack of nothing bears the greatest weight, and so does a top that bears it, however heavy it is itself.
		{"3/5/2,2/4/3,4/1/1", nil, nil, 0, isSafe, 1000, 0},
		{"1/0/1", nil, nil, 0, isSafe, 1000, 0},
		{"1/0/1", []int{0}, []int{0}, 1, isSafe, 0, 0},
		{"500/1000/9", []int{0}, []int{0}, 9, isSafe, 1000, 0},
		{"1000/1000/1000", []int{0}, []int{0}, 1000, isSafe, 1000, 0},
		{"1/999/1", []int{0}, []int{0}, 1, isSafe, 999, 0},
		{"1/1000/1,1/1000/1", []int{0, 1}, []int{1, 0}, 2, isSafe, 999, 0},
		{"1000/1000/1000,1000/1000/1000", []int{1, 0}, []int{1000, 0}, 2000, isSafe, 0, 0},
		// Some or all of the things, the first one of which is not always at the bottom.
		{"3/5/2,2/4/3,4/1/1", []int{2}, []int{0}, 1, isSafe, 1, 0},
		{"3/5/2,2/4/3,4/1/1", []int{1, 0}, []int{3, 0}, 5, isSafe, 1, 0},
		{"3/5/2,2/4/3,4/1/1", []int{0, 2}, []int{4, 0}, 3, isSafe, 1, 0},
		{"3/5/2,2/4/3,4/1/1", []int{2, 0}, []int{3, 0}, 3, fails, 0, 2},
		{"3/5/2,2/4/3,4/1/1", []int{2, 1}, []int{2, 0}, 4, fails, 0, 2},
		{"3/5/2,2/4/3,4/1/1", []int{0, 1, 2}, []int{6, 4, 0}, 6, fails, 0, 0},
		{"3/5/2,2/4/3,4/1/1", []int{1, 0, 2}, []int{7, 4, 0}, 6, fails, 0, 1},
		// Two of them fail: the lowest one counts.
		{"3/5/2,2/4/3,4/1/1", []int{1, 2, 0}, []int{7, 3, 0}, 6, fails, 0, 1},
		{"3/5/2,2/4/3,4/1/1", []int{2, 0, 1}, []int{5, 2, 0}, 6, fails, 0, 2},
		// The one at the bottom does not fail, but one above it does.
		{"9/1000/1,5/0/1,3/2/7", []int{0, 1, 2}, []int{8, 3, 0}, 9, fails, 0, 1},
		{"9/1000/1,5/0/1,3/2/7", []int{0, 2, 1}, []int{8, 5, 0}, 9, fails, 0, 2},
		{"9/1000/1,5/0/1,3/2/7", []int{0, 1}, []int{5, 0}, 2, isSafe, 0, 0},
		{"9/1000/1,5/0/1,3/2/7", []int{0, 2}, []int{3, 0}, 8, isSafe, 2, 0},
		// Things that bear just what is above them, or one less.
		{"1/6/1,2/4/1,4/0/1", []int{0, 1, 2}, []int{6, 4, 0}, 3, isSafe, 0, 0},
		{"1/5/1,2/4/1,4/0/1", []int{0, 1, 2}, []int{6, 4, 0}, 3, fails, 0, 0},
		{"1/6/1,2/3/1,4/0/1", []int{0, 1, 2}, []int{6, 4, 0}, 3, fails, 0, 1},
		// Seven things.
		{strongest, []int{3, 1, 4, 0, 5, 2, 6}, []int{6, 5, 4, 3, 2, 1, 0}, 7, isSafe, 994, 0},
		{heaviest, []int{4, 1, 3, 0, 5, 2, 6}, []int{6000, 5000, 4000, 3000, 2000, 1000, 0}, 7000, fails, 0, 4},
	}
	for _, c := range cases {
		list, _ := impl.ParseStackables(c.text)
		name := fmt.Sprintf(" of %v of %s", c.stack, c.text)
		mustReturn(t, "IsStack"+name, results(impl.IsStack(list, c.stack)), true)
		mustReturn(t, "WeightsAbove"+name, results(impl.WeightsAbove(list, c.stack)), c.weights)
		mustReturn(t, "HeightOf"+name, results(impl.HeightOf(list, c.stack)), c.height)
		mustReturn(t, "IsSafe"+name, results(impl.IsSafe(list, c.stack)), c.safe)
		if c.safe {
			mustReturn(t, "CanBearMore"+name, results(impl.CanBearMore(list, c.stack)), c.more)
			mustFail(t, "WhoFails"+name, results(impl.WhoFails(list, c.stack)))
		} else {
			mustFail(t, "CanBearMore"+name, results(impl.CanBearMore(list, c.stack)))
			mustReturn(t, "WhoFails"+name, results(impl.WhoFails(list, c.stack)), c.who)
		}
	}
}

func TestIsStack(t *testing.T) {
	for _, stack := range badStacks() {
		mustReturn(t, fmt.Sprint("IsStack of ", stack), results(impl.IsStack(exampleStackables(), stack)), false)
	}
}

func TestPutOnAndTakeTop(t *testing.T) {
	list := exampleStackables()
	// Neither the stack nor what it becomes has to be safe.
	cases := []struct {
		below []int
		top   int
		stack []int
	}{
		{nil, 0, []int{0}},
		{nil, 2, []int{2}},
		{[]int{0}, 1, []int{0, 1}},
		{[]int{2}, 0, []int{2, 0}},
		{[]int{0, 1}, 2, []int{0, 1, 2}},
		{[]int{2, 0}, 1, []int{2, 0, 1}},
		{[]int{2, 1}, 0, []int{2, 1, 0}},
	}
	for _, c := range cases {
		mustReturn(t, fmt.Sprint("PutOn of ", c.top, " on ", c.below), results(impl.PutOn(list, c.below, c.top)), c.stack)
		mustReturn(t, fmt.Sprint("TakeTop of ", c.stack), results(impl.TakeTop(list, c.stack)), c.below, c.top)
		for _, k := range c.stack {
			mustFail(t, fmt.Sprint("PutOn of ", k, " on ", c.stack), results(impl.PutOn(list, c.stack, k)))
		}
	}
	for _, k := range []int{-1, -2, 3, 4, impl.MaxStacked, math.MinInt, math.MaxInt} {
		for _, stack := range [][]int{nil, {0}, {0, 1}, {0, 1, 2}} {
			mustFail(t, fmt.Sprint("PutOn of ", k, " on ", stack), results(impl.PutOn(list, stack, k)))
		}
	}
	mustFail(t, "TakeTop of a stack of nothing", results(impl.TakeTop(list, nil)))
	mustFail(t, "TakeTop of an empty stack", results(impl.TakeTop(list, []int{})))
}

func TestStacksOfAllLists(t *testing.T) {
	m := &mixer{state: 42}
	samples := [][]impl.Thing{
		exampleStackables(), sameThings(2, 2, 1, 3), sameThings(1, 1000, 1000, 4), {thingOf(5, 0, 1)}, {thingOf(1, 2, 3), thingOf(3, 0, 2)},
		m.stackables(4, 3, 8, 9), m.barelyStackable(4), m.barelyStackable(3),
	}
	for _, list := range samples {
		for n := 0; n <= len(list)+1; n++ {
			eachList(n, -1, len(list), func(stack []int) { checkStack(t, list, stack) })
		}
	}
}

func TestStacksFollowTheModel(t *testing.T) {
	m := &mixer{state: 43}
	for range 8 {
		for _, list := range [][]impl.Thing{m.stackables(5, 5, 20, 9), m.barelyStackable(5), m.stackables(4, impl.MaxHeavy, impl.MaxHeavy, impl.MaxHeavy)} {
			for _, stack := range listsOfSome(len(list)) {
				checkStack(t, list, stack)
			}
		}
	}
}

// stackCalls are all functions of a stack, by which they are called with a thing to put on, that fail if the list is none.
func stackCalls() map[string]func(list []impl.Thing, stack []int, k int) []any {
	return map[string]func(list []impl.Thing, stack []int, k int) []any{
		"WeightsAbove": func(list []impl.Thing, stack []int, k int) []any { return results(impl.WeightsAbove(list, stack)) },
		"IsSafe":       func(list []impl.Thing, stack []int, k int) []any { return results(impl.IsSafe(list, stack)) },
		"CanBearMore":  func(list []impl.Thing, stack []int, k int) []any { return results(impl.CanBearMore(list, stack)) },
		"HeightOf":     func(list []impl.Thing, stack []int, k int) []any { return results(impl.HeightOf(list, stack)) },
		"WhoFails":     func(list []impl.Thing, stack []int, k int) []any { return results(impl.WhoFails(list, stack)) },
		"PutOn":        func(list []impl.Thing, stack []int, k int) []any { return results(impl.PutOn(list, stack, k)) },
		"TakeTop":      func(list []impl.Thing, stack []int, k int) []any { return results(impl.TakeTop(list, stack)) },
	}
}

// checkStack compares all functions of one list with the model, whether the list is a stack or not.
func checkStack(t *testing.T, list []impl.Thing, stack []int) {
	t.Helper()
	name := fmt.Sprintf(" of %v of %v", stack, list)
	is := isStackInModel(list, stack)
	mustReturn(t, "IsStack"+name, results(impl.IsStack(list, stack)), is)
	if !is {
		for called, call := range stackCalls() {
			mustFail(t, called+name, call(list, stack, 0))
		}
		return
	}
	mustReturn(t, "WeightsAbove"+name, results(impl.WeightsAbove(list, stack)), weightsAboveInModel(list, stack))
	mustReturn(t, "HeightOf"+name, results(impl.HeightOf(list, stack)), stackHeightInModel(list, stack))
	failing := failingInModel(list, stack)
	mustReturn(t, "IsSafe"+name, results(impl.IsSafe(list, stack)), len(failing) == 0)
	if len(failing) == 0 {
		mustReturn(t, "CanBearMore"+name, results(impl.CanBearMore(list, stack)), canBearMoreInModel(list, stack))
		mustFail(t, "WhoFails"+name, results(impl.WhoFails(list, stack)))
	} else {
		mustFail(t, "CanBearMore"+name, results(impl.CanBearMore(list, stack)))
		mustReturn(t, "WhoFails"+name, results(impl.WhoFails(list, stack)), failing[0])
	}
	for k := range list {
		put := fmt.Sprint("PutOn of ", k, name)
		if slices.Contains(stack, k) {
			mustFail(t, put, results(impl.PutOn(list, stack, k)))
		} else {
			mustReturn(t, put, results(impl.PutOn(list, stack, k)), append(slices.Clone(stack), k))
		}
	}
	if last := len(stack) - 1; last < 0 {
		mustFail(t, "TakeTop"+name, results(impl.TakeTop(list, stack)))
	} else {
		mustReturn(t, "TakeTop"+name, results(impl.TakeTop(list, stack)), stack[:last], stack[last])
	}
}

// stackablesCase tells what the functions of things alone return: counts tells it of CountSafe for 0, 1, .. up to all.
type stackablesCase struct {
	text      string
	order     []int
	counts    []int
	most      []int
	tallest   []int
	height    int
	only      [][]int
	strongest []int
}

func stackablesCases() []stackablesCase {
	all := []int{0, 1, 2, 3, 4, 5, 6}
	return []stackablesCase{
		{"3/5/2,2/4/3,4/1/1", nil, []int{1, 3, 4, 0}, []int{0, 1}, []int{0, 1}, 5, [][]int{{0, 2}, {1, 2}}, []int{0, 1, 2}},
		// One thing.
		{"5/0/3", []int{0}, []int{1, 1}, []int{0}, []int{0}, 3, nil, []int{0}},
		{"1000/1000/1000", []int{0}, []int{1, 1}, []int{0}, []int{0}, 1000, nil, []int{0}},
		// Things that bear nothing: no two of them can be stacked.
		{"3/0/2,1/0/4,2/0/4", nil, []int{1, 3, 0, 0}, []int{0}, []int{1}, 4, nil, []int{0, 2, 1}},
		// Things that are equal, and bear one other one, or all other ones just so.
		{"2/2/1,2/2/1,2/2/1", nil, []int{1, 3, 6, 0}, []int{0, 1}, []int{0, 1}, 2, nil, []int{0, 1, 2}},
		{"2/4/1,2/4/1,2/4/1", []int{0, 1, 2}, []int{1, 3, 6, 6}, []int{0, 1, 2}, []int{0, 1, 2}, 3, nil, []int{0, 1, 2}},
		{"1000/1000/1000,1000/1000/1000", []int{0, 1}, []int{1, 2, 2}, []int{0, 1}, []int{0, 1}, 2000, nil, []int{0, 1}},
		// Just one safe order, in which each thing bears just what is above it.
		{"4/0/1,2/4/1,1/6/1", []int{2, 1, 0}, []int{1, 3, 4, 1}, []int{2, 1, 0}, []int{2, 1, 0}, 3, [][]int{{1, 0}, {2, 0}}, []int{2, 1, 0}},
		// The tallest stack has fewer things than another one.
		{"1/2/1,1/2/1,1/2/1,9/0/10", nil, []int{1, 4, 6, 6, 0}, []int{0, 1, 2}, []int{3}, 10, nil, []int{3, 0, 1, 2}},
		// Things that are equally strong, without any safe order, and with none that is not safe.
		{"1/5/1,3/3/1,5/1/1", nil, []int{1, 3, 4, 0}, []int{0, 1}, []int{0, 1}, 2, nil, []int{0, 1, 2}},
		{"1/9/1,3/7/1,5/5/1", []int{0, 1, 2}, []int{1, 3, 6, 6}, []int{0, 1, 2}, []int{0, 1, 2}, 3, nil, []int{0, 1, 2}},
		// The first safe order is another one than the strongest first.
		{"1/9/2,1/10/3", []int{0, 1}, []int{1, 2, 2}, []int{0, 1}, []int{0, 1}, 5, nil, []int{1, 0}},
		// Only the last thing bears another one.
		{"1000/0/1,1000/0/1,1000/1000/1000", nil, []int{1, 3, 2, 0}, []int{2, 0}, []int{2, 0}, 1001, [][]int{{2, 0}, {2, 1}}, []int{2, 0, 1}},
		// Seven things.
		{strings.Repeat("1/1000/1000,", 6) + "1/1000/1000", all, []int{1, 7, 42, 210, 840, 2520, 5040, 5040}, all, all, 7000, nil, all},
		{strings.Repeat("1000/1000/1,", 6) + "1000/1000/2", nil, []int{1, 7, 42, 0, 0, 0, 0, 0}, []int{0, 1}, []int{0, 6}, 3, nil, all},
		{strings.Repeat("1/0/1,", 6) + "1/0/2", nil, []int{1, 7, 0, 0, 0, 0, 0, 0}, []int{0}, []int{6}, 2, nil, all},
	}
}

func TestStackablesByHand(t *testing.T) {
	for _, c := range stackablesCases() {
		list, _ := impl.ParseStackables(c.text)
		name := " of " + c.text
		mustReturn(t, "CanStackAll"+name, results(impl.CanStackAll(list)), c.order != nil)
		if c.order == nil {
			mustFail(t, "SafeOrder"+name, results(impl.SafeOrder(list)))
		} else {
			mustReturn(t, "SafeOrder"+name, results(impl.SafeOrder(list)), c.order)
		}
		mustReturn(t, "CountSafeOrders"+name, results(impl.CountSafeOrders(list)), c.counts[len(list)])
		for many, count := range c.counts {
			mustReturn(t, fmt.Sprint("CountSafe of ", many, name), results(impl.CountSafe(list, many)), count)
		}
		mustReturn(t, "MostStacked"+name, results(impl.MostStacked(list)), c.most)
		mustReturn(t, "TallestStack"+name, results(impl.TallestStack(list)), c.tallest, c.height)
		mustReturn(t, "OnlyBelow"+name, results(impl.OnlyBelow(list)), c.only)
		mustReturn(t, "StrongestFirst"+name, results(impl.StrongestFirst(list)), c.strongest)
	}
}

func TestStackablesFollowTheModel(t *testing.T) {
	eachStackSample(func(list []impl.Thing) {
		name := fmt.Sprint(" of ", list)
		stacks := safeStacksInModel(list)
		orders := ofLength(stacks, len(list))
		mustReturn(t, "CanStackAll"+name, results(impl.CanStackAll(list)), len(orders) > 0)
		if len(orders) == 0 {
			mustFail(t, "SafeOrder"+name, results(impl.SafeOrder(list)))
		} else {
			mustReturn(t, "SafeOrder"+name, results(impl.SafeOrder(list)), orders[0])
		}
		mustReturn(t, "CountSafeOrders"+name, results(impl.CountSafeOrders(list)), len(orders))
		for many := range len(list) + 1 {
			mustReturn(t, fmt.Sprint("CountSafe of ", many, name), results(impl.CountSafe(list, many)), len(ofLength(stacks, many)))
		}
		mustReturn(t, "MostStacked"+name, results(impl.MostStacked(list)), firstLongest(stacks, func([]int) bool { return true }))
		tallest := tallestInModel(list, stacks)
		mustReturn(t, "TallestStack"+name, results(impl.TallestStack(list)), tallest, stackHeightInModel(list, tallest))
		mustReturn(t, "OnlyBelow"+name, results(impl.OnlyBelow(list)), onlyBelowInModel(list))
		mustReturn(t, "StrongestFirst"+name, results(impl.StrongestFirst(list)), strongestFirstInModel(list))
	})
}

// TestSafeOrdersAreSafe is promise 5: safe orders are safe, and the strongest first is if there are any.
func TestSafeOrdersAreSafe(t *testing.T) {
	eachStackSample(func(list []impl.Thing) {
		name := fmt.Sprint(" of ", list)
		order, can := impl.SafeOrder(list)
		if can {
			mustReturn(t, "IsSafe of SafeOrder"+name, results(impl.IsSafe(list, order)), true)
			slices.Sort(order)
			if !slices.Equal(order, listsOfSome(len(list))[len(list)]) {
				t.Errorf("SafeOrder%s are the things %v", name, order)
			}
		}
		strongest, ok := impl.StrongestFirst(list)
		if !ok {
			t.Fatalf("StrongestFirst%s fails", name)
		}
		mustReturn(t, "IsSafe of StrongestFirst"+name, results(impl.IsSafe(list, strongest)), can)
		mustReturn(t, "CanStackAll"+name, results(impl.CanStackAll(list)), can)
		if count, ok := impl.CountSafeOrders(list); !ok || (count > 0) != can {
			t.Errorf("CountSafeOrders%s: %d %v, but there is one: %v", name, count, ok, can)
		}
		most, _ := impl.MostStacked(list)
		mustReturn(t, "IsSafe of MostStacked"+name, results(impl.IsSafe(list, most)), true)
		tallest, height, _ := impl.TallestStack(list)
		mustReturn(t, "IsSafe of TallestStack"+name, results(impl.IsSafe(list, tallest)), true)
		mustReturn(t, "HeightOf of TallestStack"+name, results(impl.HeightOf(list, tallest)), height)
	})
}

func TestCountSafeNeedsANumberOfThings(t *testing.T) {
	for _, many := range []int{-1, -2, 4, 5, impl.MaxStacked, impl.MaxStacked + 1, math.MinInt, math.MaxInt} {
		mustFail(t, fmt.Sprint("CountSafe of ", many), results(impl.CountSafe(exampleStackables(), many)))
	}
	mustReturn(t, "CountSafe of none", results(impl.CountSafe(sameThings(1, 0, 1, 7), 0)), 1)
	mustReturn(t, "CountSafe of all", results(impl.CountSafe(sameThings(1, 6, 1, 7), 7)), 5040)
	mustFail(t, "CountSafe of more than all", results(impl.CountSafe(sameThings(1, 6, 1, 7), 8)))
}

func TestStackablesTexts(t *testing.T) {
	texts := map[string][]impl.Thing{
		"1/0/1":                           {thingOf(1, 0, 1)},
		"1000/1000/1000":                  {thingOf(1000, 1000, 1000)},
		"1/2/3":                           {thingOf(1, 2, 3)},
		"10/0/999,3/20/1,3/20/1,100/9/10": {thingOf(10, 0, 999), thingOf(3, 20, 1), thingOf(3, 20, 1), thingOf(100, 9, 10)},
		strings.Repeat("1000/1000/1000,", 6) + "1000/1000/1000": sameThings(1000, 1000, 1000, 7),
		strings.Repeat("1/0/1,", 6) + "1/0/1":                   sameThings(1, 0, 1, 7),
	}
	m := &mixer{state: 44}
	next := func() []impl.Thing {
		return m.stackables(m.next(1, impl.MaxStacked), impl.MaxHeavy, impl.MaxHeavy, impl.MaxHeavy)
	}
	mustBeTexts(t, texts, next, impl.ParseStackables, impl.StackablesText)
}

func TestTextsThatAreNoStackables(t *testing.T) {
	texts := []string{
		"", ",", "/", "//", "1", "1/", "1/1", "1/1/", "/1/1", "1//1", "1/1/1/", "/1/1/1", "1/1/1/1", "1/1/1,", ",1/1/1", "1/1/1,,2/2/2", "1/1/1,2/2", "1/1,2/2/2", "1,1,1", "1/1,1",
		"0/1/1", "1/1/0", "1001/1/1", "1/1001/1", "1/1/1001", "-1/1/1", "1/-1/1", "1/-0/1", "1/1/-1", "+1/1/1", "1/+1/1", "1/1/+1", "01/1/1", "1/01/1", "1/00/1", "1/1/01", "00/1/1", "0/0/0",
		" 1/1/1", "1/1/1 ", "1 /1/1", "1/1/1, 2/2/2", "1/1/1;2/2/2", "1\\1\\1", "1|1|1", "1x1x1", "1-1-1", "1÷1÷1", "1.0/1/1", "0x1/1/1", "1_0/1/1", "a/b/c", "1/1/c", "1/1/1\n", "\x00", "\xff", "١/١/١",
		"99999999999999999999/1/1", "1/18446744073709551617/1", "1/18446744073709551616/1", "1/1/-9223372036854775808",
		strings.Repeat("1/1/1,", 7) + "1/1/1", strings.Repeat("1/1/1,", 8) + "1/1/1",
		strings.Repeat("1/1/1,", 100000) + "1/1/1", strings.Repeat("1/", 100000) + "1", strings.Repeat("0", 100000) + "1/1/1",
		strings.Repeat(",", 100000), strings.Repeat("/", 100000), strings.Repeat("9", 100000) + "/1/1",
	}
	for _, text := range texts {
		mustFail(t, fmt.Sprintf("ParseStackables of %.40q", text), results(impl.ParseStackables(text)))
	}
}

func TestStackablesTextsOfShortStrings(t *testing.T) {
	// No text of two things is so short.
	isText := regexp.MustCompile(`^([1-9]\d{0,2}|1000)/(0|[1-9]\d{0,2}|1000)/([1-9]\d{0,2}|1000)$`)
	mustParseTexts(t, "01/,-", 8, isText.MatchString, impl.ParseStackables, impl.StackablesText)
}
