package tests

import (
	"fmt"
	"math"
	"slices"
	"strings"
	"testing"

	"loop.example/g01334/impl"
)

type packRule struct {
	name  string
	pack  func(things []int, room int) ([]int, bool)
	model func(things []int, room int) []int
}

func packRules() []packRule {
	by := func(choose func(loads, fitting []int) int) func([]int, int) []int {
		return func(things []int, room int) []int { return ruleInModel(things, room, choose) }
	}
	return []packRule{
		{"NextFit", impl.NextFit, by(chooseLast)},
		{"FirstFit", impl.FirstFit, by(chooseFirst)},
		{"BestFit", impl.BestFit, by(chooseFullest)},
		{"WorstFit", impl.WorstFit, by(chooseEmptiest)},
		{"GreatestFirst", impl.GreatestFirst, greatestFirstInModel},
	}
}

// repeated returns a list of n times the same size.
func repeated(size, n int) []int {
	return slices.Repeat([]int{size}, n)
}

// eachSample visits small things of all kinds, and some great ones, with rooms that hold them.
func eachSample(visit func(things []int, room int)) {
	for n := 1; n <= 4; n++ {
		eachList(n, 1, 4, func(things []int) {
			for room := slices.Max(things); room <= sum(things)+1; room++ {
				visit(things, room)
			}
		})
	}
	m := &mixer{state: 1}
	for range 60 {
		things := m.list(m.next(5, 7), 1, m.next(3, impl.MaxSize))
		visit(things, m.next(slices.Max(things), min(sum(things)+1, impl.MaxRoom)))
	}
	for range 8 {
		things := m.list(impl.MaxThings, 1, impl.MaxSize)
		visit(things, m.next(slices.Max(things), 300))
	}
}

func TestBoxExample(t *testing.T) {
	things := []int{4, 7, 3, 6}
	mustReturn(t, "NextFit", results(impl.NextFit(things, 10)), []int{0, 1, 1, 2})
	mustReturn(t, "FirstFit", results(impl.FirstFit(things, 10)), []int{0, 1, 0, 2})
	mustReturn(t, "BestFit", results(impl.BestFit(things, 10)), []int{0, 1, 1, 0})
	mustReturn(t, "WorstFit", results(impl.WorstFit(things, 10)), []int{0, 1, 0, 2})
	mustReturn(t, "FewestBoxes", results(impl.FewestBoxes(things, 10)), 2)
	mustReturn(t, "FirstPacking", results(impl.FirstPacking(things, 10)), []int{0, 1, 1, 0})
	mustReturn(t, "CountPackings", results(impl.CountPackings(things, 10)), 1)
	mustReturn(t, "GreatestFirst", results(impl.GreatestFirst(things, 10)), []int{0, 1, 1, 0})
	mustReturn(t, "LeastRoom", results(impl.LeastRoom(things, 3)), 7)
	mustReturn(t, "WorstOrder", results(impl.WorstOrder(things, 10)), []int{3, 4, 6, 7}, 3)
	mustReturn(t, "BestOrder", results(impl.BestOrder(things, 10)), []int{3, 7, 4, 6}, 2)
	mustReturn(t, "ExactFill", results(impl.ExactFill(things, 10)), []int{0, 3})
	mustReturn(t, "ThingsText", results(impl.ThingsText(things)), "4-7-3-6")
	mustReturn(t, "ParseThings", results(impl.ParseThings("4-7-3-6")), things)
}

func TestAreThings(t *testing.T) {
	good := [][]int{{1}, {100}, {4, 7, 3, 6}, repeated(1, 9), repeated(100, 9), {1, 100, 1}}
	mustTellApart(t, "AreThings", impl.AreThings, good, badThings())
}

func TestRulesByHand(t *testing.T) {
	cases := []struct {
		things []int
		room   int
		plans  [5][]int // of the rules in the order of packRules
	}{
		{[]int{10}, 10, [5][]int{{0}, {0}, {0}, {0}, {0}}},
		{[]int{1}, 1000, [5][]int{{0}, {0}, {0}, {0}, {0}}},
		{[]int{6, 5, 8, 2, 4}, 10, [5][]int{{0, 1, 2, 2, 3}, {0, 1, 2, 0, 1}, {0, 1, 2, 2, 0}, {0, 1, 2, 1, 0}, {0, 1, 2, 2, 0}}},
		{[]int{6, 6, 3, 1}, 10, [5][]int{{0, 1, 1, 1}, {0, 1, 0, 0}, {0, 1, 0, 0}, {0, 1, 0, 1}, {0, 1, 0, 0}}},
		{[]int{6, 6, 4}, 10, [5][]int{{0, 1, 1}, {0, 1, 0}, {0, 1, 0}, {0, 1, 0}, {0, 1, 0}}},
		{[]int{5, 5, 5, 1}, 10, [5][]int{{0, 0, 1, 1}, {0, 0, 1, 1}, {0, 0, 1, 1}, {0, 0, 1, 1}, {0, 0, 1, 1}}},
		{[]int{4, 7}, 10, [5][]int{{0, 1}, {0, 1}, {0, 1}, {0, 1}, {0, 1}}},
		{[]int{6, 6, 6}, 10, [5][]int{{0, 1, 2}, {0, 1, 2}, {0, 1, 2}, {0, 1, 2}, {0, 1, 2}}},
	}
	for _, c := range cases {
		for i, rule := range packRules() {
			name := fmt.Sprintf("%s of %v in %d", rule.name, c.things, c.room)
			mustReturn(t, name, results(rule.pack(c.things, c.room)), c.plans[i])
		}
	}
}

func TestRulesFollowTheModel(t *testing.T) {
	eachSample(func(things []int, room int) {
		for _, rule := range packRules() {
			name := fmt.Sprintf("%s of %v in %d", rule.name, things, room)
			mustReturn(t, name, results(rule.pack(things, room)), rule.model(things, room))
		}
	})
}

// TestRulesNeverNeedFewerThanTheFewest is promise 1: rules pack all things, in no fewer boxes than the fewest.
func TestRulesNeverNeedFewerThanTheFewest(t *testing.T) {
	eachSample(func(things []int, room int) {
		fewest, ok := impl.FewestBoxes(things, room)
		bound, okBound := impl.BoxesBound(things, room)
		if !ok || !okBound || fewest < bound {
			t.Errorf("%v in %d: fewest boxes %d %v, bound %d %v", things, room, fewest, ok, bound, okBound)
		}
		for _, rule := range packRules() {
			plan, _ := rule.pack(things, room)
			if is, ok := impl.IsPacking(things, room, plan); !is || !ok {
				t.Errorf("%s of %v in %d: %v is no plan", rule.name, things, room, plan)
			} else if slices.Max(plan)+1 < fewest {
				t.Errorf("%s of %v in %d: %v has fewer boxes than %d", rule.name, things, room, plan, fewest)
			}
		}
	})
}

func TestBoxLimitsAreMet(t *testing.T) {
	most := repeated(impl.MaxSize, impl.MaxThings)
	apart := []int{0, 1, 2, 3, 4, 5, 6, 7, 8}
	together := repeated(0, impl.MaxThings)
	for _, rule := range packRules() {
		mustReturn(t, rule.name+" apart", results(rule.pack(most, impl.MaxSize)), apart)
		mustReturn(t, rule.name+" together", results(rule.pack(most, impl.MaxRoom)), together)
		mustReturn(t, rule.name+" filled", results(rule.pack(most, 900)), together)
	}
	mustReturn(t, "FewestBoxes apart", results(impl.FewestBoxes(most, impl.MaxSize)), 9)
	mustReturn(t, "FirstPacking apart", results(impl.FirstPacking(most, impl.MaxSize)), apart)
	mustReturn(t, "CountPackings apart", results(impl.CountPackings(most, impl.MaxSize)), 1)
	mustReturn(t, "FewestBoxes together", results(impl.FewestBoxes(most, impl.MaxRoom)), 1)
	mustReturn(t, "FirstPacking together", results(impl.FirstPacking(most, impl.MaxRoom)), together)
	mustReturn(t, "CountPackings together", results(impl.CountPackings(most, impl.MaxRoom)), 1)
	mustReturn(t, "LeastRoom of 1", results(impl.LeastRoom(most, 1)), 900)
	mustReturn(t, "LeastRoom of 8", results(impl.LeastRoom(most, 8)), 200)
	mustReturn(t, "LeastRoom of 9", results(impl.LeastRoom(most, impl.MaxThings)), 100)
	mustReturn(t, "RoomLeft", results(impl.RoomLeft(most, impl.MaxRoom, apart)), 8100)
}

func TestIsPacking(t *testing.T) {
	things := []int{4, 7, 3, 6}
	for _, plan := range [][]int{{0, 1, 1, 0}, {0, 1, 0, 2}, {0, 1, 2, 3}, {0, 1, 1, 2}, {0, 1, 2, 0}} {
		mustReturn(t, fmt.Sprint("IsPacking of ", plan), results(impl.IsPacking(things, 10, plan)), true)
	}
	for _, plan := range badPlans() {
		mustReturn(t, fmt.Sprint("IsPacking of ", plan), results(impl.IsPacking(things, 10, plan)), false)
	}
}

func TestPlansOfAllLists(t *testing.T) {
	for _, things := range [][]int{{3}, {2, 3}, {4, 1, 2}, {3, 2, 1, 2}} {
		for room := slices.Max(things); room <= sum(things); room++ {
			eachList(len(things), -1, len(things), func(plan []int) {
				checkPlan(t, things, room, plan)
			})
		}
	}
}

// checkPlan compares all functions of one plan with the model, whether the list is a plan or not.
func checkPlan(t *testing.T, things []int, room int, plan []int) {
	t.Helper()
	name := fmt.Sprintf("%v in %d by %v", things, room, plan)
	loads, is := loadsInModel(things, room, plan)
	mustReturn(t, "IsPacking of "+name, results(impl.IsPacking(things, room, plan)), is)
	if !is {
		mustFail(t, "LoadsOf of "+name, results(impl.LoadsOf(things, room, plan)))
		mustFail(t, "BoxesOf of "+name, results(impl.BoxesOf(things, room, plan)))
		mustFail(t, "RoomLeft of "+name, results(impl.RoomLeft(things, room, plan)))
		return
	}
	boxes := make([][]int, len(loads))
	for i, box := range plan {
		boxes[box] = append(boxes[box], i)
	}
	mustReturn(t, "LoadsOf of "+name, results(impl.LoadsOf(things, room, plan)), loads)
	mustReturn(t, "BoxesOf of "+name, results(impl.BoxesOf(things, room, plan)), boxes)
	mustReturn(t, "RoomLeft of "+name, results(impl.RoomLeft(things, room, plan)), len(loads)*room-sum(things))
}

func TestPlansByHand(t *testing.T) {
	things := []int{4, 7, 3, 6}
	mustReturn(t, "LoadsOf", results(impl.LoadsOf(things, 10, []int{0, 1, 0, 2})), []int{7, 7, 6})
	mustReturn(t, "BoxesOf", results(impl.BoxesOf(things, 10, []int{0, 1, 0, 2})), [][]int{{0, 2}, {1}, {3}})
	mustReturn(t, "RoomLeft", results(impl.RoomLeft(things, 10, []int{0, 1, 0, 2})), 10)
	mustReturn(t, "RoomLeft of full boxes", results(impl.RoomLeft(things, 10, []int{0, 1, 1, 0})), 0)
	mustReturn(t, "LoadsOf one thing", results(impl.LoadsOf([]int{5}, 5, []int{0})), []int{5})
	mustReturn(t, "BoxesOf one thing", results(impl.BoxesOf([]int{5}, 5, []int{0})), [][]int{{0}})
}

func TestFewestByHand(t *testing.T) {
	cases := []struct {
		things []int
		room   int
		fewest int
		first  []int
		count  int
		bound  int
	}{
		{[]int{5}, 5, 1, []int{0}, 1, 1},
		{[]int{4, 3, 3, 2, 2, 2}, 8, 2, []int{0, 1, 1, 0, 0, 1}, 3, 2}, // FirstFit and GreatestFirst need 3
		{[]int{6, 6, 6}, 10, 3, []int{0, 1, 2}, 1, 2},
		{repeated(100, 9), 500, 2, []int{0, 0, 0, 0, 0, 1, 1, 1, 1}, 126, 2},
		{repeated(50, 9), 100, 5, []int{0, 0, 1, 1, 2, 2, 3, 3, 4}, 945, 5},
		{repeated(1, 9), 1000, 1, repeated(0, 9), 1, 1},
	}
	for _, c := range cases {
		name := fmt.Sprintf(" of %v in %d", c.things, c.room)
		mustReturn(t, "FewestBoxes"+name, results(impl.FewestBoxes(c.things, c.room)), c.fewest)
		mustReturn(t, "FirstPacking"+name, results(impl.FirstPacking(c.things, c.room)), c.first)
		mustReturn(t, "CountPackings"+name, results(impl.CountPackings(c.things, c.room)), c.count)
		mustReturn(t, "BoxesBound"+name, results(impl.BoxesBound(c.things, c.room)), c.bound)
	}
}

func TestFewestFollowsTheModel(t *testing.T) {
	eachSample(func(things []int, room int) {
		name := fmt.Sprintf(" of %v in %d", things, room)
		fewest, first, count := fewestInModel(things, room)
		mustReturn(t, "FewestBoxes"+name, results(impl.FewestBoxes(things, room)), fewest)
		mustReturn(t, "FirstPacking"+name, results(impl.FirstPacking(things, room)), first)
		mustReturn(t, "CountPackings"+name, results(impl.CountPackings(things, room)), count)
		bound := int(math.Ceil(float64(sum(things)) / float64(room)))
		mustReturn(t, "BoxesBound"+name, results(impl.BoxesBound(things, room)), bound)
	})
}

func TestLeastRoom(t *testing.T) {
	things := []int{4, 7, 3, 6}
	for i, want := range []int{20, 10, 7, 7, 7, 7, 7, 7, 7} {
		mustReturn(t, fmt.Sprint("LeastRoom of ", i+1), results(impl.LeastRoom(things, i+1)), want)
	}
	m := &mixer{state: 2}
	for range 100 {
		things := m.list(m.next(1, 6), 1, 12)
		for boxes := 1; boxes <= impl.MaxThings; boxes++ {
			room := slices.Max(things)
			for fewest, _, _ := fewestInModel(things, room); fewest > boxes; fewest, _, _ = fewestInModel(things, room) {
				room++
			}
			mustReturn(t, fmt.Sprintf("LeastRoom of %v in %d boxes", things, boxes), results(impl.LeastRoom(things, boxes)), room)
		}
	}
}

func TestLeastRoomRequiresBoxes(t *testing.T) {
	for _, boxes := range []int{0, -1, impl.MaxThings + 1, math.MinInt, math.MaxInt} {
		mustFail(t, fmt.Sprint("LeastRoom of ", boxes), results(impl.LeastRoom([]int{4, 7}, boxes)))
	}
	for _, things := range badThings() {
		mustFail(t, fmt.Sprint("LeastRoom of ", things), results(impl.LeastRoom(things, 3)))
	}
}

func TestOrdersByHand(t *testing.T) {
	mustReturn(t, "WorstOrder of one", results(impl.WorstOrder([]int{5}, 5)), []int{5}, 1)
	mustReturn(t, "BestOrder of one", results(impl.BestOrder([]int{5}, 5)), []int{5}, 1)
	mustReturn(t, "WorstOrder of equal ones", results(impl.WorstOrder(repeated(6, 7), 10)), repeated(6, 7), 7)
	mustReturn(t, "BestOrder of equal ones", results(impl.BestOrder(repeated(6, 7), 10)), repeated(6, 7), 7)
	mustReturn(t, "WorstOrder of all in one", results(impl.WorstOrder([]int{3, 1, 2}, 6)), []int{1, 2, 3}, 1)
	mustReturn(t, "BestOrder of all in one", results(impl.BestOrder([]int{3, 1, 2}, 6)), []int{1, 2, 3}, 1)
}

func TestOrdersFollowTheModel(t *testing.T) {
	m := &mixer{state: 3}
	for range 120 {
		things := m.list(m.next(1, 6), 1, m.next(4, 20))
		checkOrders(t, things, m.next(slices.Max(things), sum(things)))
	}
	checkOrders(t, []int{7, 2, 5, 3, 8, 4, 6}, 12)
	checkOrders(t, []int{2, 2, 3, 3, 4, 4, 6}, 8)
}

func checkOrders(t *testing.T, things []int, room int) {
	t.Helper()
	name := fmt.Sprintf(" of %v in %d", things, room)
	worst, most := extremeInModel(things, room, 1)
	best, fewest := extremeInModel(things, room, -1)
	mustReturn(t, "WorstOrder"+name, results(impl.WorstOrder(things, room)), worst, most)
	mustReturn(t, "BestOrder"+name, results(impl.BestOrder(things, room)), best, fewest)
}

func TestOrdersAreOfFewThings(t *testing.T) {
	mustReturn(t, "WorstOrder of 7", results(impl.WorstOrder(repeated(1, impl.MaxOrdered), 1)), repeated(1, 7), 7)
	mustReturn(t, "BestOrder of 7", results(impl.BestOrder(repeated(1, impl.MaxOrdered), 1)), repeated(1, 7), 7)
	for _, n := range []int{impl.MaxOrdered + 1, impl.MaxThings} {
		mustFail(t, fmt.Sprint("WorstOrder of ", n), results(impl.WorstOrder(repeated(1, n), 1)))
		mustFail(t, fmt.Sprint("BestOrder of ", n), results(impl.BestOrder(repeated(1, n), 1)))
	}
}

func TestExactFill(t *testing.T) {
	things := []int{4, 7, 3, 6}
	found := map[int][]int{3: {2}, 4: {0}, 6: {3}, 7: {0, 2}, 9: {2, 3}, 10: {0, 3}, 11: {0, 1}, 13: {0, 2, 3}, 20: {0, 1, 2, 3}}
	for _, room := range []int{3, 4, 6, 7, 9, 10, 11, 13, 20} {
		mustReturn(t, fmt.Sprint("ExactFill of ", room), results(impl.ExactFill(things, room)), found[room])
	}
	for _, room := range []int{1, 2, 5, 8, 12, 19, 21, impl.MaxRoom} {
		mustFail(t, fmt.Sprint("ExactFill of ", room), results(impl.ExactFill(things, room)))
	}
	mustReturn(t, "ExactFill of one thing", results(impl.ExactFill([]int{5}, 5)), []int{0})
	mustReturn(t, "ExactFill of most", results(impl.ExactFill(repeated(100, 9), 900)), []int{0, 1, 2, 3, 4, 5, 6, 7, 8})
	mustReturn(t, "ExactFill of the first of equal ones", results(impl.ExactFill([]int{9, 2, 2, 2}, 4)), []int{1, 2})
}

func TestExactFillFollowsTheModel(t *testing.T) {
	m := &mixer{state: 4}
	for range 150 {
		things := m.list(m.next(1, impl.MaxThings), 1, 15)
		for room := 1; room <= sum(things)+1; room++ {
			name := fmt.Sprintf("ExactFill of %d with %v", room, things)
			got := results(impl.ExactFill(things, room))
			if want := fillInModel(things, room); want == nil {
				mustFail(t, name, got)
			} else {
				mustReturn(t, name, got, want)
			}
		}
	}
}

func TestThingsTexts(t *testing.T) {
	texts := map[string][]int{
		"1":                                   {1},
		"100":                                 {100},
		"10-1-100":                            {10, 1, 100},
		"1-1-1-1-1-1-1-1-1":                   repeated(1, 9),
		"100-100-100-100-100-100-100-100-100": repeated(100, 9),
	}
	m := &mixer{state: 5}
	next := func() []int { return m.list(m.next(1, impl.MaxThings), 1, impl.MaxSize) }
	mustBeTexts(t, texts, next, impl.ParseThings, impl.ThingsText)
}

func TestTextsThatAreNone(t *testing.T) {
	texts := []string{
		"", "-", "4-", "-4", "4--7", "--4", "04", "4-07", "00", "+4", "4-+7", "0", "4-0", "101", "4-101", "-1",
		" 4", "4 ", "4- 7", "4,7", "4.0", "4_0", "0x4", "1e1", "a", "4-b", "4\n", "\x00", "\xff", "٤", "4–7", "4-7-3-6-",
		"1-1-1-1-1-1-1-1-1-1", "1-1-1-1-1-1-1-1-1-1-1", "99999999999999999999", "18446744073709551620", "-9223372036854775808",
		strings.Repeat("1-", 100000) + "1", strings.Repeat("0", 100000) + "1", strings.Repeat("-", 100000), strings.Repeat("9", 100000),
	}
	for _, text := range texts {
		mustFail(t, fmt.Sprintf("ParseThings of %.40q", text), results(impl.ParseThings(text)))
	}
	for _, things := range badThings() {
		mustFail(t, fmt.Sprint("ThingsText of ", things), results(impl.ThingsText(things)))
	}
}

func TestTextsOfShortStrings(t *testing.T) {
	mustParseTexts(t, "0129-+ ", 5, isThingsText, impl.ParseThings, impl.ThingsText)
}

// isThingsText knows all sizes by their texts.
func isThingsText(s string) bool {
	words := strings.Split(s, "-")
	for _, word := range words {
		size := 0
		for k := 1; k <= impl.MaxSize; k++ {
			if fmt.Sprint(k) == word {
				size = k
			}
		}
		if size == 0 {
			return false
		}
	}
	return len(words) <= impl.MaxThings
}
