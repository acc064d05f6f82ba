package tests

import (
	"fmt"
	"math"
	"regexp"
	"slices"
	"strings"
	"testing"

	"loop.example/g01334/impl"
)

func itemOf(weight, bulk, value int) impl.Item {
	return impl.Item{Weight: weight, Bulk: bulk, Value: value}
}

func caseOf(weight, bulk int) impl.Case { return impl.Case{Weight: weight, Bulk: bulk} }

// exampleItems are 4.2.5,3.3.4,3.2.3.
func exampleItems() []impl.Item {
	return []impl.Item{itemOf(4, 2, 5), itemOf(3, 3, 4), itemOf(3, 2, 3)}
}

func exampleCase() impl.Case { return caseOf(6, 5) }

// sameItems returns n times the same item.
func sameItems(weight, bulk, value, n int) []impl.Item {
	return slices.Repeat([]impl.Item{itemOf(weight, bulk, value)}, n)
}

// allItems returns 0, 1, .. up to the last one of n items.
func allItems(n int) []int { return increasingLists(n)[n] }

// items returns n items that are at most so heavy, so bulky and so valuable.
func (m *mixer) items(n, weight, bulk, value int) []impl.Item {
	items := make([]impl.Item, n)
	for i := range items {
		items[i] = itemOf(m.next(0, weight), m.next(0, bulk), m.next(0, value))
	}
	return items
}

// evenItems returns n items with much the same ratios, and few different ones.
func (m *mixer) evenItems(n int) []impl.Item {
	items := make([]impl.Item, n)
	for i := range items {
		size := m.next(0, 12)
		weight := m.next(0, size)
		items[i] = itemOf(weight, size-weight, max(0, 3*size+m.next(-1, 1)))
	}
	return items
}

// suitcase returns one that holds some of the items, perhaps all.
func (m *mixer) suitcase(items []impl.Item) impl.Case {
	totals := totalsInModel(items, allItems(len(items)))
	return caseOf(min(impl.MaxLimit, m.next(0, totals[0])), min(impl.MaxLimit, m.next(0, totals[1])))
}

// eachCaseSample visits small items of all kinds, and some great ones.
func eachCaseSample(visit func(items []impl.Item, c impl.Case)) {
	m := &mixer{state: 46}
	for n := 1; n <= 3; n++ {
		eachList(n, 0, 11, func(kinds []int) {
			items := make([]impl.Item, n)
			for i, kind := range kinds {
				items[i] = itemOf(kind%2, kind/2%2, kind/4)
			}
			visit(items, caseOf(m.next(0, 2), m.next(0, 2)))
		})
	}
	visitAll := func(items []impl.Item) { visit(items, m.suitcase(items)) }
	for range 150 {
		visitAll(m.items(m.next(2, 6), 3, 3, 3))
		visitAll(m.items(m.next(2, 6), 9, 9, 20))
		visitAll(m.items(m.next(2, 6), impl.MaxLimit, impl.MaxLimit, impl.MaxLimit))
		visitAll(m.evenItems(m.next(2, 6)))
	}
	for range 2 {
		visitAll(m.items(impl.MaxItems, 3, 3, 3))
		visitAll(m.items(impl.MaxItems, 60, 60, impl.MaxLimit))
		visitAll(m.evenItems(impl.MaxItems))
	}
}

func TestCaseExample(t *testing.T) {
	items, c := exampleItems(), exampleCase()
	mustReturn(t, "ParseItems", results(impl.ParseItems("4.2.5,3.3.4,3.2.3")), items)
	mustReturn(t, "ItemsText", results(impl.ItemsText(items)), "4.2.5,3.3.4,3.2.3")
	mustReturn(t, "BestPacked", results(impl.BestPacked(items, c)), 7)
	mustReturn(t, "FirstPacked", results(impl.FirstPacked(items, c)), []int{1, 2})
	mustReturn(t, "TotalsOf", results(impl.TotalsOf(items, []int{1, 2})), []int{6, 5, 7})
	mustReturn(t, "PackByValue", results(impl.PackByValue(items, c)), []int{0})
	mustReturn(t, "GainOfWeight", results(impl.GainOfWeight(items, c, 1)), 2)
	mustReturn(t, "FirstPacked with more weight", results(impl.FirstPacked(items, caseOf(7, 5))), []int{0, 1})
	mustReturn(t, "MostPacked", results(impl.MostPacked(items, c)), []int{1, 2})
	mustReturn(t, "LightestFor", results(impl.LightestFor(items, 5, 5)), []int{0}, 4)
	mustReturn(t, "CountChoices", results(impl.CountChoices(items, c)), 5)
	for _, list := range increasingLists(3) {
		is := slices.ContainsFunc([][]int{{}, {0}, {1}, {1, 2}, {2}}, func(choice []int) bool { return slices.Equal(choice, list) })
		mustReturn(t, fmt.Sprint("IsChoice of ", list), results(impl.IsChoice(items, c, list)), is)
	}
}

func TestAreItems(t *testing.T) {
	good := [][]impl.Item{
		exampleItems(), {itemOf(0, 0, 0)}, {itemOf(200, 200, 200)}, {itemOf(200, 0, 0)}, {itemOf(0, 200, 0)}, {itemOf(0, 0, 200)},
		sameItems(0, 0, 0, 10), sameItems(200, 200, 200, 10), sameItems(1, 2, 3, 9),
	}
	mustTellApart(t, "AreItems", impl.AreItems, good, badItems())
}

// caseCase tells what the functions of items and a suitcase return.
type caseCase struct {
	text    string
	c       impl.Case
	best    int
	first   []int
	count   int
	byValue []int
	byRatio []int
	most    []int
	always  []int
	choices int
}

func caseCases() []caseCase {
	none := []int(nil)
	all, five := allItems(10), allItems(5)
	sameTen := func(text string) string { return strings.Repeat(text+",", 9) + text }
	return []caseCase{
		{"4.2.5,3.3.4,3.2.3", caseOf(6, 5), 7, []int{1, 2}, 1, []int{0}, []int{0}, []int{1, 2}, []int{1, 2}, 5},
		// One item: a suitcase that holds just it, or a little less.
		{"3.2.5", caseOf(3, 2), 5, []int{0}, 1, []int{0}, []int{0}, []int{0}, []int{0}, 2},
		{"3.2.5", caseOf(2, 2), 0, none, 1, none, none, none, none, 1},
		{"3.2.5", caseOf(3, 1), 0, none, 1, none, none, none, none, 1},
		{"200.200.200", caseOf(200, 200), 200, []int{0}, 1, []int{0}, []int{0}, []int{0}, []int{0}, 2},
		{"200.200.200", caseOf(199, 200), 0, none, 1, none, none, none, none, 1},
		{"200.200.200", caseOf(200, 199), 0, none, 1, none, none, none, none, 1},
		// A suitcase that holds nothing, and items that take no room: equally good choices begin with each other.
		{"1.1.9,2.0.9,0.2.9", caseOf(0, 0), 0, none, 1, none, none, none, none, 1},
		{"0.0.3,1.0.9,0.1.9,0.0.0", caseOf(0, 0), 3, []int{0}, 2, []int{0, 3}, []int{0, 3}, []int{0, 3}, []int{0}, 4},
		{"0.0.0,0.0.0", caseOf(0, 0), 0, none, 4, []int{0, 1}, []int{0, 1}, []int{0, 1}, none, 4},
		// None of the items fits: each one is too heavy or too bulky.
		{"5.1.9,1.5.9,5.5.9", caseOf(4, 4), 0, none, 1, none, none, none, none, 1},
		// Items that are worth nothing.
		{"1.1.0,1.1.0", caseOf(2, 2), 0, none, 4, []int{0, 1}, []int{0, 1}, []int{0, 1}, none, 4},
		{"1.1.5,0.0.0,1.1.5", caseOf(2, 2), 10, []int{0, 1, 2}, 2, []int{0, 1, 2}, []int{0, 1, 2}, []int{0, 1, 2}, []int{0, 2}, 8},
		// Items that are equal.
		{"2.1.3,2.1.3,2.1.3", caseOf(4, 2), 6, []int{0, 1}, 3, []int{0, 1}, []int{0, 1}, []int{0, 1}, none, 7},
		{"200.200.200,200.200.200", caseOf(200, 200), 200, []int{0}, 2, []int{0}, []int{0}, []int{0}, none, 3},
		// The bulk alone is short.
		{"0.3.5,0.2.4,0.2.4", caseOf(0, 4), 8, []int{1, 2}, 1, []int{0}, []int{1, 2}, []int{1, 2}, []int{1, 2}, 5},
		// Values and ratios have other orders.
		{"5.5.10,2.2.6,3.3.6", caseOf(5, 5), 12, []int{1, 2}, 1, []int{0}, []int{1, 2}, []int{1, 2}, []int{1, 2}, 5},
		{"1.1.2,2.2.4", caseOf(2, 2), 4, []int{1}, 1, []int{1}, []int{0}, []int{0}, []int{1}, 3},
		// Ratios that are equal if they are rounded, the greater one second.
		{"3.0.10,2.0.7", caseOf(3, 0), 10, []int{0}, 1, []int{0}, []int{1}, []int{0}, []int{0}, 3},
		{"199.0.198,200.0.199", caseOf(200, 0), 199, []int{1}, 1, []int{1}, []int{1}, []int{0}, []int{1}, 3},
		// Ratios of weight and bulk together: by the weight or by the bulk alone the other one is greater.
		{"1.9.10,4.2.9", caseOf(4, 9), 10, []int{0}, 1, []int{0}, []int{1}, []int{0}, []int{0}, 3},
		{"9.1.10,2.4.9", caseOf(9, 4), 10, []int{0}, 1, []int{0}, []int{1}, []int{0}, []int{0}, 3},
		// Between items with a ratio stands one that takes no room and is worth nothing.
		{"1.0.1,0.0.0,1.0.2", caseOf(1, 0), 2, []int{1, 2}, 2, []int{1, 2}, []int{1, 2}, []int{0, 1}, []int{2}, 6},
		// As many items as possible are not worth most.
		{"9.0.50,3.0.1,3.0.1,3.0.1", caseOf(9, 0), 50, []int{0}, 1, []int{0}, []int{0}, []int{1, 2, 3}, []int{0}, 9},
		// An item that has no room any more does not keep out those that come later.
		{"4.0.9,3.0.8,1.0.1", caseOf(5, 0), 10, []int{0, 2}, 1, []int{0, 2}, []int{1, 2}, []int{0, 2}, []int{0, 2}, 6},
		// Ten items.
		{sameTen("1.1.1"), caseOf(10, 10), 10, all, 1, all, all, all, all, 1024},
		{sameTen("1.1.1"), caseOf(5, 200), 5, five, 252, five, five, five, none, 638},
		{sameTen("1.1.1"), caseOf(200, 5), 5, five, 252, five, five, five, none, 638},
		{sameTen("20.20.200"), caseOf(200, 200), 2000, all, 1, all, all, all, all, 1024},
		{sameTen("0.0.0"), caseOf(0, 0), 0, none, 1024, all, all, all, none, 1024},
		{sameTen("200.200.200"), caseOf(199, 199), 0, none, 1, none, none, none, none, 1},
	}
}

func TestCasesByHand(t *testing.T) {
	for _, want := range caseCases() {
		items, ok := impl.ParseItems(want.text)
		if !ok {
			t.Fatalf("%s are no items", want.text)
		}
		c := want.c
		name := fmt.Sprintf(" of %s in %v", want.text, c)
		mustReturn(t, "BestPacked"+name, results(impl.BestPacked(items, c)), want.best)
		mustReturn(t, "FirstPacked"+name, results(impl.FirstPacked(items, c)), want.first)
		mustReturn(t, "CountPacked"+name, results(impl.CountPacked(items, c)), want.count)
		mustReturn(t, "PackByValue"+name, results(impl.PackByValue(items, c)), want.byValue)
		mustReturn(t, "PackByRatio"+name, results(impl.PackByRatio(items, c)), want.byRatio)
		mustReturn(t, "MostPacked"+name, results(impl.MostPacked(items, c)), want.most)
		mustReturn(t, "AlwaysPacked"+name, results(impl.AlwaysPacked(items, c)), want.always)
		mustReturn(t, "CountChoices"+name, results(impl.CountChoices(items, c)), want.choices)
	}
}

func TestChoicesByHand(t *testing.T) {
	cases := []struct {
		items  []impl.Item
		c      impl.Case
		chosen []int
		totals []int
		is     bool
	}{
		{exampleItems(), caseOf(0, 0), nil, []int{0, 0, 0}, true},
		{exampleItems(), caseOf(0, 0), []int{0}, []int{4, 2, 5}, false},
		{exampleItems(), caseOf(4, 2), []int{0}, []int{4, 2, 5}, true},
		{exampleItems(), caseOf(3, 2), []int{0}, []int{4, 2, 5}, false},
		{exampleItems(), caseOf(4, 1), []int{0}, []int{4, 2, 5}, false},
		{exampleItems(), caseOf(7, 5), []int{0, 1}, []int{7, 5, 9}, true},
		{exampleItems(), caseOf(6, 5), []int{0, 1}, []int{7, 5, 9}, false},
		{exampleItems(), caseOf(7, 4), []int{0, 1}, []int{7, 5, 9}, false},
		{exampleItems(), caseOf(10, 7), []int{0, 1, 2}, []int{10, 7, 12}, true},
		{exampleItems(), caseOf(200, 6), []int{0, 1, 2}, []int{10, 7, 12}, false},
		{exampleItems(), caseOf(9, 200), []int{0, 1, 2}, []int{10, 7, 12}, false},
		{sameItems(0, 0, 0, 1), caseOf(0, 0), []int{0}, []int{0, 0, 0}, true},
		{sameItems(20, 20, 200, 10), caseOf(200, 200), allItems(10), []int{200, 200, 2000}, true},
		{sameItems(20, 20, 200, 10), caseOf(199, 200), allItems(10), []int{200, 200, 2000}, false},
		{sameItems(200, 200, 200, 10), caseOf(200, 200), allItems(10), []int{2000, 2000, 2000}, false},
		{sameItems(200, 200, 200, 10), caseOf(200, 200), []int{9}, []int{200, 200, 200}, true},
	}
	for _, c := range cases {
		name := fmt.Sprintf(" of %v of %v in %v", c.chosen, c.items, c.c)
		mustReturn(t, "TotalsOf"+name, results(impl.TotalsOf(c.items, c.chosen)), c.totals)
		mustReturn(t, "IsChoice"+name, results(impl.IsChoice(c.items, c.c, c.chosen)), c.is)
	}
	for _, list := range badChosen() {
		mustReturn(t, fmt.Sprint("IsChoice of ", list), results(impl.IsChoice(exampleItems(), caseOf(200, 200), list)), false)
	}
}

func TestLightestByHand(t *testing.T) {
	weightless := []impl.Item{itemOf(0, 1, 0), itemOf(0, 0, 3), itemOf(0, 0, 3)}
	cases := []struct {
		items       []impl.Item
		bulk, value int
		first       []int
		weight      int
		is          bool
	}{
		// A value of 0 is that of none.
		{exampleItems(), 0, 0, nil, 0, true},
		{exampleItems(), 200, 0, nil, 0, true},
		{weightless, 200, 0, nil, 0, true},
		{exampleItems(), 0, 1, nil, 0, false},
		{exampleItems(), 1, 1, nil, 0, false},
		{exampleItems(), 2, 1, []int{2}, 3, true},
		// Just so much value, or a little more, and just so much bulk.
		{exampleItems(), 2, 3, []int{2}, 3, true},
		{exampleItems(), 2, 4, []int{0}, 4, true},
		{exampleItems(), 3, 4, []int{1}, 3, true},
		{exampleItems(), 2, 6, nil, 0, false},
		{exampleItems(), 5, 7, []int{1, 2}, 6, true},
		// Two are equally light.
		{exampleItems(), 3, 3, []int{1}, 3, true},
		{exampleItems(), 5, 8, []int{0, 1}, 7, true},
		{exampleItems(), 4, 8, []int{0, 2}, 7, true},
		{exampleItems(), 6, 10, nil, 0, false},
		{exampleItems(), 7, 10, []int{0, 1, 2}, 10, true},
		{exampleItems(), 200, 12, []int{0, 1, 2}, 10, true},
		{exampleItems(), 200, 13, nil, 0, false},
		{exampleItems(), 200, 10000, nil, 0, false},
		// What weighs nothing, and is worth nothing, may come first.
		{weightless, 200, 3, []int{0, 1}, 0, true},
		{weightless, 0, 3, []int{1}, 0, true},
		{weightless, 1, 6, []int{0, 1, 2}, 0, true},
		{weightless, 0, 6, []int{1, 2}, 0, true},
		{weightless, 200, 7, nil, 0, false},
		// The weight may be more than that of any suitcase.
		{sameItems(200, 0, 200, 10), 0, 201, []int{0, 1}, 400, true},
		{sameItems(200, 0, 200, 10), 0, 2000, allItems(10), 2000, true},
		{sameItems(200, 20, 200, 10), 200, 2000, allItems(10), 2000, true},
		{sameItems(200, 20, 200, 10), 199, 2000, nil, 0, false},
		{sameItems(200, 0, 200, 10), 0, 2001, nil, 0, false},
		{sameItems(200, 0, 200, 10), 200, 10000, nil, 0, false},
	}
	for _, c := range cases {
		name := fmt.Sprintf("LightestFor %d, %d of %v", c.bulk, c.value, c.items)
		if c.is {
			mustReturn(t, name, results(impl.LightestFor(c.items, c.bulk, c.value)), c.first, c.weight)
		} else {
			mustFail(t, name, results(impl.LightestFor(c.items, c.bulk, c.value)))
		}
	}
}

func TestGainsByHand(t *testing.T) {
	cases := []struct {
		items        []impl.Item
		c            impl.Case
		more         int
		weight, bulk int
	}{
		{exampleItems(), exampleCase(), 0, 0, 0},
		{exampleItems(), exampleCase(), 1, 2, 0},
		{exampleItems(), exampleCase(), 200, 2, 0},
		{exampleItems(), caseOf(7, 4), 1, 0, 1},
		{exampleItems(), caseOf(0, 200), 2, 0, 0},
		{exampleItems(), caseOf(0, 200), 3, 4, 0},
		{exampleItems(), caseOf(0, 200), 4, 5, 0},
		{exampleItems(), caseOf(200, 0), 1, 0, 0},
		{exampleItems(), caseOf(200, 0), 2, 0, 5},
		{exampleItems(), caseOf(0, 0), 200, 0, 0},
		{exampleItems(), caseOf(200, 200), 200, 0, 0},
		// More than the greatest suitcase holds.
		{[]impl.Item{itemOf(200, 0, 9), itemOf(200, 0, 8)}, caseOf(200, 200), 200, 8, 0},
		{[]impl.Item{itemOf(200, 0, 9), itemOf(200, 0, 8)}, caseOf(200, 200), 199, 0, 0},
		{[]impl.Item{itemOf(0, 200, 9), itemOf(0, 200, 8)}, caseOf(200, 200), 200, 0, 8},
		{[]impl.Item{itemOf(0, 200, 9), itemOf(0, 200, 8)}, caseOf(200, 200), 199, 0, 0},
		{[]impl.Item{itemOf(150, 0, 5), itemOf(150, 0, 6)}, caseOf(100, 0), 200, 11, 0},
		{[]impl.Item{itemOf(150, 0, 5), itemOf(150, 0, 6)}, caseOf(100, 0), 199, 6, 0},
		{[]impl.Item{itemOf(150, 0, 5), itemOf(150, 0, 6)}, caseOf(100, 0), 50, 6, 0},
		{[]impl.Item{itemOf(150, 0, 5), itemOf(150, 0, 6)}, caseOf(100, 0), 49, 0, 0},
		{sameItems(40, 40, 200, 10), caseOf(200, 200), 200, 0, 0},
		{sameItems(40, 0, 200, 10), caseOf(200, 0), 200, 1000, 0},
		{sameItems(0, 40, 200, 10), caseOf(0, 200), 200, 0, 1000},
	}
	for _, c := range cases {
		name := fmt.Sprintf(" of %d for %v in %v", c.more, c.items, c.c)
		mustReturn(t, "GainOfWeight"+name, results(impl.GainOfWeight(c.items, c.c, c.more)), c.weight)
		mustReturn(t, "GainOfBulk"+name, results(impl.GainOfBulk(c.items, c.c, c.more)), c.bulk)
	}
}

func TestNeverNeededByHand(t *testing.T) {
	cases := map[string][]int{
		"4.2.5,3.3.4,3.2.3":               nil,
		"5.5.0":                           nil,
		"0.0.0":                           nil,
		"2.2.5,2.2.6":                     {0},
		"2.2.5,1.2.5":                     {0},
		"2.2.5,2.1.5":                     {0},
		"2.2.6,2.2.5":                     {1},
		"1.2.5,2.2.5":                     {1},
		"2.1.5,2.2.5":                     {1},
		"1.2.5,2.1.5":                     nil,
		"1.1.4,2.2.5":                     nil,
		"1.3.5,2.2.6,3.1.7":               nil,
		"2.2.5,2.2.5":                     {1},
		"2.2.5,2.2.5,2.2.5":               {1, 2},
		"2.2.5,2.2.5,1.1.5":               {0, 1},
		"0.0.0,0.0.0":                     {1},
		"0.0.1,0.0.0":                     {1},
		"1.1.9,2.2.1,3.3.1":               {1, 2},
		"3.3.1,2.2.1,1.1.9":               {0, 1},
		"200.200.0,0.0.200,200.200.200":   {0, 2},
		"200.200.200,200.200.200,0.0.199": {1},
	}
	for text, want := range cases {
		items, _ := impl.ParseItems(text)
		mustReturn(t, "NeverNeeded of "+text, results(impl.NeverNeeded(items)), want)
	}
	mustReturn(t, "NeverNeeded of ten equal ones", results(impl.NeverNeeded(sameItems(1, 2, 3, 10))), []int{1, 2, 3, 4, 5, 6, 7, 8, 9})
}

func TestTwoCasesByHand(t *testing.T) {
	cases := []struct {
		items []impl.Item
		c, d  impl.Case
		value int
	}{
		{exampleItems(), caseOf(6, 5), caseOf(0, 0), 7},
		{exampleItems(), caseOf(6, 5), caseOf(4, 2), 12},
		// What is best in the first suitcase alone is not best in both.
		{exampleItems(), caseOf(6, 5), caseOf(3, 2), 8},
		{exampleItems(), caseOf(3, 2), caseOf(3, 3), 7},
		{exampleItems(), caseOf(0, 0), caseOf(0, 0), 0},
		{exampleItems(), caseOf(200, 200), caseOf(200, 200), 12},
		{exampleItems(), caseOf(4, 0), caseOf(0, 4), 0},
		// No item is in both, and none is parted.
		{[]impl.Item{itemOf(3, 3, 9)}, caseOf(3, 3), caseOf(3, 3), 9},
		{[]impl.Item{itemOf(3, 3, 9)}, caseOf(2, 2), caseOf(2, 2), 0},
		{[]impl.Item{itemOf(0, 0, 3), itemOf(0, 0, 4)}, caseOf(0, 0), caseOf(0, 0), 7},
		{sameItems(100, 0, 7, 10), caseOf(200, 0), caseOf(200, 0), 28},
		{sameItems(200, 200, 200, 10), caseOf(200, 200), caseOf(200, 200), 400},
		{sameItems(20, 20, 200, 10), caseOf(100, 100), caseOf(100, 100), 2000},
		{sameItems(20, 20, 200, 10), caseOf(200, 200), caseOf(0, 0), 2000},
	}
	for _, c := range cases {
		mustReturn(t, fmt.Sprint("TwoCases of ", c), results(impl.TwoCases(c.items, c.c, c.d)), c.value)
		mustReturn(t, fmt.Sprint("TwoCases, exchanged, of ", c), results(impl.TwoCases(c.items, c.d, c.c)), c.value)
	}
}

func TestExchangesByHand(t *testing.T) {
	const nothing = -1
	alike := []impl.Item{itemOf(1, 1, 1), itemOf(1, 1, 1), itemOf(1, 1, 5), itemOf(1, 1, 5)}
	cases := []struct {
		items       []impl.Item
		c           impl.Case
		chosen      []int
		item, other int
	}{
		{exampleItems(), exampleCase(), []int{2}, 2, 0},
		{exampleItems(), exampleCase(), []int{1}, 1, 0},
		{exampleItems(), exampleCase(), []int{0}, nothing, 0},
		{exampleItems(), exampleCase(), []int{1, 2}, nothing, 0},
		{exampleItems(), exampleCase(), nil, nothing, 0},
		{exampleItems(), caseOf(200, 200), nil, nothing, 0},
		{exampleItems(), caseOf(200, 200), []int{0, 1, 2}, nothing, 0},
		{exampleItems(), caseOf(3, 3), []int{2}, 2, 1},
		{exampleItems(), caseOf(3, 2), []int{2}, nothing, 0},
		// The greatest value counts, and then the first item, then the first other one.
		{exampleItems(), caseOf(7, 5), []int{1, 2}, 2, 0},
		{alike, caseOf(2, 2), []int{0}, 0, 2},
		{alike, caseOf(2, 2), []int{0, 1}, 0, 2},
		{alike, caseOf(3, 3), []int{0, 1, 3}, 0, 2},
		{alike, caseOf(3, 3), []int{0, 2, 3}, nothing, 0},
		{alike, caseOf(2, 2), []int{1, 2}, 1, 3},
		// The room of the item is there for the other one, for which no room was left, and no more of it.
		{[]impl.Item{itemOf(2, 1, 4), itemOf(3, 3, 5), itemOf(3, 2, 6)}, caseOf(3, 2), []int{0}, 0, 2},
		{[]impl.Item{itemOf(2, 1, 4), itemOf(3, 3, 5), itemOf(3, 2, 6)}, caseOf(2, 2), []int{0}, nothing, 0},
		{[]impl.Item{itemOf(2, 1, 4), itemOf(3, 3, 5), itemOf(3, 2, 6)}, caseOf(3, 1), []int{0}, nothing, 0},
		// An exchange that leaves the value as it is makes nothing better.
		{sameItems(1, 1, 1, 2), caseOf(1, 1), []int{0}, nothing, 0},
		{sameItems(0, 0, 0, 10), caseOf(0, 0), []int{3, 4}, nothing, 0},
		{[]impl.Item{itemOf(200, 200, 199), itemOf(200, 200, 200)}, caseOf(200, 200), []int{0}, 0, 1},
		{append(sameItems(20, 20, 0, 9), itemOf(20, 20, 200)), caseOf(180, 180), allItems(9), 0, 9},
	}
	for _, c := range cases {
		name := fmt.Sprintf("BestExchange of %v of %v in %v", c.chosen, c.items, c.c)
		mustReturn(t, name+" is one of a choice", results(impl.IsChoice(c.items, c.c, c.chosen)), true)
		if c.item == nothing {
			mustFail(t, name, results(impl.BestExchange(c.items, c.c, c.chosen)))
		} else {
			mustReturn(t, name, results(impl.BestExchange(c.items, c.c, c.chosen)), c.item, c.other)
		}
	}
}

func TestCasesFollowTheModel(t *testing.T) {
	m := &mixer{state: 47}
	eachCaseSample(func(items []impl.Item, c impl.Case) {
		name := fmt.Sprintf(" of %v in %v", items, c)
		best, value := bestPackedInModel(items, c)
		choices := choicesInModel(items, c)
		most, _ := greatestInModel(choices, func(list []int) int { return len(list) })
		mustReturn(t, "BestPacked"+name, results(impl.BestPacked(items, c)), value)
		mustReturn(t, "FirstPacked"+name, results(impl.FirstPacked(items, c)), best[0])
		mustReturn(t, "CountPacked"+name, results(impl.CountPacked(items, c)), len(best))
		mustReturn(t, "PackByValue"+name, results(impl.PackByValue(items, c)), packInModel(items, c, hasGreaterValue))
		mustReturn(t, "PackByRatio"+name, results(impl.PackByRatio(items, c)), packInModel(items, c, hasGreaterRatio))
		mustReturn(t, "MostPacked"+name, results(impl.MostPacked(items, c)), most[0])
		mustReturn(t, "AlwaysPacked"+name, results(impl.AlwaysPacked(items, c)), inAllInModel(best))
		mustReturn(t, "CountChoices"+name, results(impl.CountChoices(items, c)), len(choices))
		mustReturn(t, "NeverNeeded"+name, results(impl.NeverNeeded(items)), neverNeededInModel(items))
		checkRoom(t, items, c, m.next(0, impl.MaxLimit), m.suitcase(items))
		checkRoom(t, items, c, m.next(0, 3), m.suitcase(items))
	})
}

// checkRoom compares the functions of more room and of another suitcase with the model.
func checkRoom(t *testing.T, items []impl.Item, c impl.Case, more int, d impl.Case) {
	t.Helper()
	name := fmt.Sprintf(" of %d for %v in %v", more, items, c)
	mustReturn(t, "GainOfWeight"+name, results(impl.GainOfWeight(items, c, more)), gainInModel(items, c, caseOf(c.Weight+more, c.Bulk)))
	mustReturn(t, "GainOfBulk"+name, results(impl.GainOfBulk(items, c, more)), gainInModel(items, c, caseOf(c.Weight, c.Bulk+more)))
	mustReturn(t, fmt.Sprintf("TwoCases of %v in %v and %v", items, c, d), results(impl.TwoCases(items, c, d)), twoCasesInModel(items, c, d))
}

func TestLightestFollowsTheModel(t *testing.T) {
	m := &mixer{state: 48}
	eachCaseSample(func(items []impl.Item, c impl.Case) {
		all := itemsValueInModel(items, allItems(len(items)))
		for range 3 {
			bulk, value := m.next(0, c.Bulk), m.next(0, all+1)
			name := fmt.Sprintf("LightestFor %d, %d of %v", bulk, value, items)
			if first, weight, ok := lightestInModel(items, bulk, value); ok {
				mustReturn(t, name, results(impl.LightestFor(items, bulk, value)), first, weight)
			} else {
				mustFail(t, name, results(impl.LightestFor(items, bulk, value)))
			}
		}
	})
}

func TestChoicesOfAllLists(t *testing.T) {
	m := &mixer{state: 49}
	samples := [][]impl.Item{
		exampleItems(), sameItems(1, 1, 1, 3), {itemOf(1, 2, 3)}, {itemOf(3, 1, 1), itemOf(1, 3, 2)},
		m.items(3, 5, 5, 5), m.items(4, 3, 3, 9), m.evenItems(4), m.items(4, impl.MaxLimit, impl.MaxLimit, impl.MaxLimit),
	}
	for _, items := range samples {
		for n := 0; n <= len(items)+1; n++ {
			eachList(n, -1, len(items), func(list []int) { checkChoice(t, items, m.suitcase(items), list) })
		}
	}
}

func TestChoicesFollowTheModel(t *testing.T) {
	m := &mixer{state: 50}
	for range 8 {
		for _, items := range [][]impl.Item{m.items(6, 9, 9, 9), m.evenItems(6), m.items(6, impl.MaxLimit, impl.MaxLimit, impl.MaxLimit)} {
			for _, list := range increasingLists(len(items)) {
				checkChoice(t, items, m.suitcase(items), list)
				checkChoice(t, items, caseOf(impl.MaxLimit, impl.MaxLimit), list)
			}
		}
	}
}

// checkChoice compares all functions of one list with the model, whether the list is a choice or not.
func checkChoice(t *testing.T, items []impl.Item, c impl.Case, list []int) {
	t.Helper()
	name := fmt.Sprintf(" of %v of %v in %v", list, items, c)
	is := isChoiceInModel(items, c, list)
	mustReturn(t, "IsChoice"+name, results(impl.IsChoice(items, c, list)), is)
	if isIncreasingInModel(items, list) {
		mustReturn(t, "TotalsOf"+name, results(impl.TotalsOf(items, list)), totalsInModel(items, list))
	} else {
		mustFail(t, "TotalsOf"+name, results(impl.TotalsOf(items, list)))
	}
	if !is {
		mustFail(t, "BestExchange"+name, results(impl.BestExchange(items, c, list)))
	} else if item, other, ok := exchangeInModel(items, c, list); ok {
		mustReturn(t, "BestExchange"+name, results(impl.BestExchange(items, c, list)), item, other)
	} else {
		mustFail(t, "BestExchange"+name, results(impl.BestExchange(items, c, list)))
	}
}

// TestPackedChoicesFit is the first part of promise 6: packed choices fit and have the greatest value.
func TestPackedChoicesFit(t *testing.T) {
	eachCaseSample(func(items []impl.Item, c impl.Case) {
		name := fmt.Sprintf(" of %v in %v", items, c)
		best, ok := impl.BestPacked(items, c)
		if !ok {
			t.Fatalf("BestPacked%s fails", name)
		}
		packs := map[string]func(items []impl.Item, c impl.Case) ([]int, bool){
			"FirstPacked": impl.FirstPacked, "PackByValue": impl.PackByValue, "PackByRatio": impl.PackByRatio, "MostPacked": impl.MostPacked,
		}
		for packed, pack := range packs {
			chosen, _ := pack(items, c)
			mustReturn(t, "IsChoice of "+packed+name, results(impl.IsChoice(items, c, chosen)), true)
			totals, ok := impl.TotalsOf(items, chosen)
			if !ok || totals[0] > c.Weight || totals[1] > c.Bulk || totals[2] > best {
				t.Errorf("%s%s has the totals %v", packed, name, totals)
			}
			if packed == "FirstPacked" && totals[2] != best {
				t.Errorf("FirstPacked%s is worth %d, BestPacked is %d", name, totals[2], best)
			}
		}
		first, _ := impl.FirstPacked(items, c)
		always, _ := impl.AlwaysPacked(items, c)
		for _, k := range always {
			if !slices.Contains(first, k) {
				t.Errorf("FirstPacked%s is %v, without %d", name, first, k)
			}
		}
	})
}

// TestMoreRoomIsNeverWorthLess is the second part of promise 6.
func TestMoreRoomIsNeverWorthLess(t *testing.T) {
	m := &mixer{state: 51}
	eachCaseSample(func(items []impl.Item, c impl.Case) {
		name := fmt.Sprintf(" of %v in %v", items, c)
		best, _ := impl.BestPacked(items, c)
		before := [2]int{}
		for _, more := range []int{0, 1, m.next(2, 10), m.next(11, 199), impl.MaxLimit} {
			weight, ok := impl.GainOfWeight(items, c, more)
			bulk, okBulk := impl.GainOfBulk(items, c, more)
			if !ok || !okBulk || weight < before[0] || bulk < before[1] {
				t.Errorf("%d more%s gains %d or %d, and less gains %v", more, name, weight, bulk, before)
			}
			before = [2]int{weight, bulk}
			if c.Weight+more <= impl.MaxLimit {
				mustReturn(t, "BestPacked with more weight"+name, results(impl.BestPacked(items, caseOf(c.Weight+more, c.Bulk))), best+weight)
			}
			if c.Bulk+more <= impl.MaxLimit {
				mustReturn(t, "BestPacked with more bulk"+name, results(impl.BestPacked(items, caseOf(c.Weight, c.Bulk+more))), best+bulk)
			}
		}
		if both, ok := impl.TwoCases(items, c, m.suitcase(items)); !ok || both < best {
			t.Errorf("TwoCases%s: %d %v, and BestPacked is %d", name, both, ok, best)
		}
		mustReturn(t, "TwoCases with one of nothing"+name, results(impl.TwoCases(items, c, caseOf(0, 0))), best)
	})
}

func TestItemsTexts(t *testing.T) {
	texts := map[string][]impl.Item{
		"0.0.0":                           {itemOf(0, 0, 0)},
		"200.200.200":                     {itemOf(200, 200, 200)},
		"1.2.3":                           {itemOf(1, 2, 3)},
		"10.0.199,3.20.1,3.20.1,100.9.10": {itemOf(10, 0, 199), itemOf(3, 20, 1), itemOf(3, 20, 1), itemOf(100, 9, 10)},
		strings.Repeat("200.200.200,", 9) + "200.200.200": sameItems(200, 200, 200, 10),
		strings.Repeat("0.0.0,", 9) + "0.0.0":             sameItems(0, 0, 0, 10),
	}
	m := &mixer{state: 52}
	next := func() []impl.Item {
		return m.items(m.next(1, impl.MaxItems), impl.MaxLimit, impl.MaxLimit, impl.MaxLimit)
	}
	mustBeTexts(t, texts, next, impl.ParseItems, impl.ItemsText)
}

func TestTextsThatAreNoItems(t *testing.T) {
	texts := []string{
		"", ",", ".", "..", "1", "1.", "1.1", "1.1.", ".1.1", "1..1", "1.1.1.", ".1.1.1", "1.1.1.1", "1.1.1,", ",1.1.1", "1.1.1,,2.2.2", "1.1.1,2.2", "1.1,2.2.2", "1,1,1", "1.1,1",
		"201.1.1", "1.201.1", "1.1.201", "1000.1.1", "-1.1.1", "1.-1.1", "1.1.-1", "-0.1.1", "1.-0.1", "1.1.-0", "+1.1.1", "1.+1.1", "1.1.+1", "01.1.1", "1.01.1", "1.1.01", "00.1.1", "1.00.1", "1.1.00",
		" 1.1.1", "1.1.1 ", "1 .1.1", "1.1.1, 2.2.2", "1.1.1;2.2.2", "1/1/1", "1|1|1", "1x1x1", "1-1-1", "1:1:1", "1e0.1.1", "0x1.1.1", "1_0.1.1", "a.b.c", "1.1.c", "1.1.1\n", "\x00", "\xff", "١.١.١", "1·1·1",
		"99999999999999999999.1.1", "1.18446744073709551617.1", "1.18446744073709551616.1", "1.1.-9223372036854775808",
		strings.Repeat("1.1.1,", 10) + "1.1.1", strings.Repeat("1.1.1,", 11) + "1.1.1",
		strings.Repeat("1.1.1,", 100000) + "1.1.1", strings.Repeat("1.", 100000) + "1", strings.Repeat("0", 100000) + "1.1.1",
		strings.Repeat(",", 100000), strings.Repeat(".", 100000), strings.Repeat("9", 100000) + ".1.1",
	}
	for _, text := range texts {
		mustFail(t, fmt.Sprintf("ParseItems of %.40q", text), results(impl.ParseItems(text)))
	}
}

func TestItemsTextsOfShortStrings(t *testing.T) {
	// A text of two items has eleven bytes at least.
	isText := regexp.MustCompile(`^(0|[1-9]\d?|1\d\d|200)\.(0|[1-9]\d?|1\d\d|200)\.(0|[1-9]\d?|1\d\d|200)$`)
	mustParseTexts(t, "012.,", 8, isText.MatchString, impl.ParseItems, impl.ItemsText)
}

func TestNumbersOfCasesAreBounded(t *testing.T) {
	items, c := exampleItems(), exampleCase()
	for _, limit := range badLimits() {
		mustFail(t, fmt.Sprint("GainOfWeight of ", limit), results(impl.GainOfWeight(items, c, limit)))
		mustFail(t, fmt.Sprint("GainOfBulk of ", limit), results(impl.GainOfBulk(items, c, limit)))
		mustFail(t, fmt.Sprint("LightestFor the bulk ", limit), results(impl.LightestFor(items, limit, 0)))
		mustFail(t, fmt.Sprint("LightestFor the bulk and the value ", limit), results(impl.LightestFor(items, limit, 5)))
	}
	for _, value := range []int{-1, -2, 10001, 10002, 100000, math.MinInt, math.MaxInt} {
		mustFail(t, fmt.Sprint("LightestFor the value ", value), results(impl.LightestFor(items, 5, value)))
	}
}
