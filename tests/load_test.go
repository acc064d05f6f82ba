package tests

import (
	"fmt"
	"slices"
	"strings"
	"testing"

	"loop.example/g01334/impl"
)

// loading returns one of n boxes for the stops low..high.
func (m *mixer) loading(n, low, high int) string {
	var written strings.Builder
	for range n {
		written.WriteByte(byte('0' + m.next(low, high)))
	}
	return written.String()
}

// tour returns one that ends somewhere. If it is straight, no box is in the way.
func (m *mixer) tour(straight bool) string {
	tour := ""
	for range m.next(0, 16) {
		letters := boxesOfTours
		if open := openInModel(tour); open != "" && m.next(0, 1) == 0 {
			k := m.next(0, len(open)-1)
			if straight {
				k = len(open) - 1
			}
			letters = strings.ToUpper(open[k : k+1])
		}
		k := m.next(0, len(letters)-1)
		if letter := letters[k : k+1]; isTourInModel(tour + letter) {
			tour += letter
		}
	}
	return tour
}

// unloadedAll returns a tour that unloads all boxes that another one leaves in the van, the last one first.
func unloadedAll(tour string) string {
	for open := openInModel(tour); open != ""; open = openInModel(tour) {
		tour += strings.ToUpper(open[len(open)-1:])
	}
	return tour
}

// eachSmallLoading visits loadings that are so small that all orders and all places can be tried.
func eachSmallLoading(visit func(loading string)) {
	eachString("1234", 4, visit)
	eachString("589", 4, visit)
	m := &mixer{state: 61}
	for range 40 {
		visit(m.loading(5, 1, 9))
		visit(m.loading(6, 1, 4))
		visit(m.loading(6, 1, 9))
	}
}

// eachLoading visits loadings of all lengths.
func eachLoading(visit func(loading string)) {
	eachSmallLoading(visit)
	m := &mixer{state: 62}
	for range 60 {
		visit(m.loading(m.next(7, 11), 1, 9))
		visit(m.loading(impl.MaxLoaded, 1, 9))
		visit(m.loading(impl.MaxLoaded, 7, 9))
		// Many boxes are nearer to the door than those for earlier stops.
		visit(m.loading(4, 1, 4) + m.loading(4, 3, 7) + m.loading(4, 6, 9))
	}
}

// eachTourSample visits all tours of three boxes, and tours of all lengths.
func eachTourSample(visit func(tour string)) {
	eachTour("abc", visit)
	eachTour("gh", visit)
	m := &mixer{state: 63}
	for range 300 {
		straight := m.next(0, 1) == 0
		tour := m.tour(straight)
		visit(tour)
		visit(unloadedAll(tour))
	}
}

func TestLoadExample(t *testing.T) {
	mustReturn(t, "ExtraMoves of 312", results(impl.ExtraMoves("312")), 1)
	mustReturn(t, "AfterStop of 312", results(impl.AfterStop("312", 1)), "32", 1)
	mustReturn(t, "IsFreeLoading of 32", results(impl.IsFreeLoading("32")), true)
	mustReturn(t, "BestLoading of 312", results(impl.BestLoading("312")), "321")
	mustReturn(t, "AfterStop of 132", results(impl.AfterStop("132", 1)), "32", 2)
	mustReturn(t, "ExtraMoves of 132", results(impl.ExtraMoves("132")), 2)
	mustReturn(t, "ExtraBySorting of 123", results(impl.ExtraBySorting("123")), 2)
	mustReturn(t, "ExtraMoves of 123", results(impl.ExtraMoves("123")), 3)
	mustReturn(t, "FewestPlaces of 2132", results(impl.FewestPlaces("2132")), 2)
	mustReturn(t, "PlacesOfBoxes of 2132", results(impl.PlacesOfBoxes("2132")), []int{0, 0, 1, 1})
	mustReturn(t, "IsServed of abBA", results(impl.IsServed("abBA")), true)
	mustReturn(t, "IsServed of abAB", results(impl.IsServed("abAB")), false)
	mustReturn(t, "CountServed of 2", results(impl.CountServed(2)), 4)
	mustReturn(t, "FixTour of abAB", results(impl.FixTour("abAB")), "aAbB")
}

func TestIsLoading(t *testing.T) {
	for _, loading := range []string{"", "1", "9", "312", "123456789", "111111111111", "999999999999", "123456789123"} {
		if !impl.IsLoading(loading) {
			t.Errorf("%q is no loading", loading)
		}
	}
	eachString("019a:/ ", 4, func(text string) {
		if is, want := impl.IsLoading(text), strings.Trim(text, "19") == ""; is != want {
			t.Errorf("%q is a loading: %v, want %v", text, is, want)
		}
	})
}

// loadingCase tells what there is to tell of a loading.
type loadingCase struct {
	loading        string
	moves, sorting int
	best           string
	free, loadings int
	stops, places  []int
}

func loadingCases() []loadingCase {
	return []loadingCase{
		// No box, one box, and boxes for one stop.
		{"", 0, 0, "", 1, 1, nil, nil},
		{"5", 0, 0, "5", 2, 1, []int{5}, []int{0}},
		{"22", 0, 0, "22", 3, 1, []int{2}, []int{0, 0}},
		{"111111111111", 0, 0, "111111111111", 13, 1, []int{1}, repeated(0, 12)},
		// Free ones.
		{"91", 0, 0, "91", 3, 2, []int{1, 9}, []int{0, 0}},
		{"321", 0, 0, "321", 4, 6, []int{1, 2, 3}, []int{0, 0, 0}},
		{"999999999998", 0, 0, "999999999998", 13, 12, []int{8, 9}, repeated(0, 12)},
		{"987654321111", 0, 0, "987654321111", 13, 19958400, []int{1, 2, 3, 4, 5, 6, 7, 8, 9}, repeated(0, 12)},
		// Every box stands in the way.
		{"19", 1, 1, "91", 2, 2, []int{1, 9}, []int{0, 1}},
		{"123", 3, 2, "321", 2, 6, []int{1, 2, 3}, []int{0, 1, 2}},
		{"123456789", 36, 8, "987654321", 2, 362880, []int{1, 2, 3, 4, 5, 6, 7, 8, 9}, []int{0, 1, 2, 3, 4, 5, 6, 7, 8}},
		{"123456789999", 60, 11, "999987654321", 2, 19958400, []int{1, 2, 3, 4, 5, 6, 7, 8, 9}, []int{0, 1, 2, 3, 4, 5, 6, 7, 8, 8, 8, 8}},
		{"111122223333", 12, 8, "333322221111", 5, 34650, []int{1, 2, 3}, []int{0, 0, 0, 0, 1, 1, 1, 1, 2, 2, 2, 2}},
		// By sorting there are as many moves.
		{"312", 1, 1, "321", 3, 6, []int{1, 2, 3}, []int{0, 0, 1}},
		{"132", 2, 2, "321", 2, 6, []int{1, 2, 3}, []int{0, 1, 1}},
		{"213", 2, 2, "321", 3, 6, []int{1, 2, 3}, []int{0, 0, 1}},
		{"2132", 3, 3, "3221", 3, 12, []int{1, 2, 3}, []int{0, 0, 1, 1}},
		{"231213", 4, 4, "332211", 2, 90, []int{1, 2, 3}, []int{0, 1, 0, 1, 0, 2}},
		{"898989898989", 6, 6, "999999888888", 2, 924, []int{8, 9}, []int{0, 1, 0, 1, 0, 1, 0, 1, 0, 1, 0, 1}},
		// By sorting there are fewer ones; what stays deeper inside is not sorted.
		{"1324", 5, 3, "4321", 2, 24, []int{1, 2, 3, 4}, []int{0, 1, 1, 2}},
		{"21435", 8, 6, "54321", 3, 120, []int{1, 2, 3, 4, 5}, []int{0, 0, 1, 1, 2}},
	}
}

func TestLoadingsByHand(t *testing.T) {
	for _, c := range loadingCases() {
		name := " of " + c.loading
		mustReturn(t, "ExtraMoves"+name, results(impl.ExtraMoves(c.loading)), c.moves)
		mustReturn(t, "ExtraBySorting"+name, results(impl.ExtraBySorting(c.loading)), c.sorting)
		mustReturn(t, "IsFreeLoading"+name, results(impl.IsFreeLoading(c.loading)), c.moves == 0)
		mustReturn(t, "BestLoading"+name, results(impl.BestLoading(c.loading)), c.best)
		mustReturn(t, "CountFree"+name, results(impl.CountFree(c.loading)), c.free)
		mustReturn(t, "CountLoadings"+name, results(impl.CountLoadings(c.loading)), c.loadings)
		mustReturn(t, "StopsOf"+name, results(impl.StopsOf(c.loading)), c.stops)
		mustReturn(t, "PlacesOfBoxes"+name, results(impl.PlacesOfBoxes(c.loading)), c.places)
		mustReturn(t, "FewestPlaces"+name, results(impl.FewestPlaces(c.loading)), numberOfPlaces(c.places))
	}
}

func TestAfterStopByHand(t *testing.T) {
	cases := []struct {
		loading string
		stop    int
		after   string
		moves   int
	}{
		{"", 1, "", 0}, {"", 9, "", 0},
		// Stops for which there is no box, and such behind all boxes.
		{"555", 1, "555", 0}, {"555", 4, "555", 0}, {"555", 5, "", 0}, {"555", 6, "", 0}, {"555", 9, "", 0},
		{"2442", 1, "2442", 0}, {"2442", 3, "44", 0}, {"123", 9, "", 0},
		// The first stop and the last one.
		{"19", 1, "9", 1}, {"91", 1, "9", 0}, {"19", 9, "", 0}, {"9", 9, "", 0}, {"9", 8, "9", 0},
		// The stops before have been served, and their moves do not count.
		{"312", 2, "3", 0}, {"312", 3, "", 0}, {"123", 1, "23", 2}, {"123", 2, "3", 1}, {"123", 3, "", 0},
		{"2132", 1, "232", 2}, {"2132", 2, "3", 1}, {"123456789", 4, "56789", 5}, {"123456789999", 8, "9999", 4},
		// Boxes come back in the order in which they were, in front of those that stayed.
		{"1324", 1, "324", 3}, {"21435", 1, "2435", 3}, {"314152", 1, "3452", 3}, {"967182739", 1, "96782739", 5}, {"111199999999", 1, "99999999", 8},
		// Boxes between two for the stop stand in the way of the deeper one.
		{"131", 1, "3", 1}, {"1315", 1, "35", 2}, {"61316", 1, "636", 2},
	}
	for _, c := range cases {
		mustReturn(t, fmt.Sprint("AfterStop of ", c.loading, " and ", c.stop), results(impl.AfterStop(c.loading, c.stop)), c.after, c.moves)
	}
}

func TestLoadingsFollowTheModel(t *testing.T) {
	eachLoading(func(loading string) {
		name := " of " + loading
		left := loading
		for stop := 1; stop <= impl.MaxStops; stop++ {
			after, moves := afterStopInModel(left, stop, false)
			mustReturn(t, fmt.Sprint("AfterStop", name, " and ", stop), results(impl.AfterStop(loading, stop)), after, moves)
			left = after
		}
		mustReturn(t, "ExtraMoves"+name, results(impl.ExtraMoves(loading)), extraMovesInModel(loading, false))
		mustReturn(t, "ExtraBySorting"+name, results(impl.ExtraBySorting(loading)), extraMovesInModel(loading, true))
		mustReturn(t, "IsFreeLoading"+name, results(impl.IsFreeLoading(loading)), isFreeInModel(loading))
		free := slices.DeleteFunc(partsInModel(loading), func(part string) bool { return !isFreeInModel(part) })
		mustReturn(t, "CountFree"+name, results(impl.CountFree(loading)), len(free))
		mustReturn(t, "StopsOf"+name, results(impl.StopsOf(loading)), stopsInModel(loading))
		mustReturn(t, "PlacesOfBoxes"+name, results(impl.PlacesOfBoxes(loading)), firstPlacesInModel(loading))
		// No fewer places are enough for boxes that must be apart.
		mustReturn(t, "FewestPlaces"+name, results(impl.FewestPlaces(loading)), mostApartInModel(loading))
	})
}

func TestOrdersOfBoxesFollowTheModel(t *testing.T) {
	eachSmallLoading(func(loading string) {
		name := " of " + loading
		all := loadingsInModel(loading)
		mustReturn(t, "CountLoadings"+name, results(impl.CountLoadings(loading)), len(all))
		free := slices.DeleteFunc(all, func(other string) bool { return !isFreeInModel(other) })
		if len(free) != 1 {
			t.Fatalf("free loadings%s: %v", name, free)
		}
		mustReturn(t, "BestLoading"+name, results(impl.BestLoading(loading)), free[0])
		mustReturn(t, "FewestPlaces"+name, results(impl.FewestPlaces(loading)), fewestPlacesInModel(loading))
	})
}

// TestExtraMovesAreThoseOfAllStops is the first part of promise 8, with what else holds of loadings.
func TestExtraMovesAreThoseOfAllStops(t *testing.T) {
	eachLoading(func(loading string) {
		all := 0
		for stop := 1; stop <= impl.MaxStops; stop++ {
			after, moves, ok := impl.AfterStop(loading, stop)
			if all += moves; !ok || strings.Trim(after, "123456789"[stop:]) != "" {
				t.Errorf("AfterStop of %s and %d: %s %d %v", loading, stop, after, moves, ok)
			}
		}
		mustReturn(t, "ExtraMoves of "+loading, results(impl.ExtraMoves(loading)), all)
		mustReturn(t, "IsFreeLoading of "+loading, results(impl.IsFreeLoading(loading)), all == 0)
		best, _ := impl.BestLoading(loading)
		mustReturn(t, "ExtraMoves of the best loading of "+loading, results(impl.ExtraMoves(best)), 0)
		mustReturn(t, "BestLoading of the best loading of "+loading, results(impl.BestLoading(best)), best)
		places, ok := impl.PlacesOfBoxes(loading)
		if !ok {
			t.Fatalf("PlacesOfBoxes of %s fails", loading)
		}
		mustReturn(t, "IsPlacing by PlacesOfBoxes of "+loading, results(impl.IsPlacing(loading, places)), true)
		mustReturn(t, "FewestPlaces of "+loading, results(impl.FewestPlaces(loading)), numberOfPlaces(places))
	})
}

func TestPlacingsByHand(t *testing.T) {
	good := []struct {
		loading string
		places  []int
	}{
		{"", nil}, {"", []int{}}, {"7", []int{0}},
		// One place, and as many as there are boxes.
		{"321", []int{0, 0, 0}}, {"321", []int{0, 1, 2}}, {"123", []int{0, 1, 2}}, {"222", []int{0, 0, 0}},
		{"555555555555", repeated(0, 12)}, {"123456789123", []int{0, 1, 2, 3, 4, 5, 6, 7, 8, 9, 10, 11}},
		// Places need not be few.
		{"2132", []int{0, 0, 1, 1}}, {"2132", []int{0, 0, 1, 2}}, {"2132", []int{0, 1, 2, 0}}, {"2132", []int{0, 1, 2, 3}},
	}
	for _, c := range good {
		mustReturn(t, fmt.Sprint("IsPlacing of ", c.loading, c.places), results(impl.IsPlacing(c.loading, c.places)), true)
	}
	for _, places := range badPlacings() {
		mustReturn(t, fmt.Sprint("IsPlacing of 2132", places), results(impl.IsPlacing("2132", places)), false)
	}
	for _, places := range [][]int{{0}, {1}, {-1}, {0, 0}} {
		mustReturn(t, fmt.Sprint("IsPlacing of nothing", places), results(impl.IsPlacing("", places)), false)
	}
}

func TestPlacingsFollowTheModel(t *testing.T) {
	check := func(loading string, places []int) {
		want := isPlacingInModel(loading, places)
		if is, ok := impl.IsPlacing(loading, places); is != want || !ok {
			t.Errorf("IsPlacing of %s %v: want %v and true, got %v %v", loading, places, want, is, ok)
		}
	}
	eachString("123", 4, func(loading string) {
		for n := range len(loading) + 2 {
			eachList(n, -1, min(n, 3), func(places []int) { check(loading, places) })
		}
	})
	eachSmallLoading(func(loading string) {
		for _, places := range placingsInModel(loading) {
			check(loading, places)
		}
	})
}

// tourCase tells what there is to tell of a tour. There is no tour back if back is a question mark.
type tourCase struct {
	tour    string
	served  bool
	fullest int
	fixed   string
	back    string
	open    []string
}

func tourCases() []tourCase {
	const (
		served   = true
		unserved = false
	)
	all := []string{"", "a", "ab", "abc", "abcd", "abcde", "abcdef", "abcdefg"}
	fallen := slices.Clone(all)
	slices.Reverse(fallen)
	return []tourCase{
		{"", served, 0, "", "", []string{""}},
		{"aA", served, 1, "aA", "aA", []string{"", "a", ""}},
		{"abBA", served, 2, "aAbB", "abBA", []string{"", "a", "ab", "a", ""}},
		{"baAB", served, 2, "bBaA", "baAB", []string{"", "b", "ba", "b", ""}},
		{"hHaA", served, 1, "hHaA", "aAhH", []string{"", "h", "", "a", ""}},
		{"abBcdDCA", served, 3, "aAbBcCdD", "acdDCbBA", []string{"", "a", "ab", "a", "ac", "acd", "ac", "a", ""}},
		// Boxes are left in the van.
		{"a", unserved, 1, "aA", "?", []string{"", "a"}},
		{"aAb", unserved, 1, "aAbB", "?", []string{"", "a", "", "b"}},
		{"abB", unserved, 2, "aAbB", "?", []string{"", "a", "ab", "a"}},
		{"abA", unserved, 2, "aAbB", "?", []string{"", "a", "ab", "b"}},
		{"cabBd", unserved, 3, "cCaAbBdD", "?", []string{"", "c", "ca", "cab", "ca", "cad"}},
		{"abcdefgh", unserved, 8, "aAbBcCdDeEfFgGhH", "?", append(slices.Clone(all), "abcdefgh")},
		// Boxes are unloaded while others are in the way.
		{"abAB", unserved, 2, "aAbB", "baBA", []string{"", "a", "ab", "b", ""}},
		{"abcBCA", unserved, 3, "aAbBcC", "acbCBA", []string{"", "a", "ab", "abc", "ac", "a", ""}},
		{"abcBA", unserved, 3, "aAbBcC", "?", []string{"", "a", "ab", "abc", "ac", "c"}},
		{"abAcBC", unserved, 2, "aAbBcC", "cbCaBA", []string{"", "a", "ab", "b", "bc", "c", ""}},
		// Sixteen letters.
		{"abcdefghHGFEDCBA", served, 8, "aAbBcCdDeEfFgGhH", "abcdefghHGFEDCBA", append(append(slices.Clone(all), "abcdefgh"), fallen...)},
		{"aAbBcCdDeEfFgGhH", served, 1, "aAbBcCdDeEfFgGhH", "hHgGfFeEdDcCbBaA", []string{"", "a", "", "b", "", "c", "", "d", "", "e", "", "f", "", "g", "", "h", ""}},
		{"abcdefghABCDEFGH", unserved, 8, "aAbBcCdDeEfFgGhH", "hgfedcbaHGFEDCBA", append(slices.Clone(all), "abcdefgh", "bcdefgh", "cdefgh", "defgh", "efgh", "fgh", "gh", "h", "")},
	}
}

func TestToursByHand(t *testing.T) {
	for _, c := range tourCases() {
		if !impl.IsTour(c.tour) {
			t.Errorf("%s is no tour", c.tour)
		}
		mustReturn(t, "IsServed of "+c.tour, results(impl.IsServed(c.tour)), c.served)
		mustReturn(t, "FullestOf of "+c.tour, results(impl.FullestOf(c.tour)), c.fullest)
		mustReturn(t, "FixTour of "+c.tour, results(impl.FixTour(c.tour)), c.fixed)
		if c.back == "?" {
			mustFail(t, "BackTour of "+c.tour, results(impl.BackTour(c.tour)))
		} else {
			mustReturn(t, "BackTour of "+c.tour, results(impl.BackTour(c.tour)), c.back)
		}
		if len(c.open) != len(c.tour)+1 {
			t.Fatalf("the case of %s tells of %d steps", c.tour, len(c.open))
		}
		for steps, open := range c.open {
			mustReturn(t, fmt.Sprint("OpenAfter of ", c.tour, " and ", steps), results(impl.OpenAfter(c.tour, steps)), open)
		}
	}
}

func TestIsTour(t *testing.T) {
	for _, letters := range []string{"aAbBi", "hHgGI", "aAB@`h", "cCdD1"} {
		eachString(letters, 5, func(text string) {
			if is, want := impl.IsTour(text), isTourInModel(text); is != want {
				t.Errorf("%q is a tour: %v, want %v", text, is, want)
			}
		})
	}
	// Each byte alone, at the end and at the beginning of a tour.
	for letter := range 256 {
		for _, text := range []string{string([]byte{byte(letter)}), "ab" + string([]byte{byte(letter)}), string([]byte{byte(letter)}) + "cC"} {
			if is, want := impl.IsTour(text), isTourInModel(text); is != want {
				t.Errorf("%q is a tour: %v, want %v", text, is, want)
			}
		}
	}
}

func TestToursFollowTheModel(t *testing.T) {
	eachTourSample(func(tour string) {
		if !impl.IsTour(tour) {
			t.Errorf("%s is no tour", tour)
		}
		mustReturn(t, "IsServed of "+tour, results(impl.IsServed(tour)), isServedInModel(tour))
		mustReturn(t, "FullestOf of "+tour, results(impl.FullestOf(tour)), fullestInModel(tour))
		mustReturn(t, "FixTour of "+tour, results(impl.FixTour(tour)), fixedInModel(tour))
		for steps, part := range partsInModel(tour) {
			mustReturn(t, fmt.Sprint("OpenAfter of ", tour, " and ", steps), results(impl.OpenAfter(tour, steps)), openInModel(part))
		}
		if openInModel(tour) != "" {
			mustFail(t, "BackTour of "+tour, results(impl.BackTour(tour)))
		} else {
			mustReturn(t, "BackTour of "+tour, results(impl.BackTour(tour)), backInModel(tour))
		}
	})
}

// unloadsTheLastFirst reports whether a tour unloads each box when it is the last one in the van, and leaves none.
func unloadsTheLastFirst(tour string) bool {
	for i, letter := range strings.Split(tour, "") {
		open, _ := impl.OpenAfter(tour, i)
		if letter == strings.ToUpper(letter) && !strings.HasSuffix(open, strings.ToLower(letter)) {
			return false
		}
	}
	open, _ := impl.OpenAfter(tour, len(tour))
	return open == ""
}

// TestServedToursUnloadTheLastBoxFirst is the second part of promise 8, with what else holds of tours.
func TestServedToursUnloadTheLastBoxFirst(t *testing.T) {
	eachTourSample(func(tour string) {
		mustReturn(t, "IsServed of "+tour, results(impl.IsServed(tour)), unloadsTheLastFirst(tour))
		fixed, _ := impl.FixTour(tour)
		mustReturn(t, "IsServed of FixTour of "+tour, results(impl.IsServed(fixed)), true)
		mustReturn(t, "FixTour of FixTour of "+tour, results(impl.FixTour(fixed)), fixed)
		if back, ok := impl.BackTour(tour); ok {
			mustReturn(t, "BackTour of BackTour of "+tour, results(impl.BackTour(back)), tour)
			mustReturn(t, "IsServed of BackTour of "+tour, results(impl.IsServed(back)), unloadsTheLastFirst(tour))
		}
	})
}

func TestServedToursAreCounted(t *testing.T) {
	counts := []int{1, 1, 4, 30, 336, 5040, 95040, 2162160, 57657600}
	const first = "aAbBcCdDeEfFgGhH"
	for boxes, count := range counts {
		mustReturn(t, fmt.Sprint("CountServed of ", boxes), results(impl.CountServed(boxes)), count)
		mustReturn(t, fmt.Sprint("FirstServed of ", boxes), results(impl.FirstServed(boxes)), first[:2*boxes])
	}
	for boxes := range 5 {
		served := servedInModel(boxes)
		mustReturn(t, fmt.Sprint("CountServed of ", boxes), results(impl.CountServed(boxes)), len(served))
		mustReturn(t, fmt.Sprint("FirstServed of ", boxes), results(impl.FirstServed(boxes)), served[0])
		for _, tour := range served {
			mustReturn(t, "IsServed of "+tour, results(impl.IsServed(tour)), true)
		}
	}
}
