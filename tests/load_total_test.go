package tests

import (
	"fmt"
	"math"
	"strings"
	"testing"

	"loop.example/g01334/impl"
)

// Promise 11 for chapter 8: every function accepts all arguments, modifies none of them and shares no memory with them.

func badLoadings() []string {
	return []string{
		// Thirteen boxes and more.
		strings.Repeat("1", 13), strings.Repeat("9", 13), "1234567891234", strings.Repeat("1", 100000), strings.Repeat("é", 100000),
		// The digit 0, and what is beside the digits.
		"0", "00", "10", "01", "3120", "0312", "3102", "/", ":", "31:", "1/2",
		"a", "12a", "a12", "A", "l", "x1", "-1", "+1", "1-2", "1,2", "1.2", "3;1", " ", " 1", "1 ", "1 2", "1\n", "\n", "\t1", "\x00", "1\x00",
		// Bytes above 127; some letters end as a digit does if they are cut down to a byte.
		"\x80", "\xff", "1\xff", "\xb1", "é", "1é", "١", "１", "1２3", "\u0131", "1\u0139", "\U00010131", "²", "\ufffd",
	}
}

func badTours() []string {
	return []string{
		// Seventeen letters and more.
		"abcdefghHGFEDCBAa", "aAbBcCdDeEfFgGhHi", "aAbBcCdDeEfFgGhHh", strings.Repeat("a", 17), strings.Repeat("aA", 100000), strings.Repeat("é", 100000),
		// Other letters, and other bytes.
		"i", "I", "iI", "aAi", "aAI", "aAiI", "z", "Z", "@", "`", "a@", "`a", "[", "{", "0", "1", "a1", " ", " aA", "aA ", "a A", "a-A", "aA\n", "\x00", "aA\x00",
		// Bytes above 127; some letters end as a letter of a tour does if they are cut down to a byte.
		"\x80", "\xff", "a\xff", "\xe1", "aA\xc1", "é", "aAé", "а", "ａ", "\u0161", "a\u0141", "\u0161\u0141", "\U00010161", "\ufffd",
		// A letter twice.
		"aa", "aAa", "aAA", "aAaA", "aba", "abBb", "abBB", "abBAb", "abBAB", "hHh", "hHH", "abcdefgha",
		// A great letter ahead of its small one.
		"A", "H", "Aa", "aB", "aBb", "AaA", "AaBb", "bA", "bAa", "baBAcDd", "ABab", "Hh",
	}
}

// badPlacings are no places of the boxes of 2132.
func badPlacings() [][]int {
	return [][]int{
		// Too short and too long.
		nil, {}, {0}, {0, 0}, {0, 0, 1}, {0, 0, 1, 1, 1}, {0, 0, 1, 1, 2}, repeated(0, 12), repeated(0, 1000),
		// Out of bounds.
		{-1, 0, 1, 1}, {0, 0, 1, -1}, {0, -1, 0, 0}, {-1, -1, -1, -1}, {4, 0, 1, 1}, {0, 0, 1, 4}, {0, 0, 1, math.MaxInt}, {0, 0, math.MinInt, 1}, {math.MaxInt, math.MinInt, 0, 1},
		// Told in another order than that of their first boxes.
		{1, 1, 0, 0}, {1, 0, 2, 2}, {0, 0, 2, 1}, {0, 0, 2, 2}, {0, 2, 1, 1}, {0, 1, 3, 2}, {1, 2, 3, 4}, {3, 2, 1, 0}, {0, 0, 1, 3},
		// A box is on one for an earlier stop.
		{0, 0, 0, 0}, {0, 0, 1, 0}, {0, 1, 1, 2}, {0, 1, 2, 1}, {0, 1, 0, 1}, {0, 1, 0, 2}, {0, 0, 0, 1},
	}
}

// loadArguments are all that the functions of chapter 8 are called with.
type loadArguments struct {
	loading string
	stop    int
	places  []int
	tour    string
	steps   int
	boxes   int
}

// exampleLoad are valid arguments for all functions.
func exampleLoad() loadArguments {
	return loadArguments{loading: "2132", stop: 1, places: []int{0, 0, 1, 1}, tour: "abBA", steps: 2, boxes: 2}
}

// loadingCalls are all functions that need a loading.
func loadingCalls() map[string]func(a loadArguments) []any {
	return map[string]func(a loadArguments) []any{
		"IsLoading":      func(a loadArguments) []any { return results(impl.IsLoading(a.loading)) },
		"ExtraMoves":     func(a loadArguments) []any { return results(impl.ExtraMoves(a.loading)) },
		"AfterStop":      func(a loadArguments) []any { return results(impl.AfterStop(a.loading, a.stop)) },
		"ExtraBySorting": func(a loadArguments) []any { return results(impl.ExtraBySorting(a.loading)) },
		"IsFreeLoading":  func(a loadArguments) []any { return results(impl.IsFreeLoading(a.loading)) },
		"BestLoading":    func(a loadArguments) []any { return results(impl.BestLoading(a.loading)) },
		"CountFree":      func(a loadArguments) []any { return results(impl.CountFree(a.loading)) },
		"CountLoadings":  func(a loadArguments) []any { return results(impl.CountLoadings(a.loading)) },
		"StopsOf":        func(a loadArguments) []any { return results(impl.StopsOf(a.loading)) },
		"FewestPlaces":   func(a loadArguments) []any { return results(impl.FewestPlaces(a.loading)) },
		"PlacesOfBoxes":  func(a loadArguments) []any { return results(impl.PlacesOfBoxes(a.loading)) },
		"IsPlacing":      func(a loadArguments) []any { return results(impl.IsPlacing(a.loading, a.places)) },
	}
}

// tourCalls are all functions that need a tour.
func tourCalls() map[string]func(a loadArguments) []any {
	return map[string]func(a loadArguments) []any{
		"IsTour":    func(a loadArguments) []any { return results(impl.IsTour(a.tour)) },
		"IsServed":  func(a loadArguments) []any { return results(impl.IsServed(a.tour)) },
		"FullestOf": func(a loadArguments) []any { return results(impl.FullestOf(a.tour)) },
		"OpenAfter": func(a loadArguments) []any { return results(impl.OpenAfter(a.tour, a.steps)) },
		"BackTour":  func(a loadArguments) []any { return results(impl.BackTour(a.tour)) },
		"FixTour":   func(a loadArguments) []any { return results(impl.FixTour(a.tour)) },
	}
}

// loadCalls are all functions of chapter 8.
func loadCalls() map[string]func(a loadArguments) []any {
	calls := loadingCalls()
	for name, call := range tourCalls() {
		calls[name] = call
	}
	calls["CountServed"] = func(a loadArguments) []any { return results(impl.CountServed(a.boxes)) }
	calls["FirstServed"] = func(a loadArguments) []any { return results(impl.FirstServed(a.boxes)) }
	return calls
}

// TestExampleLoadIsValid makes sure that calls with one argument exchanged fail because of that one.
func TestExampleLoadIsValid(t *testing.T) {
	for name, call := range loadCalls() {
		if all := call(exampleLoad()); !succeeded(all) {
			t.Errorf("%s fails", name)
		}
	}
}

func TestLoadingsAreRequired(t *testing.T) {
	for name, call := range loadingCalls() {
		for _, loading := range badLoadings() {
			for stop := 1; stop <= impl.MaxStops; stop++ {
				a := exampleLoad()
				a.loading, a.stop = loading, stop
				mustFail(t, fmt.Sprintf("%s of %.40q", name, loading), call(a))
				a.places = repeated(0, len(loading))
				mustFail(t, fmt.Sprintf("%s of %.40q on one place", name, loading), call(a))
			}
		}
	}
}

func TestToursAreRequired(t *testing.T) {
	for name, call := range tourCalls() {
		for _, tour := range badTours() {
			for _, steps := range []int{0, 1, 2, len(tour) - 1, len(tour)} {
				a := exampleLoad()
				a.tour, a.steps = tour, steps
				mustFail(t, fmt.Sprintf("%s of %.40q and %d", name, tour, steps), call(a))
			}
		}
	}
}

func TestStopsAreRequired(t *testing.T) {
	for _, loading := range []string{"", "1", "9", "2132", "123456789999"} {
		for _, stop := range []int{0, -1, -2, -9, impl.MaxStops + 1, impl.MaxStops + 2, 100, 1 << 32, math.MinInt, math.MaxInt} {
			mustFail(t, fmt.Sprint("AfterStop of ", loading, " and ", stop), results(impl.AfterStop(loading, stop)))
		}
	}
}

func TestStepsAreRequired(t *testing.T) {
	for _, tour := range []string{"", "a", "aA", "abBA", "abcdefghHGFEDCBA"} {
		for _, steps := range []int{-1, -2, -16, len(tour) + 1, len(tour) + 2, impl.MaxTour + 1, 100, 1 << 32, math.MinInt, math.MaxInt} {
			mustFail(t, fmt.Sprint("OpenAfter of ", tour, " and ", steps), results(impl.OpenAfter(tour, steps)))
		}
	}
}

func TestNumbersOfBoxesAreRequired(t *testing.T) {
	for _, boxes := range []int{-1, -2, -8, 9, 10, 16, 100, 1 << 32, math.MinInt, math.MaxInt} {
		mustFail(t, fmt.Sprint("CountServed of ", boxes), results(impl.CountServed(boxes)))
		mustFail(t, fmt.Sprint("FirstServed of ", boxes), results(impl.FirstServed(boxes)))
	}
}

func TestLoadArgumentsAreKept(t *testing.T) {
	changes := []func(a *loadArguments){
		func(a *loadArguments) {},
		func(a *loadArguments) { a.loading, a.places, a.tour, a.boxes = "", nil, "", 0 },
		func(a *loadArguments) { a.loading, a.places = "", []int{} },
		func(a *loadArguments) { a.loading, a.places = "321", []int{0, 0, 0} },
		func(a *loadArguments) { a.loading, a.places = "123456789", []int{0, 1, 2, 3, 4, 5, 6, 7, 8} },
		func(a *loadArguments) { a.loading, a.places = "555555555555", repeated(0, 12) },
		func(a *loadArguments) { a.places = []int{1, 1, 0, 0} },
		func(a *loadArguments) { a.places = []int{0, 0, 0, 0} },
		func(a *loadArguments) { a.places = []int{0, 0, 1, math.MaxInt} },
		func(a *loadArguments) { a.places = []int{0, 0, 1} },
		func(a *loadArguments) { a.loading = "2130" },
		func(a *loadArguments) { a.stop, a.steps, a.boxes = 9, 4, 8 },
		func(a *loadArguments) { a.stop, a.steps, a.boxes = 10, 5, 9 },
		func(a *loadArguments) { a.tour, a.steps = "abcdefghABCDEFGH", 11 },
		func(a *loadArguments) { a.tour = "abA" },
	}
	for name, call := range loadCalls() {
		for _, change := range changes {
			a := exampleLoad()
			change(&a)
			title := fmt.Sprint(name, " of ", a)
			places, kept := guarded(a.places)
			a.places = places
			mustKeep(t, title, func() []any { return call(a) }, kept)
		}
	}
}

// TestUnloadingGoroutinesEnd serves stops at which boxes come out, often.
func TestUnloadingGoroutinesEnd(t *testing.T) {
	mustEndGoroutines(t, func() {
		for range 500 {
			mustReturn(t, "ExtraMoves", results(impl.ExtraMoves("123456789999")), 60)
			mustReturn(t, "ExtraBySorting", results(impl.ExtraBySorting("123456789999")), 11)
			mustReturn(t, "AfterStop", results(impl.AfterStop("123456789999", 3)), "456789999", 9)
		}
	})
}

func TestLoadingsAtTheSameTime(t *testing.T) {
	for name, call := range loadCalls() {
		mustAgreeAtTheSameTime(t, name, func() []any { return call(exampleLoad()) })
	}
}

func TestAnyLoadingsAreAccepted(t *testing.T) {
	odd := []int{math.MinInt, -2, -1, 0, 1, 2, 3, 7, 8, 9, 10, 12, 13, 16, 17, 1 << 32, math.MaxInt}
	m := &mixer{state: 64}
	pick := func() int { return odd[m.next(0, len(odd)-1)] }
	text := func(letters string) string {
		written := make([]byte, m.next(0, 6))
		for i := range written {
			written[i] = letters[m.next(0, len(letters)-1)]
		}
		return string(written)
	}
	for range 2000 {
		a := loadArguments{loading: text("1259\x00:\xff"), stop: pick(), places: make([]int, m.next(0, 5)), tour: text("abcABC\x00i\xff"), steps: pick(), boxes: pick()}
		for i := range a.places {
			a.places[i] = pick()
		}
		if m.next(0, 1) == 0 {
			a.loading, a.tour = m.loading(m.next(0, impl.MaxLoaded), 1, 9), m.tour(false)
		}
		for name, call := range loadCalls() {
			if all := call(a); !succeeded(all) {
				mustFail(t, fmt.Sprint(name, " of ", a), all)
			}
		}
	}
}
