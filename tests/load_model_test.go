package tests

import (
	"slices"
	"strconv"
	"strings"
)

// The model of chapter 8 follows the document word by word and tries all orders, all places and all tours: it is what the program is compared with.

// afterStopInModel returns the loading behind a stop, and the extra moves at it.
func afterStopInModel(loading string, stop int, sorting bool) (string, int) {
	digit := strconv.Itoa(stop)
	stays, again := "", []string{}
	for i, box := range strings.Split(loading, "") {
		switch {
		case box == digit:
		case box > digit && strings.Contains(loading[:i], digit):
			again = append(again, box)
		default:
			stays += box
		}
	}
	if sorting {
		slices.SortFunc(again, func(a, b string) int { return strings.Compare(b, a) })
	}
	return stays + strings.Join(again, ""), len(again)
}

// extraMovesInModel serves all stops.
func extraMovesInModel(loading string, sorting bool) int {
	all := 0
	for stop := 1; stop <= 9; stop++ {
		after, moves := afterStopInModel(loading, stop, sorting)
		loading, all = after, all+moves
	}
	return all
}

func isFreeInModel(loading string) bool { return extraMovesInModel(loading, false) == 0 }

// partsInModel returns the parts of a loading from its first box up to some box, none or all of them as well.
func partsInModel(loading string) []string {
	parts := []string{""}
	for i := range loading {
		parts = append(parts, loading[:i+1])
	}
	return parts
}

func digitsInModel(loading string) []int {
	digits := make([]int, len(loading))
	for i := range loading {
		digits[i], _ = strconv.Atoi(loading[i : i+1])
	}
	return digits
}

// loadingsInModel returns all different loadings with the same boxes.
func loadingsInModel(loading string) []string {
	var all []string
	for _, order := range ordersInModel(digitsInModel(loading)) {
		written := ""
		for _, digit := range order {
			written += strconv.Itoa(digit)
		}
		all = append(all, written)
	}
	slices.Sort(all)
	return slices.Compact(all)
}

// stopsInModel asks for each stop whether there is a box.
func stopsInModel(loading string) []int {
	var stops []int
	for stop := 1; stop <= 9; stop++ {
		if slices.Contains(digitsInModel(loading), stop) {
			stops = append(stops, stop)
		}
	}
	return stops
}

// isPlacingInModel takes a list of any numbers.
func isPlacingInModel(loading string, places []int) bool {
	if len(places) != len(loading) {
		return false
	}
	next := 0
	for i, place := range places {
		if place < 0 || place > next {
			return false
		}
		if place == next {
			next++
		}
		for below := range i {
			if places[below] == place && loading[below] < loading[i] {
				return false
			}
		}
	}
	return true
}

// placingsInModel returns all lists of places of all boxes.
func placingsInModel(loading string) [][]int {
	placings := [][]int{{}}
	for _, part := range partsInModel(loading)[1:] {
		var longer [][]int
		for _, placing := range placings {
			for place := range part {
				if tried := append(slices.Clone(placing), place); isPlacingInModel(part, tried) {
					longer = append(longer, tried)
				}
			}
		}
		placings = longer
	}
	return placings
}

func numberOfPlaces(places []int) int {
	if len(places) == 0 {
		return 0
	}
	return slices.Max(places) + 1
}

// fewestPlacesInModel tries all placings.
func fewestPlacesInModel(loading string) int {
	fewest := len(loading)
	for _, places := range placingsInModel(loading) {
		fewest = min(fewest, numberOfPlaces(places))
	}
	return fewest
}

// mostApartInModel returns how many boxes there are at most no two of which can be on one place: each one is for a later stop than that before.
func mostApartInModel(loading string) int {
	most := 0
	for _, chosen := range increasingLists(len(loading)) {
		rises := true
		for i := 1; i < len(chosen); i++ {
			rises = rises && loading[chosen[i-1]] < loading[chosen[i]]
		}
		if rises {
			most = max(most, len(chosen))
		}
	}
	return most
}

// firstPlacesInModel tries for each box the place 0, 1, .. until the places so far are right.
func firstPlacesInModel(loading string) []int {
	var places []int
	for _, part := range partsInModel(loading)[1:] {
		place := 0
		for !isPlacingInModel(part, append(slices.Clone(places), place)) {
			place++
		}
		places = append(places, place)
	}
	return places
}

// boxesOfTours are the small letters of tours.
const boxesOfTours = "abcdefgh"

// isTourInModel takes any text.
func isTourInModel(tour string) bool {
	for i := range len(tour) {
		if !strings.Contains(boxesOfTours+strings.ToUpper(boxesOfTours), tour[i:i+1]) {
			return false
		}
	}
	for _, box := range strings.Split(boxesOfTours, "") {
		great := strings.ToUpper(box)
		if strings.Count(tour, box) > 1 || strings.Count(tour, great) > 1 {
			return false
		}
		loaded, unloaded := strings.Index(tour, box), strings.Index(tour, great)
		if unloaded >= 0 && (loaded < 0 || unloaded < loaded) {
			return false
		}
	}
	return len(tour) <= 16
}

// loadedInModel returns the small letters of a tour.
func loadedInModel(tour string) string {
	loaded := ""
	for _, letter := range strings.Split(tour, "") {
		if letter == strings.ToLower(letter) {
			loaded += letter
		}
	}
	return loaded
}

// openInModel returns the boxes that are in the van behind a part of a tour.
func openInModel(part string) string {
	open := ""
	for _, box := range strings.Split(loadedInModel(part), "") {
		if !strings.Contains(part, strings.ToUpper(box)) {
			open += box
		}
	}
	return open
}

// isServedInModel leaves out each box that is unloaded as soon as it is loaded, again and again: nothing is left of a served tour.
func isServedInModel(tour string) bool {
	for range len(tour) {
		for _, box := range strings.Split(boxesOfTours, "") {
			tour = strings.ReplaceAll(tour, box+strings.ToUpper(box), "")
		}
	}
	return tour == ""
}

func fullestInModel(tour string) int {
	fullest := 0
	for _, part := range partsInModel(tour) {
		fullest = max(fullest, len(openInModel(part)))
	}
	return fullest
}

func exchangedInModel(letter string) string {
	if letter == strings.ToLower(letter) {
		return strings.ToUpper(letter)
	}
	return strings.ToLower(letter)
}

func backInModel(tour string) string {
	back := ""
	for _, letter := range strings.Split(tour, "") {
		back = exchangedInModel(letter) + back
	}
	return back
}

func fixedInModel(tour string) string {
	fixed := ""
	for _, box := range strings.Split(loadedInModel(tour), "") {
		fixed += box + strings.ToUpper(box)
	}
	return fixed
}

// eachTour calls visit with all tours of boxes that are told by some small letters.
func eachTour(boxes string, visit func(tour string)) {
	var goOn func(tour string)
	goOn = func(tour string) {
		visit(tour)
		for _, letter := range strings.Split(boxes+strings.ToUpper(boxes), "") {
			if isTourInModel(tour + letter) {
				goOn(tour + letter)
			}
		}
	}
	goOn("")
}

// servedInModel returns all served tours in which each of the first letters, so many, is loaded, in the order of texts.
func servedInModel(boxes int) []string {
	var served []string
	eachTour(boxesOfTours[:boxes], func(tour string) {
		if len(loadedInModel(tour)) == boxes && isServedInModel(tour) {
			served = append(served, tour)
		}
	})
	slices.Sort(served)
	return served
}
