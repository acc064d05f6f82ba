package impl

import (
	"slices"
	"sort"
	"strconv"
	"strings"
)

const MaxThings = 9
const MaxSize = 100
const MaxRoom = 1000
const MaxOrdered = 7

// carton is a box while it is filled: its number in the plan, and its load.
type carton struct {
	number int
	load   int
}

// packing is a plan in the making. The embedded carton is the empty one that
// would be opened next, so that a rule has a box to name where none has room.
type packing struct {
	carton
	room   int
	opened []carton
	plan   []int
}

// boxRule names the box into which a packing puts a thing of a size.
type boxRule func(p *packing, size int) carton

func newPacking(things []int, room int) packing {
	return packing{
		room:   room,
		opened: make([]carton, 0, len(things)),
		plan:   make([]int, 0, len(things)),
	}
}

// cartonAt returns the opened carton with a number, or the one that is opened next.
func (p *packing) cartonAt(number int) carton {
	if number < len(p.opened) {
		return p.opened[number]
	}
	return p.carton
}

func (p *packing) fits(c carton, size int) bool {
	return c.load+size <= p.room
}

func (p *packing) put(c carton, size int) {
	if c == p.carton {
		p.opened = append(p.opened, c)
		p.carton.number++
	}
	p.opened[c.number].load += size
	p.plan = append(p.plan, c.number)
}

// takeBack undoes the latest put, so that a search can go on with another box.
func (p *packing) takeBack(size int) {
	last := len(p.plan) - 1
	number := p.plan[last]
	p.plan = p.plan[:last]
	p.opened[number].load -= size
	if empty := (carton{number: number}); p.opened[number] == empty {
		p.opened = p.opened[:number]
		p.carton = empty
	}
}

func (p *packing) lastFitting(size int) carton {
	if n := len(p.opened); n > 0 && p.fits(p.opened[n-1], size) {
		return p.opened[n-1]
	}
	return p.carton
}

func (p *packing) firstFitting(size int) carton {
	for _, c := range p.opened {
		if p.fits(c, size) {
			return c
		}
	}
	return p.carton
}

func (p *packing) fullestFitting(size int) carton {
	best := p.carton
	for _, c := range p.opened {
		if p.fits(c, size) && c.load > best.load {
			best = c
		}
	}
	return best
}

func (p *packing) emptiestFitting(size int) carton {
	best := p.carton
	for _, c := range p.opened {
		if p.fits(c, size) && (best == p.carton || c.load < best.load) {
			best = c
		}
	}
	return best
}

// packByRule requires a room that holds each thing.
func packByRule(things []int, room int, rule boxRule) packing {
	p := newPacking(things, room)
	for _, size := range things {
		p.put(rule(&p, size), size)
	}
	return p
}

func planByRule(things []int, room int, rule boxRule) ([]int, bool) {
	if !canBePacked(things, room) {
		return nil, false
	}
	return packByRule(things, room, rule).plan, true
}

// packByPlan follows a list of any numbers, and fails if it is no plan.
func packByPlan(things []int, room int, plan []int) (packing, bool) {
	if !canBePacked(things, room) || len(plan) != len(things) {
		return packing{}, false
	}
	p := newPacking(things, room)
	for i, number := range plan {
		if number < 0 || number > len(p.opened) || !p.fits(p.cartonAt(number), things[i]) {
			return packing{}, false
		}
		p.put(p.cartonAt(number), things[i])
	}
	return p, true
}

func isRoom(room int) bool {
	return room >= 1 && room <= MaxRoom
}

// canBePacked reports whether things and a room are valid, and the room holds the greatest thing.
func canBePacked(things []int, room int) bool {
	return AreThings(things) && isRoom(room) && slices.Max(things) <= room
}

// numbersBelow returns 0, 1, .. up to the one before n.
func numbersBelow(n int) []int {
	numbers := make([]int, n)
	for i := range numbers {
		numbers[i] = i
	}
	return numbers
}

func sumOf(sizes []int) int {
	sum := 0
	for _, size := range sizes {
		sum += size
	}
	return sum
}

// sumBy returns the sum of what sizeOf tells of each element.
func sumBy[T any](list []T, sizeOf func(element T) int) int {
	sum := 0
	for _, element := range list {
		sum += sizeOf(element)
	}
	return sum
}

// AreThings reports whether a list of any numbers are things.
func AreThings(things []int) bool {
	if len(things) < 1 || len(things) > MaxThings {
		return false
	}
	for _, size := range things {
		if size < 1 || size > MaxSize {
			return false
		}
	}
	return true
}

// NextFit returns the plan by the rule that a thing goes into the last box, if it fits in, otherwise into a new one.
func NextFit(things []int, room int) ([]int, bool) {
	return planByRule(things, room, (*packing).lastFitting)
}

// FirstFit returns that by which it goes into the first box into which it fits.
func FirstFit(things []int, room int) ([]int, bool) {
	return planByRule(things, room, (*packing).firstFitting)
}

// BestFit returns that by which it goes into the box with the greatest load of those into which it fits, the first one of several.
func BestFit(things []int, room int) ([]int, bool) {
	return planByRule(things, room, (*packing).fullestFitting)
}

// WorstFit returns that by which it goes into the box with the least load of those into which it fits, the first one of several.
func WorstFit(things []int, room int) ([]int, bool) {
	return planByRule(things, room, (*packing).emptiestFitting)
}

// GreatestFirst returns the plan of FirstFit if things come greatest first, of equal ones lesser indices first, boxes being told as in a plan then.
func GreatestFirst(things []int, room int) ([]int, bool) {
	if !canBePacked(things, room) {
		return nil, false
	}
	order := greatestFirst(things)
	sizes := make([]int, len(things))
	for i, k := range order {
		sizes[i] = things[k]
	}
	packed := packByRule(sizes, room, (*packing).firstFitting)
	plan := make([]int, len(things))
	for i, k := range order {
		plan[k] = packed.plan[i]
	}
	return renumbered(plan), true
}

// greatestFirst returns the indices of sizes in falling order of these.
func greatestFirst(sizes []int) []int {
	order := numbersBelow(len(sizes))
	slices.SortStableFunc(order, func(i, j int) int { return sizes[j] - sizes[i] })
	return order
}

// renumbered tells boxes as 0, 1, .. in the order of their first things.
func renumbered(boxes []int) []int {
	var firsts []int
	plan := make([]int, len(boxes))
	for i, box := range boxes {
		if !slices.Contains(firsts, box) {
			firsts = append(firsts, box)
		}
		plan[i] = slices.Index(firsts, box)
	}
	return plan
}

// IsPacking reports whether a list of any numbers is a plan.
func IsPacking(things []int, room int, plan []int) (bool, bool) {
	if !canBePacked(things, room) {
		return false, false
	}
	_, ok := packByPlan(things, room, plan)
	return ok, true
}

// LoadsOf returns the loads of all boxes of a plan.
func LoadsOf(things []int, room int, plan []int) ([]int, bool) {
	p, ok := packByPlan(things, room, plan)
	if !ok {
		return nil, false
	}
	loads := make([]int, len(p.opened))
	for i, c := range p.opened {
		loads[i] = c.load
	}
	return loads, true
}

// BoxesOf returns the things in each box of a plan, increasing.
func BoxesOf(things []int, room int, plan []int) ([][]int, bool) {
	p, ok := packByPlan(things, room, plan)
	if !ok {
		return nil, false
	}
	boxes := make([][]int, len(p.opened))
	for i, number := range plan {
		boxes[number] = append(boxes[number], i)
	}
	return boxes, true
}

// fewestSearch walks through plans in their order and keeps what is known of those with the fewest boxes.
type fewestSearch struct {
	packing
	things []int
	fewest int
	first  []int
	count  int
}

// searchFewest requires a room that holds each thing.
func searchFewest(things []int, room int) fewestSearch {
	// FirstFit gives a number of boxes that is enough: it cuts the search short.
	enough := packByRule(things, room, (*packing).firstFitting)
	s := fewestSearch{
		packing: newPacking(things, room),
		things:  things,
		fewest:  len(enough.opened),
	}
	s.walk()
	return s
}

func (s *fewestSearch) walk() {
	if len(s.opened) > s.fewest {
		return
	}
	k := len(s.plan)
	if k == len(s.things) {
		s.keep()
		return
	}
	size := s.things[k]
	for number := 0; number <= len(s.opened); number++ {
		if c := s.cartonAt(number); s.fits(c, size) {
			s.put(c, size)
			s.walk()
			s.takeBack(size)
		}
	}
}

func (s *fewestSearch) keep() {
	if s.first == nil || len(s.opened) < s.fewest {
		s.fewest, s.first, s.count = len(s.opened), slices.Clone(s.plan), 0
	}
	s.count++
}

// FewestBoxes returns the least number of boxes of a plan.
func FewestBoxes(things []int, room int) (int, bool) {
	if !canBePacked(things, room) {
		return 0, false
	}
	return searchFewest(things, room).fewest, true
}

// FirstPacking returns the first plan with so few.
func FirstPacking(things []int, room int) ([]int, bool) {
	if !canBePacked(things, room) {
		return nil, false
	}
	return searchFewest(things, room).first, true
}

// CountPackings returns how many plans have so few.
func CountPackings(things []int, room int) (int, bool) {
	if !canBePacked(things, room) {
		return 0, false
	}
	return searchFewest(things, room).count, true
}

// BoxesBound returns the sum of all sizes divided by room, rounded up: no plan has fewer boxes.
func BoxesBound(things []int, room int) (int, bool) {
	if !canBePacked(things, room) {
		return 0, false
	}
	return (sumOf(things) + room - 1) / room, true
}

// RoomLeft returns how much more all boxes of a plan could hold together.
func RoomLeft(things []int, room int, plan []int) (int, bool) {
	p, ok := packByPlan(things, room, plan)
	if !ok {
		return 0, false
	}
	return len(p.opened)*room - sumOf(things), true
}

// LeastRoom returns the least room with which there is a plan of at most so many boxes, 1..MaxThings.
func LeastRoom(things []int, boxes int) (int, bool) {
	if !AreThings(things) || boxes < 1 || boxes > MaxThings {
		return 0, false
	}
	greatest := slices.Max(things)
	// More room never needs more boxes, and a room for all things needs one box.
	more := sort.Search(sumOf(things)-greatest, func(more int) bool {
		return searchFewest(things, greatest+more).fewest <= boxes
	})
	return greatest + more, true
}

// WorstOrder returns the lexicographically first order, as sizes, of at most MaxOrdered things in which FirstFit needs the most boxes, and how many.
func WorstOrder(things []int, room int) ([]int, int, bool) {
	return extremeOrder(things, room, func(boxes, best int) bool { return boxes > best })
}

// BestOrder returns that in which it needs the fewest boxes.
func BestOrder(things []int, room int) ([]int, int, bool) {
	return extremeOrder(things, room, func(boxes, best int) bool { return boxes < best })
}

// extremeOrder returns the first order for which FirstFit needs a number of boxes that none is better than.
func extremeOrder(things []int, room int, better func(boxes, best int) bool) ([]int, int, bool) {
	if !canBePacked(things, room) || len(things) > MaxOrdered {
		return nil, 0, false
	}
	var best []int
	bestBoxes := 0
	order := slices.Clone(things)
	slices.Sort(order)
	for more := true; more; more = nextOrder(order) {
		boxes := len(packByRule(order, room, (*packing).firstFitting).opened)
		if best == nil || better(boxes, bestBoxes) {
			best, bestBoxes = slices.Clone(order), boxes
		}
	}
	return best, bestBoxes, true
}

// nextOrder changes sizes into the next order of them, and reports whether there was one.
// Equal sizes are not exchanged: they would give the same order again.
func nextOrder(sizes []int) bool {
	i := len(sizes) - 2
	for i >= 0 && sizes[i] >= sizes[i+1] {
		i--
	}
	if i < 0 {
		return false
	}
	j := len(sizes) - 1
	for sizes[j] <= sizes[i] {
		j--
	}
	sizes[i], sizes[j] = sizes[j], sizes[i]
	slices.Reverse(sizes[i+1:])
	return true
}

// ExactFill returns the lexicographically first increasing list of things, at least one, whose sizes are just room together, whether it holds the greatest thing or not.
// It fails if there is none.
func ExactFill(things []int, room int) ([]int, bool) {
	if !AreThings(things) || !isRoom(room) {
		return nil, false
	}
	return fillFrom(things, 0, room)
}

// fillFrom returns the first list of things, told by next or more, that fills room.
func fillFrom(things []int, next int, room int) ([]int, bool) {
	if room == 0 {
		return nil, true
	}
	for k := next; k < len(things); k++ {
		if things[k] > room {
			continue
		}
		if rest, ok := fillFrom(things, k+1, room-things[k]); ok {
			return append([]int{k}, rest...), true
		}
	}
	return nil, false
}

// joinNumbers returns numbers in decimal with a separator between them.
func joinNumbers(numbers []int, separator string) string {
	words := make([]string, len(numbers))
	for i, number := range numbers {
		words[i] = strconv.Itoa(number)
	}
	return strings.Join(words, separator)
}

// splitNumbers returns the numbers between separators. It fails if there are more than so many, or if one is none.
// Atoi also takes signs and superfluous zeros, which no text has: the caller compares the text of what it makes of the numbers.
func splitNumbers(s string, separator string, most int) ([]int, bool) {
	words := strings.SplitN(s, separator, most)
	numbers := make([]int, len(words))
	for i, word := range words {
		number, err := strconv.Atoi(word)
		if err != nil {
			return nil, false
		}
		numbers[i] = number
	}
	return numbers, true
}

// parseNumbers returns the numbers, at most so many, of which s is the text. It fails if there are none.
func parseNumbers(s string, separator string, most int, textOf func(numbers []int) (string, bool)) ([]int, bool) {
	numbers, ok := splitNumbers(s, separator, most)
	if !ok {
		return nil, false
	}
	if text, ok := textOf(numbers); !ok || text != s {
		return nil, false
	}
	return numbers, true
}

// joinRows returns rows of numbers with a separator between the numbers of a row, and with , between rows.
func joinRows(rows [][]int, separator string) string {
	words := make([]string, len(rows))
	for i, row := range rows {
		words[i] = joinNumbers(row, separator)
	}
	return strings.Join(words, ",")
}

// splitRows returns the rows of so many numbers with , between them. It fails as splitNumbers does, and leaves as much to the caller.
func splitRows(s string, separator string, most int, numbers int) ([][]int, bool) {
	words := strings.SplitN(s, ",", most)
	rows := make([][]int, len(words))
	for i, word := range words {
		row, ok := splitNumbers(word, separator, numbers)
		if !ok || len(row) != numbers {
			return nil, false
		}
		rows[i] = row
	}
	return rows, true
}

// parseRows returns the values, at most so many, of which s is the text, each one being told by a row of so many numbers.
// It fails if there are none.
func parseRows[T any](s string, separator string, most int, numbers int, valueOf func(row []int) T, textOf func(values []T) (string, bool)) ([]T, bool) {
	rows, ok := splitRows(s, separator, most, numbers)
	if !ok {
		return nil, false
	}
	return valuesOfText(s, rows, valueOf, textOf)
}

// valuesOfText returns the values told by rows. It fails if s is not the text of them.
func valuesOfText[T any](s string, rows [][]int, valueOf func(row []int) T, textOf func(values []T) (string, bool)) ([]T, bool) {
	values := make([]T, len(rows))
	for i, row := range rows {
		values[i] = valueOf(row)
	}
	if text, ok := textOf(values); !ok || text != s {
		return nil, false
	}
	return values, true
}

// ThingsText returns the sizes with - between them.
func ThingsText(things []int) (string, bool) {
	if !AreThings(things) {
		return "", false
	}
	return joinNumbers(things, "-"), true
}

// ParseThings returns the things with a ThingsText. It fails if there are none.
func ParseThings(s string) ([]int, bool) {
	return parseNumbers(s, "-", MaxThings, ThingsText)
}
