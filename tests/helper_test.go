package tests

import (
	"fmt"
	"reflect"
	"runtime"
	"slices"
	"strings"
	"sync"
	"testing"

	"loop.example/g01334/impl"
)

// sentinel marks the spare capacity behind a guarded list.
const sentinel = -777

// guarded returns a copy of a list with spare capacity, and a check that neither the list nor the capacity was written.
func guarded(list []int) ([]int, func(t *testing.T, name string)) {
	return guardedBy(list, sentinel)
}

// guardedBy does so for a list of any kind, with a mark of that kind in the spare capacity.
func guardedBy[T comparable](list []T, mark T) ([]T, func(t *testing.T, name string)) {
	whole := append(slices.Clone(list), mark, mark, mark)
	before := slices.Clone(whole)
	return whole[:len(list)], func(t *testing.T, name string) {
		t.Helper()
		if !slices.Equal(whole, before) {
			t.Errorf("%s changed its argument: %v became %v", name, before, whole)
		}
	}
}

// guardedRows does so for a list of lists, and for each of these.
func guardedRows(rows [][]int) ([][]int, func(t *testing.T, name string)) {
	whole := make([][]int, 0, len(rows)+1)
	var checks []func(t *testing.T, name string)
	for _, row := range append(slices.Clone(rows), []int{sentinel}) {
		list, check := guarded(row)
		whole, checks = append(whole, list), append(checks, check)
	}
	before := slices.Clone(whole)
	return whole[:len(rows)], func(t *testing.T, name string) {
		t.Helper()
		if !reflect.DeepEqual(whole, before) {
			t.Errorf("%s changed its argument: %v became %v", name, before, whole)
		}
		for _, check := range checks {
			check(t, name)
		}
	}
}

// markedBook, markedBox, markedThing, markedItem, markedPiece and markedClue mark memory of books, of boxes, of things, of items, of pieces and of clues, as sentinel does that of numbers.
func markedBook() impl.Book { return impl.Book{Thick: sentinel, Tall: sentinel} }

func markedBox() impl.Box { return impl.Box{Wide: sentinel, Deep: sentinel, High: sentinel} }

func markedThing() impl.Thing {
	return impl.Thing{Weight: sentinel, Bears: sentinel, High: sentinel}
}

func markedItem() impl.Item {
	return impl.Item{Weight: sentinel, Bulk: sentinel, Value: sentinel}
}

func markedPiece() impl.Piece {
	return impl.Piece{Wide: sentinel, High: sentinel, Value: sentinel}
}

func markedClue() impl.Clue {
	return impl.Clue{Kind: sentinel, A: sentinel, B: sentinel, C: sentinel}
}

func overwrite[T any](list []T, mark T) {
	list = list[:cap(list)]
	for i := range list {
		list[i] = mark
	}
}

// spoil overwrites all memory that results give access to, the capacity behind their lengths with it.
func spoil(all []any) {
	for _, result := range all {
		switch list := result.(type) {
		case []int:
			overwrite(list, sentinel)
		case []impl.Book:
			overwrite(list, markedBook())
		case []impl.Box:
			overwrite(list, markedBox())
		case []impl.Thing:
			overwrite(list, markedThing())
		case []impl.Item:
			overwrite(list, markedItem())
		case []impl.Piece:
			overwrite(list, markedPiece())
		case impl.Puzzle:
			overwrite(list.Clues, markedClue())
		case []string:
			overwrite(list, "overwritten")
		case impl.Desk:
			spoil([]any{list.Things, list.Boxes, list.Stack})
		case [][]int:
			for _, inner := range list {
				spoil([]any{inner})
			}
			clear(list)
		}
	}
}

// mustKeep checks that a call changes no argument, shares no memory with one, and returns the same when it is called again.
func mustKeep(t *testing.T, name string, call func() []any, kept ...func(t *testing.T, name string)) {
	t.Helper()
	first := call()
	want := fmt.Sprint(first)
	for _, check := range kept {
		check(t, name)
	}
	spoil(first)
	for _, check := range kept {
		check(t, name+" shares memory and")
	}
	if again := fmt.Sprint(call()); again != want {
		t.Errorf("%s: %s, and %s when called again", name, want, again)
	}
}

// results gathers what a call returns, its last result being whether it succeeded.
func results(all ...any) []any { return all }

func succeeded(all []any) bool { return all[len(all)-1].(bool) }

// isZero reports whether a result is the zero value; an empty slice is the same as nil.
func isZero(result any) bool {
	v := reflect.ValueOf(result)
	return v.IsZero() || v.Kind() == reflect.Slice && v.Len() == 0
}

// mustFail checks that a call failed, with the zero value of every result.
func mustFail(t *testing.T, name string, all []any) {
	t.Helper()
	for _, result := range all {
		if !isZero(result) {
			t.Errorf("%s: want a failure with zero results, got %v", name, all)
			return
		}
	}
}

// isSame reports whether a result is the wanted one; an empty slice is the same as nil.
func isSame(result, want any) bool {
	if reflect.DeepEqual(result, want) {
		return true
	}
	if p, ok := result.(impl.Puzzle); ok {
		q, ok := want.(impl.Puzzle)
		return ok && p.Things == q.Things && slices.Equal(p.Clues, q.Clues)
	}
	v, w := reflect.ValueOf(result), reflect.ValueOf(want)
	return v.Kind() == reflect.Slice && v.Type() == w.Type() && v.Len() == 0 && w.Len() == 0
}

// mustReturn checks that a call succeeded with just these results before the last one.
func mustReturn(t *testing.T, name string, all []any, want ...any) {
	t.Helper()
	if !succeeded(all) || !slices.EqualFunc(all[:len(all)-1], want, isSame) {
		t.Errorf("%s: want %v and true, got %v", name, want, all)
	}
}

// mustReturnApart checks that a call succeeded with just these lists, no two of which share memory.
func mustReturnApart(t *testing.T, name string, lists [][]int, ok bool, want [][]int) {
	t.Helper()
	if !ok || !reflect.DeepEqual(lists, want) {
		t.Fatalf("%s: want %v and true, got %v %v", name, want, lists, ok)
	}
	for i := range lists {
		spoil([]any{lists[i]})
		for k := i + 1; k < len(lists); k++ {
			if !slices.Equal(lists[k], want[k]) {
				t.Errorf("%s: list %d shares memory with list %d", name, i, k)
			}
		}
	}
}

// mustEndGoroutines checks that calls leave no goroutines behind.
func mustEndGoroutines(t *testing.T, calls func()) {
	t.Helper()
	before := runtime.NumGoroutine()
	calls()
	// A goroutine that has told that it is done may need a moment more to end.
	if after := runtime.NumGoroutine(); after > before+100 {
		t.Errorf("%d goroutines before, %d after", before, after)
	}
}

// mustAgreeAtTheSameTime makes a call from many goroutines: all get the same.
func mustAgreeAtTheSameTime(t *testing.T, name string, call func() []any) {
	t.Helper()
	want := call()
	var group sync.WaitGroup
	for range 20 {
		group.Go(func() {
			if got := call(); !reflect.DeepEqual(got, want) {
				t.Errorf("%s: want %v, got %v", name, want, got)
			}
		})
	}
	group.Wait()
}

// eachList calls visit with all lists of n numbers in low..high, in lexicographic order.
func eachList(n, low, high int, visit func(list []int)) {
	list := make([]int, 0, n)
	var grow func()
	grow = func() {
		if len(list) == n {
			visit(slices.Clone(list))
			return
		}
		for x := low; x <= high; x++ {
			list = append(list, x)
			grow()
			list = list[:len(list)-1]
		}
	}
	grow()
}

// listsOfSome returns all lists of some of the numbers below n, none of them as well, each one at most once, in lexicographic order.
func listsOfSome(n int) [][]int {
	all := [][]int{{}}
	var grow func(list []int)
	grow = func(list []int) {
		for k := range n {
			if !slices.Contains(list, k) {
				longer := append(slices.Clone(list), k)
				all = append(all, longer)
				grow(longer)
			}
		}
	}
	grow(nil)
	return all
}

// firstLongest returns the first one of the longest lists with a property.
func firstLongest(lists [][]int, has func(list []int) bool) []int {
	var longest []int
	for _, list := range lists {
		if len(list) > len(longest) && has(list) {
			longest = list
		}
	}
	return longest
}

// eachString calls visit with all strings of at most so many of some bytes.
func eachString(bytes string, most int, visit func(text string)) {
	for n := 0; n <= most; n++ {
		eachList(n, 0, len(bytes)-1, func(list []int) {
			var written strings.Builder
			for _, k := range list {
				written.WriteByte(bytes[k])
			}
			visit(written.String())
		})
	}
}

// mustTellApart checks that a property is told of all good lists and of no bad one.
func mustTellApart[T any](t *testing.T, name string, has func(list []T) bool, good, bad [][]T) {
	t.Helper()
	for _, list := range good {
		if !has(list) {
			t.Errorf("%s is false of %v", name, list)
		}
	}
	for _, list := range bad {
		if has(list) {
			t.Errorf("%s is true of %v", name, list)
		}
	}
}

// mustBeTexts checks that values and their texts are made of each other: those given, and what 300 calls of next return.
func mustBeTexts[V any](t *testing.T, texts map[string]V, next func() V, parse func(s string) (V, bool), textOf func(value V) (string, bool)) {
	t.Helper()
	for text, value := range texts {
		mustReturn(t, fmt.Sprint("the text of ", value), results(textOf(value)), text)
		mustReturn(t, "parsed "+text, results(parse(text)), value)
	}
	for range 300 {
		value := next()
		text, ok := textOf(value)
		if !ok {
			t.Errorf("%v has no text", value)
		}
		mustReturn(t, "parsed "+text, results(parse(text)), value)
	}
}

// mustParseText checks that a string is parsed just if it is a text, to what it tells.
func mustParseText[V any](t *testing.T, s string, isText func(s string) bool, parse func(s string) (V, bool), textOf func(value V) (string, bool)) {
	t.Helper()
	value, ok := parse(s)
	if want := isText(s); ok != want {
		t.Errorf("%q is parsed: %v, want %v", s, ok, want)
	}
	if back, okBack := textOf(value); ok && (!okBack || back != s) {
		t.Errorf("%q is parsed to %v", s, value)
	}
}

// mustParseTexts tries all strings of at most so many of some bytes.
func mustParseTexts[V any](t *testing.T, bytes string, most int, isText func(s string) bool, parse func(s string) (V, bool), textOf func(value V) (string, bool)) {
	t.Helper()
	eachString(bytes, most, func(s string) { mustParseText(t, s, isText, parse, textOf) })
}

// mixer gives the same numbers in every run.
type mixer struct{ state uint64 }

// next returns a number in low..high.
func (m *mixer) next(low, high int) int {
	m.state = m.state*6364136223846793005 + 1442695040888963407
	return low + int((m.state>>33)%uint64(high-low+1))
}

// list returns n numbers in low..high.
func (m *mixer) list(n, low, high int) []int {
	list := make([]int, n)
	for i := range list {
		list[i] = m.next(low, high)
	}
	return list
}
