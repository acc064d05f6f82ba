package tests

import (
	"fmt"
	"math"
	"testing"

	"loop.example/g01334/impl"
)

// Promise 11 for chapter 1: every function accepts all arguments, modifies none of them and shares no memory with them.

func badThings() [][]int {
	return [][]int{
		nil, {}, {0}, {-1}, {101}, {5, 0, 5}, {5, -5}, {5, 101}, {101, 5},
		{math.MinInt}, {math.MaxInt}, {math.MaxInt, math.MaxInt}, {math.MinInt, math.MinInt},
		repeated(1, impl.MaxThings+1), repeated(1, 1000), append(repeated(1, 8), 0),
	}
}

func badRooms() []int {
	return []int{0, -1, -10, impl.MaxRoom + 1, math.MinInt, math.MaxInt}
}

// badPlans are no plans of 4, 7, 3 and 6 with a room of 10.
func badPlans() [][]int {
	return [][]int{
		nil, {}, {0}, {0, 1, 1}, {0, 1, 1, 0, 0}, {0, 1, 1, 0, 2}, repeated(0, 1000),
		{1, 0, 0, 1}, {0, 2, 1, 0}, {0, 2, 2, 0}, {0, 1, 3, 2}, {0, 1, 1, 3}, {1, 2, 3, 4},
		{0, 0, 1, 1}, {0, 1, 1, 1}, {0, 0, 0, 0}, {0, 1, 2, 1},
		{-1, 0, 0, -1}, {0, 1, 1, -1}, {0, 1, 1, math.MinInt}, {0, 1, 1, math.MaxInt}, {math.MinInt, 1, 1, 0},
	}
}

// roomCalls are all functions of things and a room that holds the greatest one of them; ExactFill, whose room need not, is none.
func roomCalls() map[string]func(things []int, room int) []any {
	calls := map[string]func(things []int, room int) []any{
		"FewestBoxes":   func(things []int, room int) []any { return results(impl.FewestBoxes(things, room)) },
		"FirstPacking":  func(things []int, room int) []any { return results(impl.FirstPacking(things, room)) },
		"CountPackings": func(things []int, room int) []any { return results(impl.CountPackings(things, room)) },
		"BoxesBound":    func(things []int, room int) []any { return results(impl.BoxesBound(things, room)) },
		"WorstOrder":    func(things []int, room int) []any { return results(impl.WorstOrder(things, room)) },
		"BestOrder":     func(things []int, room int) []any { return results(impl.BestOrder(things, room)) },
	}
	for _, rule := range packRules() {
		calls[rule.name] = func(things []int, room int) []any { return results(rule.pack(things, room)) }
	}
	return calls
}

func planCalls() map[string]func(things []int, room int, plan []int) []any {
	return map[string]func(things []int, room int, plan []int) []any{
		"IsPacking": func(things []int, room int, plan []int) []any { return results(impl.IsPacking(things, room, plan)) },
		"LoadsOf":   func(things []int, room int, plan []int) []any { return results(impl.LoadsOf(things, room, plan)) },
		"BoxesOf":   func(things []int, room int, plan []int) []any { return results(impl.BoxesOf(things, room, plan)) },
		"RoomLeft":  func(things []int, room int, plan []int) []any { return results(impl.RoomLeft(things, room, plan)) },
	}
}

func TestRoomsAndThingsAreRequired(t *testing.T) {
	for name, call := range roomCalls() {
		for _, things := range badThings() {
			mustFail(t, fmt.Sprint(name, " of ", things), call(things, 1000))
			mustFail(t, fmt.Sprint(name, " of ", things, " in nothing"), call(things, 0))
		}
		for _, room := range badRooms() {
			mustFail(t, fmt.Sprint(name, " in ", room), call([]int{4, 7, 3, 6}, room))
		}
		mustFail(t, name+" in less than the greatest thing", call([]int{4, 7, 3, 6}, 6))
		if !succeeded(call([]int{4, 7, 3, 6}, 7)) || !succeeded(call([]int{1}, 1)) || !succeeded(call([]int{1}, impl.MaxRoom)) {
			t.Errorf("%s fails where the room is met exactly", name)
		}
	}
}

func TestExactFillNeedsNoRoomForAll(t *testing.T) {
	for _, things := range badThings() {
		mustFail(t, fmt.Sprint("ExactFill of ", things), results(impl.ExactFill(things, 5)))
	}
	for _, room := range badRooms() {
		mustFail(t, fmt.Sprint("ExactFill in ", room), results(impl.ExactFill([]int{4, 7, 3, 6}, room)))
	}
	mustReturn(t, "ExactFill of less than the greatest thing", results(impl.ExactFill([]int{4, 7, 3, 6}, 6)), []int{3})
}

func TestPlansAreRequired(t *testing.T) {
	plan := []int{0, 1, 1, 0}
	for name, call := range planCalls() {
		for _, things := range badThings() {
			mustFail(t, fmt.Sprint(name, " of ", things), call(things, 10, repeated(0, len(things))))
		}
		for _, room := range append(badRooms(), 6) {
			mustFail(t, fmt.Sprint(name, " in ", room), call([]int{4, 7, 3, 6}, room, plan))
			mustFail(t, fmt.Sprint(name, " apart in ", room), call([]int{4, 7, 3, 6}, room, []int{0, 1, 2, 3}))
		}
		for _, bad := range badPlans() {
			if name != "IsPacking" {
				mustFail(t, fmt.Sprint(name, " by ", bad), call([]int{4, 7, 3, 6}, 10, bad))
			}
		}
	}
}

// boxCalls are all functions of chapter 1 with lists as arguments, by which they are called with a room and a plan.
func boxCalls() map[string]func(things []int, room int, plan []int) []any {
	calls := planCalls()
	for name, call := range roomCalls() {
		calls[name] = func(things []int, room int, plan []int) []any { return call(things, room) }
	}
	calls["AreThings"] = func(things []int, room int, plan []int) []any { return results(impl.AreThings(things)) }
	calls["LeastRoom"] = func(things []int, room int, plan []int) []any { return results(impl.LeastRoom(things, 2)) }
	calls["ExactFill"] = func(things []int, room int, plan []int) []any { return results(impl.ExactFill(things, room)) }
	calls["ThingsText"] = func(things []int, room int, plan []int) []any { return results(impl.ThingsText(things)) }
	return calls
}

func TestBoxArgumentsAreKept(t *testing.T) {
	inputs := []struct {
		things []int
		room   int
		plan   []int
	}{
		{[]int{4, 7, 3, 6}, 10, []int{0, 1, 1, 0}},
		{[]int{7, 6, 4, 3}, 10, []int{0, 1, 1, 0}},
		{[]int{5}, 5, []int{0}},
		{repeated(1, 7), 3, []int{0, 0, 0, 1, 1, 1, 2}},
		{[]int{4, 0, 3}, 10, []int{0, 1, 2}},
		{repeated(2, 10), 10, repeated(0, 10)},
		{[]int{4, 7, 3, 6}, 10, []int{3, 1, 1, 0}},
	}
	for name, call := range boxCalls() {
		for _, in := range inputs {
			things, thingsKept := guarded(in.things)
			plan, planKept := guarded(in.plan)
			mustKeep(t, fmt.Sprint(name, " of ", in.things), func() []any { return call(things, in.room, plan) }, thingsKept, planKept)
		}
	}
}

func TestBoxesShareNoMemory(t *testing.T) {
	boxes, ok := impl.BoxesOf(repeated(1, 9), 3, []int{0, 0, 1, 1, 1, 0, 2, 3, 2})
	mustReturnApart(t, "BoxesOf", boxes, ok, [][]int{{0, 1, 5}, {2, 3, 4}, {6, 8}, {7}})
}

func TestParsedThingsAreNew(t *testing.T) {
	first, _ := impl.ParseThings("4-7-3-6")
	spoil([]any{first})
	mustReturn(t, "ParseThings again", results(impl.ParseThings("4-7-3-6")), []int{4, 7, 3, 6})
}

func TestAnyNumbersAreAccepted(t *testing.T) {
	odd := []int{math.MinInt, -1, 0, 1, 2, 9, 10, 100, 101, 1000, 1001, math.MaxInt}
	m := &mixer{state: 6}
	pick := func() []int {
		list := m.list(m.next(0, 11), 0, len(odd)-1)
		for i, k := range list {
			list[i] = odd[k]
		}
		return list
	}
	for range 300 {
		things, plan, room := pick(), pick(), odd[m.next(0, len(odd)-1)]
		for name, call := range boxCalls() {
			if all := call(things, room, plan); !succeeded(all) {
				mustFail(t, fmt.Sprint(name, " of ", things, room, plan), all)
			}
		}
		if all := results(impl.LeastRoom(things, room)); !succeeded(all) {
			mustFail(t, fmt.Sprint("LeastRoom of ", things, room), all)
		}
	}
}
