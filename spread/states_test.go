package spread_test

import (
	"slices"
	"testing"

	"tidewall/api"
	"tidewall/spread"
)

func good(unit, time int) spread.Test { return spread.Test{Unit: unit, Time: time, Good: true} }

func bad(unit, time int) spread.Test { return spread.Test{Unit: unit, Time: time} }

// P8.3: the state of a unit by its last test.
func TestLastTest(t *testing.T) {
	const f, d, x = spread.Fine, spread.Doubtful, spread.Failed
	for k, c := range []struct {
		l        []spread.Test
		now, age int
		want     int
	}{
		{nil, 100, 1000000000, d},
		{[]spread.Test{good(0, 50)}, 100, 50, f},
		{[]spread.Test{good(0, 50)}, 100, 49, d},
		{[]spread.Test{good(0, 50)}, 101, 50, d},
		{[]spread.Test{good(0, 100)}, 100, 0, f},
		{[]spread.Test{good(0, 99)}, 100, 0, d},
		{[]spread.Test{bad(0, 50)}, 100, 50, x},
		{[]spread.Test{bad(0, 50)}, 100, 49, x},
		{[]spread.Test{bad(0, 0)}, 1000000000, 0, x},
		{[]spread.Test{good(0, 0)}, 1000000000, 1000000000, f},
		{[]spread.Test{good(0, 0)}, 1000000000, 999999999, d},
		// what comes after now
		{[]spread.Test{good(0, 101)}, 100, 50, d},
		{[]spread.Test{bad(0, 101)}, 100, 50, d},
		{[]spread.Test{good(0, 60), bad(0, 101)}, 100, 50, f},
		{[]spread.Test{bad(0, 60), good(0, 101)}, 100, 50, x},
		{[]spread.Test{good(0, 60), bad(0, 100)}, 100, 50, x},
		{[]spread.Test{bad(0, 60), good(0, 100)}, 100, 50, f},
		// the greatest time, wherever it stands
		{[]spread.Test{good(0, 60), bad(0, 61)}, 100, 50, x},
		{[]spread.Test{bad(0, 61), good(0, 60)}, 100, 50, x},
		{[]spread.Test{good(0, 61), bad(0, 60)}, 100, 50, f},
		{[]spread.Test{bad(0, 60), good(0, 61)}, 100, 50, f},
		{[]spread.Test{bad(0, 90), good(0, 60), good(0, 70)}, 100, 50, x},
		{[]spread.Test{good(0, 40), bad(0, 30)}, 100, 50, d},
		// of equal times the last one of the list
		{[]spread.Test{good(0, 60), bad(0, 60)}, 100, 50, x},
		{[]spread.Test{bad(0, 60), good(0, 60)}, 100, 50, f},
		{[]spread.Test{bad(0, 60), good(0, 60), good(0, 59)}, 100, 50, f},
		{[]spread.Test{good(0, 0), bad(0, 0)}, 0, 0, x},
		{[]spread.Test{bad(0, 0), good(0, 0)}, 0, 0, f},
		// another unit
		{[]spread.Test{good(1, 60), bad(1, 70)}, 100, 50, d},
		{[]spread.Test{good(0, 60), bad(1, 70)}, 100, 50, f},
	} {
		states, e := spread.States(network(1, 2), c.l, c.now, c.age)
		if e != api.OK || len(states) != 2 || states[0] != c.want {
			t.Error(k, c, states, e)
		}
	}
}

// P8.3: states by definition.
func TestStatesByDefinition(t *testing.T) {
	r := dice(2)
	seen := map[int]int{}
	for k := range 5000 {
		n := randomNet(r, 3, 5, 3, 9)
		var l []spread.Test
		for range r.IntN(16) {
			if n.Units > 0 {
				l = append(l, spread.Test{Unit: r.IntN(n.Units), Time: r.IntN(12), Good: r.IntN(3) > 0})
			}
		}
		now, age := r.IntN(12), r.IntN(8)
		want := statesBy(n.Units, l, now, age)
		expectStates(t, k, n, l, now, age, want...)
		for _, state := range want {
			seen[state]++
		}
	}
	if len(seen) != 3 || seen[1] < 1000 || seen[2] < 1000 || seen[3] < 1000 {
		t.Error("few cases:", seen)
	}
}

// P8.3, R7: how many tests there can be; too many of them come before those that are wrong.
func TestManyTests(t *testing.T) {
	n := network(1, 20)
	l := slices.Repeat([]spread.Test{good(19, 7)}, 1023)
	want := slices.Repeat([]int{spread.Doubtful}, 20)
	want[19] = spread.Failed
	expectStates(t, 1024, n, append(l, bad(19, 7)), 7, 0, want...)
	for _, length := range []int{1025, 5000} {
		for _, x := range []spread.Test{good(0, 0), bad(-1, -1)} {
			if out, e := spread.States(n, slices.Repeat([]spread.Test{x}, length), 7, 0); e != api.ErrMany || len(out) != 0 {
				t.Error(length, out, e)
			}
		}
	}
	expectStates(t, "no units", network(5, 0), nil, 0, 0)
	if out, e := spread.States(network(5, 0), l, 0, 0); e != api.ErrNone || len(out) != 0 {
		t.Error(out, e)
	}
}

// P8.3, R1: the first test with an error decides, and of its errors the one named first; then now and age.
func TestWrongTests(t *testing.T) {
	wrong := map[spread.Test]api.Errno{}
	for _, unit := range badNumbers(0, 2) {
		wrong[good(unit, 5)] = api.ErrNone
		wrong[bad(unit, -1)] = api.ErrNone
	}
	for _, time := range badNumbers(0, 1000000000) {
		wrong[good(2, time)] = api.ErrRange
		wrong[bad(0, time)] = api.ErrRange
	}
	expect := func(l []spread.Test, now, age int, want api.Errno) {
		t.Helper()
		if out, e := spread.States(exampleN(), l, now, age); e != want || e != api.OK && len(out) != 0 {
			t.Error(l, now, age, out, e, want)
		}
	}
	for x, e := range wrong {
		expect([]spread.Test{x}, 100, 40, e)
		expect([]spread.Test{good(0, 0), x}, 100, 40, e)
		expect([]spread.Test{x, good(0, 0)}, -1, -1, e)
		for y := range wrong {
			expect([]spread.Test{good(0, 1000000000), x, y}, 100, -1, e)
		}
	}
	for _, time := range badNumbers(0, 1000000000) {
		expect(nil, time, 40, api.ErrRange)
		expect([]spread.Test{good(0, 0)}, 40, time, api.ErrRange)
		expect(nil, time, time, api.ErrRange)
	}
	expect([]spread.Test{good(0, 1000000000)}, 1000000000, 1000000000, api.OK)
	expect([]spread.Test{good(0, 0)}, 0, 0, api.OK)
}
