package valid_test

import (
	"math"
	"testing"

	"saltdome/api"
	"saltdome/valid"
)

func TestArgument(t *testing.T) {
	if valid.Argument(true) != api.OK || valid.Argument(false) != api.ErrArg {
		t.Error(valid.Argument(true), valid.Argument(false))
	}
}

func TestWithin(t *testing.T) {
	for n, want := range map[int]bool{math.MinInt: false, -3: false, -2: true, 0: true, 5: true, 6: false, math.MaxInt: false} {
		if valid.Within(n, -2, 5) != want {
			t.Error(n)
		}
	}
	if valid.Within(1, 2, 0) {
		t.Error("nothing lies from 2 to 0")
	}
}

func TestSpan(t *testing.T) {
	for s, want := range map[api.Span]bool{
		{Low: 0, High: 0}:                     true,
		{Low: 0, High: 9}:                     true,
		{Low: 9, High: 9}:                     true,
		{Low: -1, High: 9}:                    false,
		{Low: 0, High: 10}:                    false,
		{Low: 5, High: 4}:                     false,
		{Low: math.MaxInt, High: math.MinInt}: false,
	} {
		if valid.Span(s, 9) != want {
			t.Error(s)
		}
	}
}

func TestAll(t *testing.T) {
	even := func(n int) bool { return n%2 == 0 }
	if !valid.All(nil, even) || !valid.All([]int{2, 4}, even) || valid.All([]int{2, 4, 5}, even) || valid.All([]int{1, 2}, even) {
		t.Error("not all, or all")
	}
}
