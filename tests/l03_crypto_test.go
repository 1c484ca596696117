package tests

import (
	"math"
	"testing"

	"loop.example/g00599/impl"
)

func TestEqualInts(t *testing.T) {
	cases := []struct {
		a, b []int
		want bool
	}{
		{nil, nil, true}, {nil, []int{}, true}, {[]int{}, nil, true}, {[]int{}, []int{}, true},
		{[]int{0}, []int{0}, true}, {[]int{5, -300, 7}, []int{5, -300, 7}, true},
		{[]int{math.MinInt, math.MaxInt}, []int{math.MinInt, math.MaxInt}, true},
		{nil, []int{0}, false}, {[]int{0}, nil, false},
		{[]int{1}, []int{-1}, false}, {[]int{1}, []int{257}, false}, {[]int{0}, []int{math.MinInt}, false},
		{[]int{1, 2}, []int{1}, false}, {[]int{1}, []int{1, 2}, false}, {[]int{1}, []int{1, 0}, false},
		{[]int{1, 2}, []int{2, 1}, false}, {[]int{1, 2, 3}, []int{1, 2, 4}, false}, {[]int{0, 2, 3}, []int{1, 2, 3}, false},
	}
	for _, c := range cases {
		if got := impl.EqualInts(c.a, c.b); got != c.want {
			t.Errorf("EqualInts(%v, %v) = %t, want %t", c.a, c.b, got, c.want)
		}
	}
}

func TestEqualIntsChangesNothing(t *testing.T) {
	g := guard([]int{5, -1, 300}, 77)
	if impl.EqualInts(g.slice, g.slice[1:]) || !impl.EqualInts(g.slice, g.slice) {
		t.Error("EqualInts of parts of one list")
	}
	if g.changed() {
		t.Error("EqualInts changes its argument")
	}
}
