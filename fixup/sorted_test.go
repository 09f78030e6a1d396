package fixup

import (
	"math"
	"slices"
	"testing"

	"hansom/api"
)

// at is fixups at places, each with the number by which it stands there.
func at(places ...int) []api.Fixup {
	l := make([]api.Fixup, len(places))
	for i, place := range places {
		l[i] = api.Fixup{At: place, N: i}
	}
	return l
}

// pick is some of a list, by their numbers.
func pick(l []api.Fixup, numbers ...int) []api.Fixup {
	picked := make([]api.Fixup, len(numbers))
	for i, n := range numbers {
		picked[i] = l[n]
	}
	return picked
}

func TestSorted(t *testing.T) {
	wantSorted(t, nil, nil)
	wantSorted(t, []api.Fixup{}, nil)
	for _, c := range []struct {
		places []int
		want   []int
	}{
		{[]int{7}, []int{0}},
		{[]int{1, 2}, []int{0, 1}},
		{[]int{2, 1}, []int{1, 0}},
		{[]int{5, 5}, []int{0, 1}},
		{[]int{3, 1, 2}, []int{1, 2, 0}},
		{[]int{3, 1, 3, 1, 3}, []int{1, 3, 0, 2, 4}},
		{[]int{0, 1023, 512, 1023, 0}, []int{0, 4, 2, 1, 3}},
		{[]int{9, 8, 7, 6, 5, 4, 3, 2, 1, 0}, []int{9, 8, 7, 6, 5, 4, 3, 2, 1, 0}},
		// Also those that may not be.
		{[]int{1024, -1, 0, 65536, -65536}, []int{4, 1, 2, 0, 3}},
		{[]int{math.MaxInt, math.MinInt, 0, math.MaxInt - 1, math.MinInt + 1, -1}, []int{1, 4, 5, 2, 3, 0}},
		{[]int{math.MinInt, math.MaxInt, math.MinInt, 1 << 32, 0}, []int{0, 2, 4, 3, 1}},
	} {
		l := at(c.places...)
		wantSorted(t, l, pick(l, c.want...))
	}
}

// TestSortedByPlacesAlone has fixups of one place, of which all else falls.
func TestSortedByPlacesAlone(t *testing.T) {
	l := []api.Fixup{
		{At: 4, Loc: 4, Self: true, Frame: 5, FrameN: 9, Target: 2, N: 9, Disp: 9},
		{At: 4, Loc: 3, Self: true, Frame: 4, FrameN: 8, Target: 1, N: 8, Disp: 8},
		{At: 4, Loc: 2, Frame: 2, FrameN: 7, Target: 0, N: 7, Disp: 7},
		{At: 4, Loc: 1, Frame: 1, FrameN: 6, Target: -1, N: 6},
		{At: 4},
		{At: 4, Loc: -1, N: -1},
	}
	wantSorted(t, l, l)
	more := append([]api.Fixup{{At: 5, N: 1}}, l...)
	more = append(more, api.Fixup{At: 3, N: 9}, api.Fixup{At: 5})
	wantSorted(t, more, slices.Concat(more[7:8], l, more[:1], more[8:]))
	// Those that are alike stay as many.
	wantSorted(t, []api.Fixup{plain, plain, plain}, []api.Fixup{plain, plain, plain})
}

// sortedModel goes over all places.
func sortedModel(l []api.Fixup, most int) []api.Fixup {
	var sorted []api.Fixup
	for place := range most {
		for _, f := range l {
			if f.At == place {
				sorted = append(sorted, f)
			}
		}
	}
	return sorted
}

func TestSortedBesideTheModel(t *testing.T) {
	d := drawer(83)
	for range 3000 {
		most := 1 + d.below(40)
		l := make([]api.Fixup, d.below(60))
		for i := range l {
			l[i] = d.any()
			l[i].At, l[i].Disp = d.below(most), uint16(i)
		}
		wantSorted(t, l, sortedModel(l, most))
	}
	for _, most := range []int{1, 2, 1024} {
		l := make([]api.Fixup, 4000)
		for i := range l {
			l[i] = api.Fixup{At: d.below(most), N: i}
		}
		wantSorted(t, l, sortedModel(l, most))
	}
}
