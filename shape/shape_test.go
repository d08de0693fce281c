package shape_test

import (
	"iter"
	"math"
	"slices"
	"testing"

	"athanor/api"
	"athanor/shape"
)

// The limits, as the document gives them.
const (
	mostDims  = 4
	mostSide  = 1024
	mostWords = 65536
)

// numbers are the integers around each place where a condition changes its answer, and the ends of int.
func numbers() []int {
	return []int{math.MinInt, -mostSide, -2, -1, 0, 1, 2, 3, 64, 65, mostSide - 1, mostSide, mostSide + 1, math.MaxInt}
}

// shapes are all lists of at most two of these numbers, and lists of up to six of the small ones, most of them not valid.
func shapes() []shape.Shape {
	l := []shape.Shape{nil, {}}
	for _, a := range numbers() {
		l = append(l, shape.Shape{a})
		for _, b := range numbers() {
			l = append(l, shape.Shape{a, b})
		}
	}
	for _, a := range []int{-1, 0, 1, 2, 3, 64} {
		for _, b := range []int{1, 2, 3, 1025} {
			for _, c := range []int{0, 1, 3, 1024} {
				l = append(l, shape.Shape{a, b, c}, shape.Shape{c, b, a, 2}, shape.Shape{a, 1, b, 1, c}, shape.Shape{c, 1, 1, 1, a, b})
			}
		}
	}
	return append(l, validShapes()...)
}

// validShapes are of each number of sides, with sides that tell the dimensions apart, and with sides of 1 at each end.
func validShapes() []shape.Shape {
	return []shape.Shape{
		{1}, {2}, {7}, {1023}, {1024}, {1, 1}, {2, 3}, {3, 2}, {1, 5}, {5, 1}, {64, 1024}, {1024, 64}, {256, 256},
		{1, 1, 1}, {2, 3, 4}, {4, 3, 2}, {1, 3, 1}, {3, 1, 2}, {16, 16, 256}, {1, 64, 1024},
		{1, 1, 1, 1}, {2, 3, 4, 5}, {5, 4, 3, 2}, {1, 2, 1, 3}, {2, 1, 3, 1}, {16, 16, 16, 16}, {1, 1, 64, 1024}, {1024, 1, 1, 64},
	}
}

// valid is what the chapter says of a valid shape, and its size, which is 0 if it is not valid.
func valid(s shape.Shape) (int, bool) {
	size := 1
	for i, length := range s {
		if i == mostDims || length < 1 || length > mostSide {
			return 0, false
		}
		size *= length
	}
	if len(s) == 0 || size > mostWords {
		return 0, false
	}
	return size, true
}

// P3.1

func TestSizeAndRight(t *testing.T) {
	for _, c := range []struct {
		s    shape.Shape
		want int
		err  api.Errno
	}{
		{shape.Shape{1}, 1, api.OK}, {shape.Shape{7}, 7, api.OK}, {shape.Shape{2, 3}, 6, api.OK}, {shape.Shape{2, 3, 4}, 24, api.OK}, {shape.Shape{2, 3, 4, 5}, 120, api.OK}, {shape.Shape{1, 1, 1, 1}, 1, api.OK},
		// Numbers of sides.
		{nil, 0, api.ErrShape}, {shape.Shape{}, 0, api.ErrShape}, {shape.Shape{1, 1, 1, 1, 1}, 0, api.ErrShape}, {shape.Shape{2, 3, 4, 5, 1}, 0, api.ErrShape}, {make(shape.Shape, 1000), 0, api.ErrShape},
		// Sides, wherever they stand.
		{shape.Shape{1023}, 1023, api.OK}, {shape.Shape{1024}, 1024, api.OK}, {shape.Shape{1025}, 0, api.ErrShape}, {shape.Shape{1, 1024}, 1024, api.OK}, {shape.Shape{1, 1025}, 0, api.ErrShape}, {shape.Shape{1, 1, 1, 1025}, 0, api.ErrShape}, {shape.Shape{1025, 1, 1, 1}, 0, api.ErrShape},
		{shape.Shape{0}, 0, api.ErrShape}, {shape.Shape{-1}, 0, api.ErrShape}, {shape.Shape{2, 0}, 0, api.ErrShape}, {shape.Shape{0, 2, 3}, 0, api.ErrShape}, {shape.Shape{2, 3, 4, 0}, 0, api.ErrShape}, {shape.Shape{2, -3}, 0, api.ErrShape}, {shape.Shape{-2, -3}, 0, api.ErrShape},
		{shape.Shape{math.MaxInt}, 0, api.ErrShape}, {shape.Shape{math.MinInt}, 0, api.ErrShape}, {shape.Shape{65536}, 0, api.ErrShape},
		// Sizes at the maximum and just below and above it; the sides of valid length have no product 65537.
		{shape.Shape{64, 1024}, 65536, api.OK}, {shape.Shape{256, 256}, 65536, api.OK}, {shape.Shape{16, 16, 256}, 65536, api.OK}, {shape.Shape{16, 16, 16, 16}, 65536, api.OK},
		{shape.Shape{255, 257}, 65535, api.OK}, {shape.Shape{198, 331}, 0, api.ErrShape}, {shape.Shape{331, 22, 9}, 0, api.ErrShape}, {shape.Shape{64, 1024, 1, 2}, 0, api.ErrShape},
		{shape.Shape{65, 1024}, 0, api.ErrShape}, {shape.Shape{1024, 1024}, 0, api.ErrShape}, {shape.Shape{1024, 1024, 1024}, 0, api.ErrShape}, {shape.Shape{1024, 1024, 1024, 1024}, 0, api.ErrShape},
		// Sides whose product an int would take for a size.
		{shape.Shape{1 << 32, 1 << 32}, 0, api.ErrShape}, {shape.Shape{641, 6700417, 4294967297}, 0, api.ErrShape}, {shape.Shape{1<<32 + 1, 1<<32 - 1}, 0, api.ErrShape}, {shape.Shape{1 << 62, 4}, 0, api.ErrShape}, {shape.Shape{math.MaxInt, math.MaxInt}, 0, api.ErrShape}, {shape.Shape{math.MaxInt, 0}, 0, api.ErrShape},
	} {
		if got, err := c.s.Size(); got != c.want || err != c.err {
			t.Errorf("Size of %v: %d, error %d, not %d, error %d", c.s, got, err, c.want, c.err)
		}
		if got := c.s.Right(); got != (c.err == api.OK) {
			t.Errorf("Right of %v: %t", c.s, got)
		}
	}
	for _, s := range shapes() {
		size, right := valid(s)
		if got := s.Right(); got != right {
			t.Errorf("Right of %v: %t", s, got)
		}
		if got, err := s.Size(); got != size || err != errorUnless(right, api.ErrShape) {
			t.Errorf("Size of %v: %d, error %d, not %d", s, got, err, size)
		}
	}
}

// errorUnless is OK if the condition holds.
func errorUnless(condition bool, err api.Errno) api.Errno {
	if condition {
		return api.OK
	}
	return err
}

func TestEqual(t *testing.T) {
	for _, c := range []struct {
		s, t shape.Shape
		want bool
	}{
		{shape.Shape{2, 3}, shape.Shape{2, 3}, true}, {shape.Shape{1}, shape.Shape{1}, true}, {shape.Shape{2, 3, 4, 5}, shape.Shape{2, 3, 4, 5}, true},
		{shape.Shape{2, 3}, shape.Shape{3, 2}, false}, {shape.Shape{2, 3}, shape.Shape{2, 4}, false}, {shape.Shape{2, 3}, shape.Shape{1, 3}, false}, {shape.Shape{2, 3, 4}, shape.Shape{2, 5, 4}, false},
		// The same number of places, or the same sides up to some dimension.
		{shape.Shape{6}, shape.Shape{2, 3}, false}, {shape.Shape{2, 3}, shape.Shape{2}, false}, {shape.Shape{2, 3}, shape.Shape{2, 3, 1}, false}, {shape.Shape{1, 2, 3}, shape.Shape{2, 3}, false}, {shape.Shape{2, 3}, nil, false},
		// Shapes that are not valid, and a nil one that equals an empty one.
		{nil, nil, true}, {nil, shape.Shape{}, true}, {shape.Shape{0, -5}, shape.Shape{0, -5}, true}, {shape.Shape{0}, shape.Shape{-1}, false}, {shape.Shape{1025}, shape.Shape{1026}, false}, {shape.Shape{0}, nil, false},
		{shape.Shape{1, 2, 3, 4, 5}, shape.Shape{1, 2, 3, 4, 5}, true}, {shape.Shape{1, 2, 3, 4, 5}, shape.Shape{1, 2, 3, 4, 6}, false}, {shape.Shape{1, 2, 3, 4, 5}, shape.Shape{1, 2, 3, 4}, false},
	} {
		if got := c.s.Equal(c.t); got != c.want {
			t.Errorf("%v Equal %v: %t", c.s, c.t, got)
		}
		if got := c.t.Equal(c.s); got != c.want {
			t.Errorf("%v Equal %v: %t", c.t, c.s, got)
		}
	}
}

func TestCopy(t *testing.T) {
	for _, s := range shapes() {
		was := slices.Clone(s)
		got := s.Copy()
		if !slices.Equal(got, was) {
			t.Errorf("Copy of %v: %v", was, got)
		}
		overwrite(got)
		if !slices.Equal(s, was) {
			t.Errorf("Copy of %v shares its memory", was)
		}
	}
	spare := shape.Shape{2, 3, 4}
	overwrite(spare[:0].Copy())
	overwrite(spare[:2].Copy())
	if !slices.Equal(spare, shape.Shape{2, 3, 4}) {
		t.Errorf("Copy shares spare memory: %v", spare)
	}
}

// overwrite changes all the memory of a slice, to its capacity.
func overwrite(l []int) {
	l = l[:cap(l)]
	for i := range l {
		l[i] = -77
	}
}

// P3.2

type placeCase struct {
	s     shape.Shape
	at    []int
	place int
}

// placeCases are first and last places, and the ones next to them.
func placeCases() []placeCase {
	return []placeCase{
		{shape.Shape{1}, []int{0}, 0}, {shape.Shape{7}, []int{0}, 0}, {shape.Shape{7}, []int{1}, 1}, {shape.Shape{7}, []int{5}, 5}, {shape.Shape{7}, []int{6}, 6},
		{shape.Shape{2, 3}, []int{0, 0}, 0}, {shape.Shape{2, 3}, []int{0, 1}, 1}, {shape.Shape{2, 3}, []int{0, 2}, 2}, {shape.Shape{2, 3}, []int{1, 0}, 3}, {shape.Shape{2, 3}, []int{1, 1}, 4}, {shape.Shape{2, 3}, []int{1, 2}, 5},
		{shape.Shape{2, 3, 4}, []int{0, 0, 1}, 1}, {shape.Shape{2, 3, 4}, []int{0, 1, 0}, 4}, {shape.Shape{2, 3, 4}, []int{1, 0, 0}, 12}, {shape.Shape{2, 3, 4}, []int{1, 1, 1}, 17}, {shape.Shape{2, 3, 4}, []int{1, 2, 2}, 22}, {shape.Shape{2, 3, 4}, []int{1, 2, 3}, 23},
		{shape.Shape{2, 3, 4, 5}, []int{0, 0, 0, 0}, 0}, {shape.Shape{2, 3, 4, 5}, []int{0, 0, 0, 4}, 4}, {shape.Shape{2, 3, 4, 5}, []int{0, 0, 1, 0}, 5}, {shape.Shape{2, 3, 4, 5}, []int{0, 1, 0, 0}, 20}, {shape.Shape{2, 3, 4, 5}, []int{1, 0, 0, 0}, 60}, {shape.Shape{2, 3, 4, 5}, []int{1, 2, 3, 4}, 119},
		{shape.Shape{1, 1, 1, 1}, []int{0, 0, 0, 0}, 0}, {shape.Shape{1, 2, 1, 3}, []int{0, 1, 0, 2}, 5},
		{shape.Shape{64, 1024}, []int{63, 1023}, 65535}, {shape.Shape{64, 1024}, []int{63, 1022}, 65534}, {shape.Shape{1024, 64}, []int{1023, 63}, 65535}, {shape.Shape{1024, 64}, []int{1, 0}, 64},
	}
}

func TestPlace(t *testing.T) {
	for _, c := range placeCases() {
		if got, err := c.s.Place(c.at...); got != c.place || err != api.OK {
			t.Errorf("Place %v in %v: %d, error %d, not %d", c.at, c.s, got, err, c.place)
		}
	}
	for _, c := range []struct {
		s   shape.Shape
		at  []int
		err api.Errno
	}{
		// The wrong number of indices.
		{shape.Shape{2, 3}, nil, api.ErrRange}, {shape.Shape{2, 3}, []int{}, api.ErrRange}, {shape.Shape{2, 3}, []int{0}, api.ErrRange}, {shape.Shape{2, 3}, []int{0, 0, 0}, api.ErrRange}, {shape.Shape{1}, nil, api.ErrRange}, {shape.Shape{1, 1, 1, 1}, []int{0, 0, 0}, api.ErrRange}, {shape.Shape{1, 1, 1, 1}, []int{0, 0, 0, 0, 0}, api.ErrRange},
		// An index beyond its side, wherever it stands, also if the number would be that of a place.
		{shape.Shape{2, 3}, []int{2, 0}, api.ErrRange}, {shape.Shape{2, 3}, []int{0, 3}, api.ErrRange}, {shape.Shape{2, 3}, []int{-1, 0}, api.ErrRange}, {shape.Shape{2, 3}, []int{0, -1}, api.ErrRange}, {shape.Shape{2, 3}, []int{1, -1}, api.ErrRange}, {shape.Shape{2, 3}, []int{-1, 4}, api.ErrRange},
		{shape.Shape{2, 3, 4}, []int{0, 3, 0}, api.ErrRange}, {shape.Shape{2, 3, 4}, []int{1, -1, 0}, api.ErrRange}, {shape.Shape{7}, []int{7}, api.ErrRange}, {shape.Shape{7}, []int{math.MaxInt}, api.ErrRange}, {shape.Shape{7}, []int{math.MinInt}, api.ErrRange}, {shape.Shape{2, 3}, []int{math.MaxInt, math.MinInt}, api.ErrRange},
		// ErrShape before ErrRange.
		{nil, nil, api.ErrShape}, {nil, []int{0}, api.ErrShape}, {shape.Shape{0}, []int{0}, api.ErrShape}, {shape.Shape{0}, nil, api.ErrShape}, {shape.Shape{2, -3}, []int{0, 0}, api.ErrShape}, {shape.Shape{1025}, []int{0}, api.ErrShape}, {shape.Shape{1025}, []int{-1}, api.ErrShape}, {shape.Shape{65, 1024}, []int{0, 0}, api.ErrShape}, {shape.Shape{1, 1, 1, 1, 1}, []int{0, 0, 0, 0, 0}, api.ErrShape},
	} {
		if got, err := c.s.Place(c.at...); got != 0 || err != c.err {
			t.Errorf("Place %v in %v: %d, error %d, not error %d", c.at, c.s, got, err, c.err)
		}
	}
}

func TestAt(t *testing.T) {
	for _, c := range placeCases() {
		if got, err := c.s.At(c.place); !slices.Equal(got, c.at) || err != api.OK {
			t.Errorf("At %d in %v: %v, error %d, not %v", c.place, c.s, got, err, c.at)
		}
	}
	for _, s := range shapes() {
		size, right := valid(s)
		for _, place := range append(numbers(), size-1, size, size+1, mostWords) {
			want := errorUnless(right, api.ErrShape)
			if right && (place < 0 || place >= size) {
				want = api.ErrRange
			}
			got, err := s.At(place)
			if err != want || (len(got) != 0) != (want == api.OK) {
				t.Errorf("At %d in %v: %v, error %d, not error %d", place, s, got, err, want)
			}
		}
	}
}

func TestAllYieldsEachPlace(t *testing.T) {
	for _, s := range validShapes() {
		var lists [][]int
		for place, at := range s.All() {
			if place != len(lists) {
				t.Fatalf("All of %v: place %d after %d places", s, place, len(lists))
			}
			lists = append(lists, at)
		}
		size, _ := valid(s)
		if len(lists) != size {
			t.Fatalf("All of %v: %d places", s, len(lists))
		}
		for place, at := range lists {
			if got, err := s.Place(at...); got != place || err != api.OK {
				t.Fatalf("All of %v: place %d with %v, which is place %d, error %d", s, place, at, got, err)
			}
			if got, err := s.At(place); !slices.Equal(got, at) || err != api.OK {
				t.Fatalf("All of %v: place %d with %v, not %v, error %d", s, place, at, got, err)
			}
		}
	}
}

func TestAllInRowMajorOrder(t *testing.T) {
	want := [][]int{{0, 0, 0}, {0, 0, 1}, {0, 1, 0}, {0, 1, 1}, {0, 2, 0}, {0, 2, 1}, {1, 0, 0}, {1, 0, 1}, {1, 1, 0}, {1, 1, 1}, {1, 2, 0}, {1, 2, 1}}
	checkAll(t, shape.Shape{2, 3, 2}.All(), want)
	checkAll(t, shape.Shape{3}.All(), [][]int{{0}, {1}, {2}})
	checkAll(t, shape.Shape{1, 2, 1, 2}.All(), [][]int{{0, 0, 0, 0}, {0, 0, 0, 1}, {0, 1, 0, 0}, {0, 1, 0, 1}})
}

// checkAll compares the places that are yielded with these indices, in this order.
func checkAll(t *testing.T, all iter.Seq2[int, []int], want [][]int) {
	t.Helper()
	n := 0
	for place, at := range all {
		if n == len(want) || place != n || !slices.Equal(at, want[n]) {
			t.Fatalf("place %d with %v after %d places, not %v", place, at, n, want)
		}
		n++
	}
	if n != len(want) {
		t.Errorf("%d places, not %v", n, want)
	}
}

func TestAllOfNoValidShapeYieldsNothing(t *testing.T) {
	for _, s := range shapes() {
		if _, right := valid(s); right {
			continue
		}
		for place, at := range s.All() {
			t.Fatalf("All of %v: place %d with %v", s, place, at)
		}
	}
}

// A further call after a stop would make the loop panic.
func TestAllStops(t *testing.T) {
	for _, s := range []shape.Shape{{1}, {7}, {2, 3}, {2, 1, 4}, {2, 3, 4}, {2, 1, 2, 3}} {
		size, _ := valid(s)
		for stop := range size {
			n := 0
			for place := range s.All() {
				n++
				if place == stop {
					break
				}
			}
			if n != stop+1 {
				t.Errorf("All of %v, stopped at place %d: %d places", s, stop, n)
			}
		}
	}
}

func TestAllIsLoopedOverAgain(t *testing.T) {
	all := shape.Shape{2, 2}.All()
	for place := range all {
		if place == 1 {
			break
		}
	}
	want := [][]int{{0, 0}, {0, 1}, {1, 0}, {1, 1}}
	for range all {
		checkAll(t, all, want)
	}
	checkAll(t, all, want)
}

func TestAllYieldsNewMemory(t *testing.T) {
	s := shape.Shape{2, 3, 4}
	n := 0
	for place, at := range s.All() {
		want := []int{place / 12, place / 4 % 3, place % 4}
		if place != n || !slices.Equal(at, want) {
			t.Fatalf("place %d with %v, not place %d with %v", place, at, n, want)
		}
		overwrite(at)
		n++
	}
	var lists [][]int
	for _, at := range s.All() {
		lists = append(lists, at)
	}
	for place, at := range lists {
		if got, _ := s.Place(at...); got != place {
			t.Fatalf("place %d was changed: %v", place, at)
		}
		overwrite(at)
	}
	if !slices.Equal(s, shape.Shape{2, 3, 4}) {
		t.Errorf("the shape was changed: %v", s)
	}
}

func TestAllYieldsWhatHoldsWhenTheLoopRuns(t *testing.T) {
	s := shape.Shape{0, 2}
	all := s.All()
	checkAll(t, all, nil)
	s[0] = 2
	checkAll(t, all, [][]int{{0, 0}, {0, 1}, {1, 0}, {1, 1}})
	s[1] = 1
	checkAll(t, all, [][]int{{0, 0}, {1, 0}})
}

// P1 of DOC.md: a loop ends, even one that changes the shape.
func TestAllEnds(t *testing.T) {
	s := shape.Shape{2, 2}
	n := 0
	for range s.All() {
		s[1] = math.MaxInt
		n++
		if n > 4 {
			t.Fatal("more places than the shape had when the loop started")
		}
	}
}

// P3.3

func TestJoin(t *testing.T) {
	for _, c := range []struct {
		s, t shape.Shape
		side int
		want shape.Shape
		err  api.Errno
	}{
		{shape.Shape{3}, shape.Shape{4}, 0, shape.Shape{7}, api.OK}, {shape.Shape{1}, shape.Shape{1}, 0, shape.Shape{2}, api.OK},
		{shape.Shape{2, 3}, shape.Shape{5, 3}, 0, shape.Shape{7, 3}, api.OK}, {shape.Shape{2, 3}, shape.Shape{2, 5}, 1, shape.Shape{2, 8}, api.OK}, {shape.Shape{2, 3}, shape.Shape{2, 3}, 0, shape.Shape{4, 3}, api.OK}, {shape.Shape{2, 3}, shape.Shape{2, 3}, 1, shape.Shape{2, 6}, api.OK},
		{shape.Shape{2, 3, 4}, shape.Shape{2, 5, 4}, 1, shape.Shape{2, 8, 4}, api.OK}, {shape.Shape{2, 3, 4, 5}, shape.Shape{2, 3, 4, 1}, 3, shape.Shape{2, 3, 4, 6}, api.OK},
		// At the limits of a side and of the size, and beyond them.
		{shape.Shape{1023}, shape.Shape{1}, 0, shape.Shape{1024}, api.OK}, {shape.Shape{512}, shape.Shape{512}, 0, shape.Shape{1024}, api.OK}, {shape.Shape{1024}, shape.Shape{1}, 0, nil, api.ErrShape}, {shape.Shape{1, 1024}, shape.Shape{1, 1}, 1, nil, api.ErrShape}, {shape.Shape{1024}, shape.Shape{1024}, 0, nil, api.ErrShape},
		{shape.Shape{63, 1024}, shape.Shape{1, 1024}, 0, shape.Shape{64, 1024}, api.OK}, {shape.Shape{64, 1024}, shape.Shape{1, 1024}, 0, nil, api.ErrShape}, {shape.Shape{197, 331}, shape.Shape{1, 331}, 0, nil, api.ErrShape}, {shape.Shape{64, 512}, shape.Shape{64, 512}, 1, shape.Shape{64, 1024}, api.OK},
		// No such dimension.
		{shape.Shape{2, 3}, shape.Shape{2, 3}, -1, nil, api.ErrRange}, {shape.Shape{2, 3}, shape.Shape{2, 3}, 2, nil, api.ErrRange}, {shape.Shape{2}, shape.Shape{2}, 1, nil, api.ErrRange}, {shape.Shape{2}, shape.Shape{2}, math.MaxInt, nil, api.ErrRange}, {shape.Shape{2}, shape.Shape{2}, math.MinInt, nil, api.ErrRange},
		// Another side that differs.
		{shape.Shape{2, 3}, shape.Shape{2, 5}, 0, nil, api.ErrShape}, {shape.Shape{2, 3}, shape.Shape{5, 3}, 1, nil, api.ErrShape}, {shape.Shape{2, 3, 4}, shape.Shape{2, 3, 5}, 0, nil, api.ErrShape}, {shape.Shape{2, 3, 4}, shape.Shape{1, 3, 4}, 2, nil, api.ErrShape}, {shape.Shape{2, 3, 4}, shape.Shape{3, 4, 4}, 1, nil, api.ErrShape},
		// Different numbers of sides.
		{shape.Shape{2, 3}, shape.Shape{2}, 0, nil, api.ErrShape}, {shape.Shape{2}, shape.Shape{2, 3}, 0, nil, api.ErrShape}, {shape.Shape{2, 3}, shape.Shape{2, 3, 1}, 0, nil, api.ErrShape}, {shape.Shape{1, 1, 1, 1}, shape.Shape{1, 1, 1}, 0, nil, api.ErrShape},
		// Not valid, one or the other, also where the result would be.
		{nil, nil, 0, nil, api.ErrShape}, {nil, shape.Shape{1}, 0, nil, api.ErrShape}, {shape.Shape{1}, nil, 0, nil, api.ErrShape}, {shape.Shape{0}, shape.Shape{3}, 0, nil, api.ErrShape}, {shape.Shape{3}, shape.Shape{0}, 0, nil, api.ErrShape}, {shape.Shape{5}, shape.Shape{-2}, 0, nil, api.ErrShape}, {shape.Shape{-2}, shape.Shape{5}, 0, nil, api.ErrShape}, {shape.Shape{1, 1, 1, 1, 1}, shape.Shape{1, 1, 1, 1, 1}, 0, nil, api.ErrShape}, {shape.Shape{1, math.MaxInt}, shape.Shape{1, math.MinInt}, 1, nil, api.ErrShape},
		// ErrShape of a shape or of the number of sides, before ErrRange, before the other ErrShape.
		{shape.Shape{0}, shape.Shape{1}, 5, nil, api.ErrShape}, {shape.Shape{1}, shape.Shape{1025}, -1, nil, api.ErrShape}, {shape.Shape{1}, shape.Shape{1, 1}, 2, nil, api.ErrShape}, {nil, nil, -1, nil, api.ErrShape},
		{shape.Shape{2, 3}, shape.Shape{4, 5}, 2, nil, api.ErrRange}, {shape.Shape{2, 3}, shape.Shape{4, 5}, -1, nil, api.ErrRange}, {shape.Shape{1024}, shape.Shape{1024}, 1, nil, api.ErrRange},
	} {
		if got, err := c.s.Join(c.t, c.side); !slices.Equal(got, c.want) || err != c.err {
			t.Errorf("%v Join %v, %d: %v, error %d, not %v, error %d", c.s, c.t, c.side, got, err, c.want, c.err)
		}
	}
}

func TestCut(t *testing.T) {
	for _, c := range []struct {
		s              shape.Shape
		side, from, to int
		want           shape.Shape
		err            api.Errno
	}{
		{shape.Shape{7}, 0, 2, 5, shape.Shape{3}, api.OK}, {shape.Shape{7}, 0, 0, 7, shape.Shape{7}, api.OK}, {shape.Shape{7}, 0, 0, 1, shape.Shape{1}, api.OK}, {shape.Shape{7}, 0, 6, 7, shape.Shape{1}, api.OK}, {shape.Shape{1}, 0, 0, 1, shape.Shape{1}, api.OK},
		{shape.Shape{2, 3}, 0, 1, 2, shape.Shape{1, 3}, api.OK}, {shape.Shape{2, 3}, 1, 1, 3, shape.Shape{2, 2}, api.OK}, {shape.Shape{2, 3, 4}, 1, 0, 2, shape.Shape{2, 2, 4}, api.OK}, {shape.Shape{2, 3, 4, 5}, 3, 1, 5, shape.Shape{2, 3, 4, 4}, api.OK}, {shape.Shape{1024, 64}, 0, 1, 1024, shape.Shape{1023, 64}, api.OK}, {shape.Shape{64, 1024}, 1, 0, 1024, shape.Shape{64, 1024}, api.OK},
		// No such dimension.
		{shape.Shape{2, 3}, -1, 0, 1, nil, api.ErrRange}, {shape.Shape{2, 3}, 2, 0, 1, nil, api.ErrRange}, {shape.Shape{2}, 1, 0, 1, nil, api.ErrRange}, {shape.Shape{2}, math.MaxInt, 0, 1, nil, api.ErrRange}, {shape.Shape{2}, math.MinInt, 0, 1, nil, api.ErrRange},
		// No such part of the side; a part of the other side.
		{shape.Shape{7}, 0, -1, 5, nil, api.ErrRange}, {shape.Shape{7}, 0, 2, 8, nil, api.ErrRange}, {shape.Shape{7}, 0, -1, 8, nil, api.ErrRange}, {shape.Shape{2, 3}, 0, 0, 3, nil, api.ErrRange}, {shape.Shape{2, 3}, 1, 0, 4, nil, api.ErrRange}, {shape.Shape{7}, 0, 8, 9, nil, api.ErrRange}, {shape.Shape{7}, 0, -2, -1, nil, api.ErrRange},
		{shape.Shape{7}, 0, 2, 2, nil, api.ErrRange}, {shape.Shape{7}, 0, 3, 2, nil, api.ErrRange}, {shape.Shape{7}, 0, 0, 0, nil, api.ErrRange}, {shape.Shape{7}, 0, 7, 7, nil, api.ErrRange}, {shape.Shape{7}, 0, 0, -1, nil, api.ErrRange}, {shape.Shape{7}, 0, math.MinInt, math.MaxInt, nil, api.ErrRange}, {shape.Shape{7}, 0, math.MaxInt, math.MinInt, nil, api.ErrRange},
		// ErrShape before ErrRange.
		{nil, 0, 0, 1, nil, api.ErrShape}, {shape.Shape{0}, 0, 0, 1, nil, api.ErrShape}, {shape.Shape{-5}, 0, 0, 1, nil, api.ErrShape}, {shape.Shape{1025}, 0, 0, 1, nil, api.ErrShape}, {shape.Shape{65, 1024}, 0, 0, 1, nil, api.ErrShape}, {shape.Shape{2, 0}, 0, 0, 1, nil, api.ErrShape}, {shape.Shape{1, 1, 1, 1, 1}, 0, 0, 1, nil, api.ErrShape},
		{nil, -1, 0, 1, nil, api.ErrShape}, {shape.Shape{0}, 1, 0, 1, nil, api.ErrShape}, {shape.Shape{0}, 0, -1, 1, nil, api.ErrShape}, {shape.Shape{0}, 0, 0, 0, nil, api.ErrShape}, {shape.Shape{1025}, 0, 5, 2, nil, api.ErrShape},
	} {
		if got, err := c.s.Cut(c.side, c.from, c.to); !slices.Equal(got, c.want) || err != c.err {
			t.Errorf("%v Cut %d, %d, %d: %v, error %d, not %v, error %d", c.s, c.side, c.from, c.to, got, err, c.want, c.err)
		}
	}
}

func TestWindow(t *testing.T) {
	for _, c := range []struct {
		side, width, step, want int
		err                     api.Errno
	}{
		{5, 3, 1, 3, api.OK}, {5, 1, 1, 5, api.OK}, {1, 1, 1, 1, api.OK},
		// Steps that just fit, and that do not.
		{5, 3, 2, 2, api.OK}, {6, 3, 2, 2, api.OK}, {7, 3, 2, 3, api.OK}, {5, 2, 3, 2, api.OK}, {4, 2, 3, 1, api.OK}, {5, 4, 1, 2, api.OK}, {5, 4, 2, 1, api.OK},
		// Windows that just fit, and that do not.
		{5, 5, 1, 1, api.OK}, {5, 5, 9, 1, api.OK}, {5, 6, 1, 0, api.ErrRange}, {1, 2, 1, 0, api.ErrRange}, {1023, 1024, 1, 0, api.ErrRange},
		// At the limits, and beyond them.
		{1024, 1, 1, 1024, api.OK}, {1024, 1024, 1024, 1, api.OK}, {1024, 1, 1023, 2, api.OK}, {1024, 1, 1024, 1, api.OK}, {1024, 2, 1, 1023, api.OK},
		{1025, 1, 1, 0, api.ErrRange}, {1024, 1025, 1, 0, api.ErrRange}, {1025, 1025, 1, 0, api.ErrRange}, {5, 1, 1025, 0, api.ErrRange}, {5, 5, 1025, 0, api.ErrRange},
		{0, 1, 1, 0, api.ErrRange}, {0, 0, 1, 0, api.ErrRange}, {5, 0, 1, 0, api.ErrRange}, {5, 1, 0, 0, api.ErrRange}, {5, 5, 0, 0, api.ErrRange},
		{-1, 1, 1, 0, api.ErrRange}, {-1, -1, 1, 0, api.ErrRange}, {5, -1, 1, 0, api.ErrRange}, {5, 1, -1, 0, api.ErrRange},
	} {
		if got, err := shape.Window(c.side, c.width, c.step); got != c.want || err != c.err {
			t.Errorf("Window(%d, %d, %d): %d, error %d, not %d, error %d", c.side, c.width, c.step, got, err, c.want, c.err)
		}
	}
	for _, side := range append(numbers(), 5, 6, 7, 100) {
		for _, width := range append(numbers(), 4, 5, 6, 7) {
			for _, step := range numbers() {
				want, wantErr := positions(side, width, step)
				if got, err := shape.Window(side, width, step); got != want || err != wantErr {
					t.Errorf("Window(%d, %d, %d): %d, error %d, not %d, error %d", side, width, step, got, err, want, wantErr)
				}
			}
		}
	}
}

// positions counts those of a window by moving it.
func positions(side, width, step int) (int, api.Errno) {
	for _, n := range []int{side, width, step} {
		if n < 1 || n > mostSide {
			return 0, api.ErrRange
		}
	}
	n := 0
	for first := 0; first+width <= side; first += step {
		n++
	}
	return n, errorUnless(n > 0, api.ErrRange)
}

// Neither the arguments nor their spare memory are changed, and no result shares it.
func TestArgumentsStayAsTheyAre(t *testing.T) {
	s, other, at := shape.Shape{2, 3, 4, 99, 98}, shape.Shape{2, 5, 4, 97, 96}, []int{1, 2, 3, 95, 94}
	check := func(what string) {
		t.Helper()
		if !slices.Equal(s, shape.Shape{2, 3, 4, 99, 98}) || !slices.Equal(other, shape.Shape{2, 5, 4, 97, 96}) || !slices.Equal(at, []int{1, 2, 3, 95, 94}) {
			t.Fatalf("%s: %v, %v, %v", what, s, other, at)
		}
	}
	a, b := s[:3], other[:3]
	a.Right()
	a.Size()
	a.Equal(b)
	a.Place(at[:3]...)
	check("Place")
	for range 2 {
		indices, _ := a.At(23)
		if !slices.Equal(indices, []int{1, 2, 3}) {
			t.Fatalf("At 23: %v", indices)
		}
		overwrite(indices)
		check("At")
	}
	for _, indices := range a.All() {
		overwrite(indices)
		check("All")
	}
	joined, _ := a.Join(b, 1)
	again, _ := a.Join(b, 1)
	overwrite(joined)
	check("Join")
	if !slices.Equal(again, shape.Shape{2, 8, 4}) {
		t.Errorf("two results of Join share their memory: %v", again)
	}
	whole, _ := a.Cut(1, 0, 3)
	overwrite(whole)
	check("Cut")
	copied := a.Copy()
	overwrite(copied)
	check("Copy")
}

// The examples of the chapter.
func TestExamples(t *testing.T) {
	if got, err := (shape.Shape{2, 3}).Place(1, 0); got != 3 || err != api.OK {
		t.Errorf("Place 1, 0 in 2, 3: %d, error %d", got, err)
	}
	if got, err := shape.Window(5, 3, 1); got != 3 || err != api.OK {
		t.Errorf("Window(5, 3, 1): %d, error %d", got, err)
	}
}

// P1 of DOC.md: no arguments make a function panic.
func TestAllArguments(t *testing.T) {
	list := shapes()
	for i, s := range list {
		u := list[(i*7+3)%len(list)]
		s.Right()
		s.Size()
		s.Equal(u)
		s.Copy()
		s.Place(u...)
		s.Place()
		for range s.All() {
		}
		for _, n := range numbers() {
			s.At(n)
			s.Join(u, n)
			s.Join(s, n)
			s.Cut(n, 0, 1)
			s.Cut(0, n, 1)
			s.Cut(0, 0, n)
			s.Cut(0, n, n)
		}
	}
}
