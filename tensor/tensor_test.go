package tensor_test

import (
	"math"
	"slices"
	"strconv"
	"testing"

	"athanor/api"
	"athanor/fix"
	"athanor/shape"
	"athanor/tensor"
)

// The limits, as the document gives them.
const (
	mostSide  = 1024
	mostWords = 65536
)

// validShapes are of each number of sides, with sides that tell the dimensions apart, and with sides of 1 at each end.
func validShapes() []shape.Shape {
	return []shape.Shape{
		{1}, {2}, {7}, {1, 1}, {2, 3}, {3, 2}, {1, 5}, {5, 1},
		{1, 1, 1}, {2, 3, 4}, {4, 3, 2}, {1, 3, 1}, {3, 1, 2},
		{1, 1, 1, 1}, {2, 3, 4, 5}, {5, 4, 3, 2}, {1, 2, 1, 3}, {2, 1, 3, 1},
	}
}

// greatShapes are at the limits of the sides and of the size.
func greatShapes() []shape.Shape {
	return []shape.Shape{{1023}, {1024}, {64, 1024}, {1024, 64}, {16, 16, 256}, {16, 16, 16, 16}, {1024, 1, 1, 64}}
}

// badShape is a shape that is not valid, and a number of cells that might be taken for its size.
type badShape struct {
	s     shape.Shape
	cells int
}

func badShapes() []badShape {
	return []badShape{
		{nil, 0}, {nil, 1}, {shape.Shape{}, 0}, {shape.Shape{}, 1}, {shape.Shape{0}, 0}, {shape.Shape{-1}, 1}, {shape.Shape{-1}, 0}, {shape.Shape{2, 0}, 0}, {shape.Shape{-2, -3}, 6}, {shape.Shape{2, -3}, 6},
		{shape.Shape{1, 1, 1, 1, 1}, 1}, {shape.Shape{2, 1, 1, 1, 1}, 2}, {shape.Shape{1025}, 1025}, {shape.Shape{1, 1025}, 1025}, {shape.Shape{65, 1024}, 66560}, {shape.Shape{198, 331}, 65538},
		{shape.Shape{1 << 32, 1 << 32}, 0}, {shape.Shape{math.MaxInt}, 0}, {shape.Shape{math.MinInt}, 0}, {shape.Shape{math.MaxInt, math.MaxInt}, 1},
	}
}

// wrong are grids that are not valid, because of their shapes or of their numbers of cells.
func wrong() []tensor.Tensor {
	var l []tensor.Tensor
	for _, b := range badShapes() {
		l = append(l, tensor.Tensor{S: b.s, Cells: make([]fix.F, b.cells)})
	}
	for _, s := range validShapes() {
		n := size(s)
		l = append(l, tensor.Tensor{S: s}, tensor.Tensor{S: s, Cells: make([]fix.F, n-1)}, tensor.Tensor{S: s, Cells: make([]fix.F, n-1, n)}, tensor.Tensor{S: s, Cells: make([]fix.F, n+1)}, tensor.Tensor{S: s, Cells: make([]fix.F, 2*n)})
	}
	return l
}

// size is the product of the sides.
func size(s shape.Shape) int {
	n := 1
	for _, length := range s {
		n *= length
	}
	return n
}

// numbered is a valid grid whose cells are first and the numbers after it.
func numbered(s shape.Shape, first fix.F) tensor.Tensor {
	cells := make([]fix.F, size(s))
	for i := range cells {
		cells[i] = first + fix.F(i)
	}
	return tensor.Tensor{S: s, Cells: cells}
}

// values are the cells by their indices, written as a text; only of a valid grid.
func values[T any](g tensor.Grid[T]) map[string]T {
	m := map[string]T{}
	at := make([]int, len(g.S))
	for _, cell := range g.Cells {
		m[text(at)] = cell
		for i := len(at) - 1; i >= 0; i-- {
			at[i]++
			if at[i] < g.S[i] {
				break
			}
			at[i] = 0
		}
	}
	return m
}

func text(at []int) string {
	s := ""
	for _, index := range at {
		s += " " + strconv.Itoa(index)
	}
	return s
}

// isZero reports whether a grid is the zero value, up to empty slices.
func isZero[T any](g tensor.Grid[T]) bool {
	return len(g.S) == 0 && len(g.Cells) == 0
}

// is reports whether a grid has this shape and these cells.
func is[T comparable](g tensor.Grid[T], s shape.Shape, cells []T) bool {
	return slices.Equal(g.S, s) && slices.Equal(g.Cells, cells)
}

// overwrite changes all the memory of a grid, to the capacities.
func overwrite[T any](g tensor.Grid[T], v T) {
	s, cells := g.S[:cap(g.S)], g.Cells[:cap(g.Cells)]
	for i := range s {
		s[i] = -77
	}
	for i := range cells {
		cells[i] = v
	}
}

type point struct {
	x int
	y string
}

// P4.1

func TestMake(t *testing.T) {
	checkMake(t, fix.F(-5))
	checkMake(t, fix.F(0))
	checkMake(t, 7)
	checkMake(t, "ab")
	checkMake(t, true)
	checkMake(t, struct{}{})
	checkMake(t, point{3, "z"})
	checkMake(t, [2]float64{1, 2})
	checkMake(t, new(int))
	checkMake(t, any("x"))
}

func checkMake[T comparable](t *testing.T, fill T) {
	t.Helper()
	for _, s := range append(validShapes(), greatShapes()...) {
		g, err := tensor.Make(s, fill)
		if err != api.OK || !slices.Equal(g.S, s) || len(g.Cells) != size(s) {
			t.Fatalf("Make %v, %v: shape %v, %d cells, error %d", s, fill, g.S, len(g.Cells), err)
		}
		for place, cell := range g.Cells {
			if cell != fill {
				t.Fatalf("Make %v, %v: %v at place %d", s, fill, cell, place)
			}
		}
	}
	for _, b := range badShapes() {
		if g, err := tensor.Make(b.s, fill); err != api.ErrShape || !isZero(g) {
			t.Errorf("Make %v, %v: %v, error %d", b.s, fill, g, err)
		}
	}
}

func TestMakeSharesNoMemory(t *testing.T) {
	all := shape.Shape{2, 3, 99, 98}
	s := all[:2]
	g, _ := tensor.Make(s, 5)
	again, _ := tensor.Make(s, 5)
	overwrite(g, -1)
	if !slices.Equal(all, shape.Shape{2, 3, 99, 98}) {
		t.Errorf("Make shares the shape: %v", all)
	}
	if !is(again, shape.Shape{2, 3}, []int{5, 5, 5, 5, 5, 5}) {
		t.Errorf("two results of Make share their memory: %v", again)
	}
	all[0] = 4
	if !slices.Equal(again.S, shape.Shape{2, 3}) {
		t.Errorf("Make retains the shape: %v", again.S)
	}
}

func TestOf(t *testing.T) {
	for _, s := range append(validShapes(), greatShapes()...) {
		cells := numbered(s, 3).Cells
		g, err := tensor.Of(s, cells)
		if err != api.OK || !is(g, s, cells) {
			t.Errorf("Of %v: shape %v, cells %v, error %d", s, g.S, g.Cells, err)
		}
		n := len(cells)
		for _, other := range [][]fix.F{nil, {}, cells[:n-1], append(slices.Clone(cells), 0), append(slices.Clone(cells), cells...), make([]fix.F, n-1, n)} {
			if g, err := tensor.Of(s, other); err != api.ErrShape || !isZero(g) {
				t.Errorf("Of %v with %d cells: %v, error %d", s, len(other), g, err)
			}
		}
	}
	for _, b := range badShapes() {
		for _, n := range []int{b.cells, 0, 1, 6} {
			if g, err := tensor.Of(b.s, make([]string, n)); err != api.ErrShape || !isZero(g) {
				t.Errorf("Of %v with %d cells: %v, error %d", b.s, n, g, err)
			}
		}
	}
	words, err := tensor.Of(shape.Shape{3, 1}, []string{"a", "", "c"})
	if err != api.OK || !is(words, shape.Shape{3, 1}, []string{"a", "", "c"}) {
		t.Errorf("Of words: %v, error %d", words, err)
	}
}

func TestOfSharesNoMemory(t *testing.T) {
	s, cells := shape.Shape{2, 2, 99}, []int{1, 2, 3, 4, 99}
	g, _ := tensor.Of(s[:2], cells[:4])
	overwrite(g, -1)
	if !slices.Equal(s, shape.Shape{2, 2, 99}) || !slices.Equal(cells, []int{1, 2, 3, 4, 99}) {
		t.Errorf("Of shares memory: %v, %v", s, cells)
	}
	g, _ = tensor.Of(s[:2], cells[:4])
	overwrite(tensor.Grid[int]{S: s, Cells: cells}, -1)
	if !is(g, shape.Shape{2, 2}, []int{1, 2, 3, 4}) {
		t.Errorf("Of retains memory: %v", g)
	}
	// One slice as the shape and as the cells.
	both := []int{1}
	g, err := tensor.Of(both, both)
	g.Cells[0] = 5
	if err != api.OK || !is(g, shape.Shape{1}, []int{5}) || both[0] != 1 {
		t.Errorf("Of a shape that is also the cells: %v, error %d, %v", g, err, both)
	}
}

func TestRight(t *testing.T) {
	for _, s := range append(validShapes(), greatShapes()...) {
		if g := numbered(s, 0); !g.Right() {
			t.Errorf("Right of shape %v, %d cells: false", g.S, len(g.Cells))
		}
	}
	for _, g := range wrong() {
		if g.Right() {
			t.Errorf("Right of shape %v, %d cells: true", g.S, len(g.Cells))
		}
	}
	if !(tensor.Grid[string]{S: shape.Shape{2}, Cells: []string{"", ""}}).Right() || (tensor.Grid[string]{S: shape.Shape{2}, Cells: []string{""}}).Right() || (tensor.Grid[string]{}).Right() {
		t.Error("Right of grids of texts")
	}
}

func TestCopy(t *testing.T) {
	l := wrong()
	for _, s := range append(validShapes(), greatShapes()...) {
		l = append(l, numbered(s, 1))
	}
	for _, g := range l {
		s, cells := slices.Clone(g.S), slices.Clone(g.Cells)
		got := g.Copy()
		if !is(got, s, cells) {
			t.Errorf("Copy of %v, %v: %v", s, cells, got)
		}
		again := g.Copy()
		overwrite(got, -1)
		if !is(g, s, cells) {
			t.Errorf("Copy of %v shares its memory", s)
		}
		if !is(again, s, cells) {
			t.Errorf("two copies of %v share their memory", s)
		}
	}
	s, cells := shape.Shape{2, 2, 99}, []string{"a", "b", "c", "d", "spare"}
	for _, n := range []int{0, 3, 4} {
		overwrite(tensor.Grid[string]{S: s[:2], Cells: cells[:n]}.Copy(), "-")
		overwrite(tensor.Grid[string]{S: s[:0], Cells: cells[:n]}.Copy(), "-")
	}
	if !slices.Equal(s, shape.Shape{2, 2, 99}) || !slices.Equal(cells, []string{"a", "b", "c", "d", "spare"}) {
		t.Errorf("Copy shares spare memory: %v, %v", s, cells)
	}
}

type equalCase[T comparable] struct {
	s    shape.Shape
	c    []T
	t    shape.Shape
	d    []T
	want bool
}

func checkEqual[T comparable](t *testing.T, cases []equalCase[T]) {
	t.Helper()
	for _, c := range cases {
		a, b := tensor.Grid[T]{S: c.s, Cells: c.c}, tensor.Grid[T]{S: c.t, Cells: c.d}
		if got := tensor.Equal(a, b); got != c.want {
			t.Errorf("Equal of %v and %v: %t", a, b, got)
		}
		if got := tensor.Equal(b, a); got != c.want {
			t.Errorf("Equal of %v and %v: %t", b, a, got)
		}
	}
}

func TestEqual(t *testing.T) {
	checkEqual(t, []equalCase[fix.F]{
		{shape.Shape{2}, []fix.F{1, 2}, shape.Shape{2}, []fix.F{1, 2}, true}, {shape.Shape{1}, []fix.F{0}, shape.Shape{1}, []fix.F{0}, true}, {shape.Shape{2, 3}, []fix.F{1, 2, 3, 4, 5, 6}, shape.Shape{2, 3}, []fix.F{1, 2, 3, 4, 5, 6}, true},
		// Another cell: the first, one between, the last.
		{shape.Shape{3}, []fix.F{1, 2, 3}, shape.Shape{3}, []fix.F{0, 2, 3}, false}, {shape.Shape{3}, []fix.F{1, 2, 3}, shape.Shape{3}, []fix.F{1, 0, 3}, false}, {shape.Shape{3}, []fix.F{1, 2, 3}, shape.Shape{3}, []fix.F{1, 2, 0}, false}, {shape.Shape{2}, []fix.F{1, 2}, shape.Shape{2}, []fix.F{2, 1}, false},
		// Another shape with the same cells.
		{shape.Shape{2, 3}, []fix.F{1, 2, 3, 4, 5, 6}, shape.Shape{3, 2}, []fix.F{1, 2, 3, 4, 5, 6}, false}, {shape.Shape{6}, []fix.F{1, 2, 3, 4, 5, 6}, shape.Shape{6, 1}, []fix.F{1, 2, 3, 4, 5, 6}, false}, {shape.Shape{6}, []fix.F{1, 2, 3, 4, 5, 6}, shape.Shape{2, 3}, []fix.F{1, 2, 3, 4, 5, 6}, false},
		// Grids that are not valid.
		{nil, nil, nil, nil, true}, {nil, []fix.F{}, shape.Shape{}, nil, true}, {shape.Shape{2}, nil, shape.Shape{2}, []fix.F{}, true}, {shape.Shape{0}, nil, shape.Shape{0}, nil, true}, {shape.Shape{2}, []fix.F{1}, shape.Shape{2}, []fix.F{1}, true}, {shape.Shape{-1, 1025}, []fix.F{1, 2, 3}, shape.Shape{-1, 1025}, []fix.F{1, 2, 3}, true},
		{shape.Shape{2}, []fix.F{1}, shape.Shape{2}, []fix.F{2}, false}, {shape.Shape{2}, []fix.F{1}, shape.Shape{2}, []fix.F{1, 0}, false}, {shape.Shape{2}, nil, shape.Shape{2}, []fix.F{0, 0}, false}, {nil, []fix.F{1}, nil, nil, false}, {shape.Shape{0}, nil, shape.Shape{-1}, nil, false}, {nil, nil, shape.Shape{0}, nil, false},
	})
	checkEqual(t, []equalCase[string]{
		{shape.Shape{2}, []string{"a", ""}, shape.Shape{2}, []string{"a", ""}, true}, {shape.Shape{2}, []string{"a", ""}, shape.Shape{2}, []string{"a", "b"}, false},
	})
	checkEqual(t, []equalCase[point]{
		{shape.Shape{1}, []point{{1, "a"}}, shape.Shape{1}, []point{{1, "a"}}, true}, {shape.Shape{1}, []point{{1, "a"}}, shape.Shape{1}, []point{{1, "b"}}, false},
	})
	for _, s := range append(validShapes(), greatShapes()...) {
		g := numbered(s, 1)
		other := g.Copy()
		if !tensor.Equal(g, other) || !tensor.Equal(g, g) {
			t.Errorf("Equal of two grids of shape %v: false", s)
		}
		other.Cells[len(other.Cells)-1]++
		if tensor.Equal(g, other) {
			t.Errorf("Equal of two grids of shape %v with other last cells: true", s)
		}
	}
}

// P1 of DOC.md: the cells may be values that Go cannot compare.
func TestEqualOfCellsOfAnyType(t *testing.T) {
	list, same := []int{1}, any("a")
	checkEqual(t, []equalCase[any]{
		{shape.Shape{3}, []any{1, "a", nil}, shape.Shape{3}, []any{1, same, nil}, true}, {shape.Shape{2}, []any{1, nil}, shape.Shape{2}, []any{int64(1), nil}, false}, {shape.Shape{1}, []any{nil}, shape.Shape{1}, []any{0}, false},
		{shape.Shape{2}, []any{1, list}, shape.Shape{2}, []any{1, list}, false}, {shape.Shape{1}, []any{list}, shape.Shape{1}, []any{1}, false}, {shape.Shape{2}, []any{list, 1}, shape.Shape{2}, []any{list, 2}, false},
		{shape.Shape{1}, []any{list}, shape.Shape{2}, []any{list}, false}, {shape.Shape{1}, []any{map[int]int{}}, shape.Shape{1}, []any{map[int]int{}}, false}, {shape.Shape{1}, []any{[1]any{list}}, shape.Shape{1}, []any{[1]any{list}}, false},
	})
	checkEqual(t, []equalCase[error]{
		{shape.Shape{2}, []error{nil, nil}, shape.Shape{2}, []error{nil, nil}, true}, {shape.Shape{1}, []error{nil}, shape.Shape{1}, []error{strconv.ErrRange}, false}, {shape.Shape{1}, []error{strconv.ErrRange}, shape.Shape{1}, []error{strconv.ErrRange}, true},
	})
}

// P4.2

type placeCase struct {
	s     shape.Shape
	at    []int
	place int
}

// placeCases are first and last places, and the ones next to them.
func placeCases() []placeCase {
	return []placeCase{
		{shape.Shape{1}, []int{0}, 0}, {shape.Shape{7}, []int{0}, 0}, {shape.Shape{7}, []int{1}, 1}, {shape.Shape{7}, []int{5}, 5}, {shape.Shape{7}, []int{6}, 6},
		{shape.Shape{2, 3}, []int{0, 0}, 0}, {shape.Shape{2, 3}, []int{0, 1}, 1}, {shape.Shape{2, 3}, []int{0, 2}, 2}, {shape.Shape{2, 3}, []int{1, 0}, 3}, {shape.Shape{2, 3}, []int{1, 1}, 4}, {shape.Shape{2, 3}, []int{1, 2}, 5},
		{shape.Shape{2, 3, 4}, []int{0, 0, 1}, 1}, {shape.Shape{2, 3, 4}, []int{0, 1, 0}, 4}, {shape.Shape{2, 3, 4}, []int{1, 0, 0}, 12}, {shape.Shape{2, 3, 4}, []int{1, 2, 2}, 22}, {shape.Shape{2, 3, 4}, []int{1, 2, 3}, 23},
		{shape.Shape{2, 3, 4, 5}, []int{0, 0, 0, 0}, 0}, {shape.Shape{2, 3, 4, 5}, []int{0, 0, 1, 0}, 5}, {shape.Shape{2, 3, 4, 5}, []int{0, 1, 0, 0}, 20}, {shape.Shape{2, 3, 4, 5}, []int{1, 0, 0, 0}, 60}, {shape.Shape{2, 3, 4, 5}, []int{1, 2, 3, 4}, 119},
		{shape.Shape{64, 1024}, []int{63, 1023}, 65535}, {shape.Shape{64, 1024}, []int{63, 1022}, 65534}, {shape.Shape{1024, 64}, []int{1, 0}, 64}, {shape.Shape{1, 1, 1, 1}, []int{0, 0, 0, 0}, 0},
	}
}

func TestGetAndWith(t *testing.T) {
	for _, c := range placeCases() {
		g := numbered(c.s, 100)
		if got, err := g.Get(c.at...); got != fix.F(100+c.place) || err != api.OK {
			t.Errorf("Get %v in %v: %d, error %d, not %d", c.at, c.s, got, err, 100+c.place)
		}
		want := slices.Clone(g.Cells)
		want[c.place] = -9
		got, err := g.With(-9, c.at...)
		if err != api.OK || !is(got, c.s, want) {
			t.Errorf("With %v in %v: %v, error %d", c.at, c.s, got, err)
		}
		if !is(g, c.s, numbered(c.s, 100).Cells) {
			t.Errorf("With %v in %v changed the grid", c.at, c.s)
		}
		overwrite(got, -1)
		again, _ := g.With(-9, c.at...)
		if !is(g, c.s, numbered(c.s, 100).Cells) || !is(again, c.s, want) {
			t.Errorf("With %v in %v shares memory", c.at, c.s)
		}
	}
	words := tensor.Grid[string]{S: shape.Shape{1, 2}, Cells: []string{"a", "b"}}
	if got, err := words.Get(0, 1); got != "b" || err != api.OK {
		t.Errorf("Get: %q, error %d", got, err)
	}
	if got, err := words.With("c", 0, 0); err != api.OK || !is(got, shape.Shape{1, 2}, []string{"c", "b"}) {
		t.Errorf("With: %v, error %d", got, err)
	}
}

func TestGetAndWithErrors(t *testing.T) {
	for _, c := range []struct {
		s  shape.Shape
		at []int
	}{
		// The wrong number of indices.
		{shape.Shape{2, 3}, nil}, {shape.Shape{2, 3}, []int{}}, {shape.Shape{2, 3}, []int{0}}, {shape.Shape{2, 3}, []int{0, 0, 0}}, {shape.Shape{1}, nil}, {shape.Shape{1, 1, 1, 1}, []int{0, 0, 0}}, {shape.Shape{1, 1, 1, 1}, []int{0, 0, 0, 0, 0}},
		// An index beyond its side, wherever it stands, also if the number would be that of a place.
		{shape.Shape{2, 3}, []int{2, 0}}, {shape.Shape{2, 3}, []int{0, 3}}, {shape.Shape{2, 3}, []int{-1, 0}}, {shape.Shape{2, 3}, []int{0, -1}}, {shape.Shape{2, 3}, []int{1, -1}}, {shape.Shape{2, 3}, []int{-1, 4}},
		{shape.Shape{7}, []int{7}}, {shape.Shape{7}, []int{math.MaxInt}}, {shape.Shape{7}, []int{math.MinInt}}, {shape.Shape{2, 3, 4}, []int{0, 3, 0}},
	} {
		checkNoPlace(t, numbered(c.s, 1), c.at, api.ErrRange)
		checkNoPlace(t, tensor.Tensor{S: c.s, Cells: make([]fix.F, size(c.s)+1)}, c.at, api.ErrShape)
	}
	for _, g := range wrong() {
		checkNoPlace(t, g, make([]int, len(g.S)), api.ErrShape)
		checkNoPlace(t, g, []int{0}, api.ErrShape)
		checkNoPlace(t, g, []int{-1}, api.ErrShape)
		checkNoPlace(t, g, nil, api.ErrShape)
	}
	words := tensor.Grid[string]{S: shape.Shape{2}, Cells: []string{"a", "b"}}
	if got, err := words.Get(2); got != "" || err != api.ErrRange {
		t.Errorf("Get: %q, error %d", got, err)
	}
}

func checkNoPlace(t *testing.T, g tensor.Tensor, at []int, want api.Errno) {
	t.Helper()
	if got, err := g.Get(at...); got != 0 || err != want {
		t.Errorf("Get %v in %v with %d cells: %d, error %d, not error %d", at, g.S, len(g.Cells), got, err, want)
	}
	if got, err := g.With(5, at...); !isZero(got) || err != want {
		t.Errorf("With %v in %v with %d cells: %v, error %d, not error %d", at, g.S, len(g.Cells), got, err, want)
	}
}

// A cell is returned as it is, also if it shares memory.
func TestCellsAreReturnedAsTheyAre(t *testing.T) {
	list := []int{1, 2}
	g, _ := tensor.Make(shape.Shape{2}, list)
	h, _ := g.Copy().With([]int{3}, 0)
	got, err := h.Get(1)
	if err != api.OK || len(got) != 2 || &got[0] != &list[0] {
		t.Errorf("Get: %v, error %d", got, err)
	}
	if got, _ := h.Get(0); !slices.Equal(got, []int{3}) {
		t.Errorf("Get: %v", got)
	}
	if got, err := h.Get(2); got != nil || err != api.ErrRange {
		t.Errorf("Get: %v, error %d", got, err)
	}
}

// Literal cuts, of each dimension.
func TestCut(t *testing.T) {
	for _, c := range []struct {
		s              shape.Shape
		side, from, to int
		want           shape.Shape
		cells          []fix.F
	}{
		{shape.Shape{7}, 0, 2, 5, shape.Shape{3}, []fix.F{2, 3, 4}}, {shape.Shape{7}, 0, 0, 7, shape.Shape{7}, []fix.F{0, 1, 2, 3, 4, 5, 6}}, {shape.Shape{7}, 0, 0, 1, shape.Shape{1}, []fix.F{0}}, {shape.Shape{7}, 0, 6, 7, shape.Shape{1}, []fix.F{6}}, {shape.Shape{1}, 0, 0, 1, shape.Shape{1}, []fix.F{0}},
		{shape.Shape{2, 3}, 0, 0, 1, shape.Shape{1, 3}, []fix.F{0, 1, 2}}, {shape.Shape{2, 3}, 0, 1, 2, shape.Shape{1, 3}, []fix.F{3, 4, 5}}, {shape.Shape{2, 3}, 0, 0, 2, shape.Shape{2, 3}, []fix.F{0, 1, 2, 3, 4, 5}},
		{shape.Shape{2, 3}, 1, 0, 2, shape.Shape{2, 2}, []fix.F{0, 1, 3, 4}}, {shape.Shape{2, 3}, 1, 1, 3, shape.Shape{2, 2}, []fix.F{1, 2, 4, 5}}, {shape.Shape{2, 3}, 1, 1, 2, shape.Shape{2, 1}, []fix.F{1, 4}}, {shape.Shape{2, 3}, 1, 0, 3, shape.Shape{2, 3}, []fix.F{0, 1, 2, 3, 4, 5}},
		{shape.Shape{2, 3, 2}, 0, 1, 2, shape.Shape{1, 3, 2}, []fix.F{6, 7, 8, 9, 10, 11}}, {shape.Shape{2, 3, 2}, 1, 1, 3, shape.Shape{2, 2, 2}, []fix.F{2, 3, 4, 5, 8, 9, 10, 11}}, {shape.Shape{2, 3, 2}, 2, 1, 2, shape.Shape{2, 3, 1}, []fix.F{1, 3, 5, 7, 9, 11}},
		{shape.Shape{2, 2, 2, 2}, 1, 1, 2, shape.Shape{2, 1, 2, 2}, []fix.F{4, 5, 6, 7, 12, 13, 14, 15}}, {shape.Shape{2, 2, 2, 2}, 2, 0, 1, shape.Shape{2, 2, 1, 2}, []fix.F{0, 1, 4, 5, 8, 9, 12, 13}}, {shape.Shape{2, 2, 2, 2}, 3, 1, 2, shape.Shape{2, 2, 2, 1}, []fix.F{1, 3, 5, 7, 9, 11, 13, 15}},
	} {
		if got, err := numbered(c.s, 0).Cut(c.side, c.from, c.to); err != api.OK || !is(got, c.want, c.cells) {
			t.Errorf("%v Cut %d, %d, %d: %v, error %d, not %v, %v", c.s, c.side, c.from, c.to, got, err, c.want, c.cells)
		}
	}
}

// All cuts of the small shapes, and bounds beyond them, compared cell by cell.
func TestAllCuts(t *testing.T) {
	for _, s := range validShapes() {
		g := numbered(s, 1)
		for side := -1; side <= len(s); side++ {
			for from := -2; from <= 8; from++ {
				for to := -2; to <= 8; to++ {
					checkCut(t, g, side, from, to)
				}
			}
			for _, n := range []int{math.MinInt, math.MaxInt, mostSide, -mostSide} {
				checkCut(t, g, side, 0, n)
				checkCut(t, g, side, n, 1)
				checkCut(t, g, side, n, math.MinInt)
				checkCut(t, g, side, n, n)
				checkCut(t, g, n, 0, 1)
			}
		}
	}
	for _, s := range greatShapes() {
		for side, length := range s {
			checkCut(t, numbered(s, 1), side, 0, length)
			checkCut(t, numbered(s, 1), side, length-1, length)
			checkCut(t, numbered(s, 1), side, length/2, length)
			checkCut(t, numbered(s, 1), side, 0, length+1)
		}
	}
}

// checkCut compares with what the chapter says of each cell.
func checkCut(t *testing.T, g tensor.Tensor, side, from, to int) {
	t.Helper()
	got, err := g.Cut(side, from, to)
	if side < 0 || side >= len(g.S) || from < 0 || to > g.S[side] || from >= to {
		if err != api.ErrRange || !isZero(got) {
			t.Errorf("%v Cut %d, %d, %d: %v, error %d", g.S, side, from, to, got, err)
		}
		return
	}
	want := slices.Clone(g.S)
	want[side] = to - from
	if err != api.OK || !slices.Equal(got.S, want) || len(got.Cells) != size(want) {
		t.Errorf("%v Cut %d, %d, %d: shape %v, %d cells, error %d", g.S, side, from, to, got.S, len(got.Cells), err)
		return
	}
	before := values(g)
	for place, cell := range got.Cells {
		at, _ := want.At(place)
		at[side] += from
		if cell != before[text(at)] {
			t.Errorf("%v Cut %d, %d, %d: %d at place %d", g.S, side, from, to, cell, place)
			return
		}
	}
}

// ErrShape before ErrRange.
func TestCutOfNoValidGrid(t *testing.T) {
	for _, g := range wrong() {
		for _, c := range [][3]int{{0, 0, 1}, {0, 0, 0}, {0, -1, 1}, {-1, 0, 1}, {5, 0, 1}, {0, 0, math.MaxInt}, {1, 0, 1}} {
			if got, err := g.Cut(c[0], c[1], c[2]); err != api.ErrShape || !isZero(got) {
				t.Errorf("%v with %d cells, Cut %v: %v, error %d", g.S, len(g.Cells), c, got, err)
			}
		}
	}
}

// Literal joins, along each dimension.
func TestJoin(t *testing.T) {
	for _, c := range []struct {
		s, t  shape.Shape
		side  int
		want  shape.Shape
		cells []fix.F
	}{
		{shape.Shape{3}, shape.Shape{2}, 0, shape.Shape{5}, []fix.F{0, 1, 2, 100, 101}}, {shape.Shape{1}, shape.Shape{1}, 0, shape.Shape{2}, []fix.F{0, 100}},
		{shape.Shape{2, 3}, shape.Shape{1, 3}, 0, shape.Shape{3, 3}, []fix.F{0, 1, 2, 3, 4, 5, 100, 101, 102}}, {shape.Shape{1, 3}, shape.Shape{2, 3}, 0, shape.Shape{3, 3}, []fix.F{0, 1, 2, 100, 101, 102, 103, 104, 105}},
		{shape.Shape{2, 3}, shape.Shape{2, 1}, 1, shape.Shape{2, 4}, []fix.F{0, 1, 2, 100, 3, 4, 5, 101}}, {shape.Shape{2, 1}, shape.Shape{2, 2}, 1, shape.Shape{2, 3}, []fix.F{0, 100, 101, 1, 102, 103}},
		{shape.Shape{2, 1, 2}, shape.Shape{1, 1, 2}, 0, shape.Shape{3, 1, 2}, []fix.F{0, 1, 2, 3, 100, 101}}, {shape.Shape{2, 1, 2}, shape.Shape{2, 2, 2}, 1, shape.Shape{2, 3, 2}, []fix.F{0, 1, 100, 101, 102, 103, 2, 3, 104, 105, 106, 107}}, {shape.Shape{2, 1, 2}, shape.Shape{2, 1, 1}, 2, shape.Shape{2, 1, 3}, []fix.F{0, 1, 100, 2, 3, 101}},
		{shape.Shape{2, 1, 1, 2}, shape.Shape{2, 1, 1, 2}, 0, shape.Shape{4, 1, 1, 2}, []fix.F{0, 1, 2, 3, 100, 101, 102, 103}}, {shape.Shape{2, 1, 1, 2}, shape.Shape{2, 1, 1, 2}, 1, shape.Shape{2, 2, 1, 2}, []fix.F{0, 1, 100, 101, 2, 3, 102, 103}}, {shape.Shape{2, 1, 1, 2}, shape.Shape{2, 1, 1, 1}, 3, shape.Shape{2, 1, 1, 3}, []fix.F{0, 1, 100, 2, 3, 101}},
	} {
		if got, err := tensor.Join(numbered(c.s, 0), numbered(c.t, 100), c.side); err != api.OK || !is(got, c.want, c.cells) {
			t.Errorf("Join of %v and %v, %d: %v, error %d, not %v, %v", c.s, c.t, c.side, got, err, c.want, c.cells)
		}
	}
}

// Joins of the small shapes along each side, with each length there, compared cell by cell.
func TestAllJoins(t *testing.T) {
	for _, s := range validShapes() {
		for side := range s {
			for length := 1; length <= 4; length++ {
				other := slices.Clone(s)
				other[side] = length
				checkJoin(t, numbered(s, 0), numbered(other, 1000), side)
			}
		}
	}
	for _, c := range []struct {
		s, t shape.Shape
		side int
	}{
		{shape.Shape{1023}, shape.Shape{1}, 0}, {shape.Shape{1}, shape.Shape{1023}, 0}, {shape.Shape{512}, shape.Shape{512}, 0}, {shape.Shape{63, 1024}, shape.Shape{1, 1024}, 0}, {shape.Shape{64, 512}, shape.Shape{64, 512}, 1}, {shape.Shape{1024, 1}, shape.Shape{1024, 63}, 1},
	} {
		checkJoin(t, numbered(c.s, 0), numbered(c.t, 1<<20), c.side)
	}
}

// checkJoin compares each cell, and the two parts that Cut returns, with the arguments.
func checkJoin(t *testing.T, a, b tensor.Tensor, side int) {
	t.Helper()
	got, err := tensor.Join(a, b, side)
	want := slices.Clone(a.S)
	want[side] += b.S[side]
	if err != api.OK || !slices.Equal(got.S, want) || len(got.Cells) != size(want) {
		t.Errorf("Join of %v and %v, %d: shape %v, %d cells, error %d", a.S, b.S, side, got.S, len(got.Cells), err)
		return
	}
	first, second := values(a), values(b)
	for place, cell := range got.Cells {
		at, _ := want.At(place)
		from := first
		if at[side] >= a.S[side] {
			at[side] -= a.S[side]
			from = second
		}
		if cell != from[text(at)] {
			t.Errorf("Join of %v and %v, %d: %d at place %d", a.S, b.S, side, cell, place)
			return
		}
	}
	front, _ := got.Cut(side, 0, a.S[side])
	back, _ := got.Cut(side, a.S[side], want[side])
	if !tensor.Equal(front, a) || !tensor.Equal(back, b) {
		t.Errorf("Join of %v and %v, %d: cut into %v and %v", a.S, b.S, side, front, back)
	}
}

func TestJoinErrors(t *testing.T) {
	for _, c := range []struct {
		s, t shape.Shape
		side int
		want api.Errno
	}{
		// No such dimension.
		{shape.Shape{2, 3}, shape.Shape{2, 3}, -1, api.ErrRange}, {shape.Shape{2, 3}, shape.Shape{2, 3}, 2, api.ErrRange}, {shape.Shape{2}, shape.Shape{2}, 1, api.ErrRange}, {shape.Shape{2}, shape.Shape{2}, math.MaxInt, api.ErrRange}, {shape.Shape{2}, shape.Shape{2}, math.MinInt, api.ErrRange},
		// Another side that differs, another number of sides, a result that is not valid.
		{shape.Shape{2, 3}, shape.Shape{2, 5}, 0, api.ErrShape}, {shape.Shape{2, 3}, shape.Shape{5, 3}, 1, api.ErrShape}, {shape.Shape{2, 3}, shape.Shape{3, 2}, 0, api.ErrShape}, {shape.Shape{2, 3, 4}, shape.Shape{1, 3, 4}, 2, api.ErrShape},
		{shape.Shape{2, 3}, shape.Shape{2}, 0, api.ErrShape}, {shape.Shape{2}, shape.Shape{2, 3}, 0, api.ErrShape}, {shape.Shape{1, 1}, shape.Shape{1, 1, 1}, 0, api.ErrShape},
		{shape.Shape{1024}, shape.Shape{1}, 0, api.ErrShape}, {shape.Shape{1, 1024}, shape.Shape{1, 1}, 1, api.ErrShape}, {shape.Shape{64, 1024}, shape.Shape{1, 1024}, 0, api.ErrShape}, {shape.Shape{197, 331}, shape.Shape{1, 331}, 0, api.ErrShape},
		// Several at once: the number of sides, then the dimension, then the other sides and the result.
		{shape.Shape{1}, shape.Shape{1, 1}, 2, api.ErrShape}, {shape.Shape{1, 1}, shape.Shape{1}, -1, api.ErrShape}, {shape.Shape{2, 3}, shape.Shape{4, 5}, 2, api.ErrRange}, {shape.Shape{2, 3}, shape.Shape{4, 5}, -1, api.ErrRange}, {shape.Shape{1024}, shape.Shape{1024}, 1, api.ErrRange},
	} {
		if got, err := tensor.Join(numbered(c.s, 0), numbered(c.t, 9), c.side); err != c.want || !isZero(got) {
			t.Errorf("Join of %v and %v, %d: %v, error %d, not error %d", c.s, c.t, c.side, got, err, c.want)
		}
	}
	one := numbered(shape.Shape{1}, 0)
	for _, g := range wrong() {
		for _, side := range []int{-1, 0, 1, 4} {
			for _, pair := range [][2]tensor.Tensor{{g, one}, {one, g}, {g, g}, {g, numbered(shape.Shape{2, 3}, 0)}, {numbered(shape.Shape{2, 3, 4}, 0), g}} {
				if got, err := tensor.Join(pair[0], pair[1], side); err != api.ErrShape || !isZero(got) {
					t.Errorf("Join of %v with %d cells and %v with %d cells, %d: %v, error %d", pair[0].S, len(pair[0].Cells), pair[1].S, len(pair[1].Cells), side, got, err)
				}
			}
		}
	}
	// The numbers of cells are wrong in both, but their sum would be right.
	if got, err := tensor.Join(tensor.Tensor{S: shape.Shape{2}, Cells: make([]fix.F, 1)}, tensor.Tensor{S: shape.Shape{2}, Cells: make([]fix.F, 3)}, 0); err != api.ErrShape || !isZero(got) {
		t.Errorf("Join: %v, error %d", got, err)
	}
}

func TestCutAndJoinOfCellsOfOtherTypes(t *testing.T) {
	a := tensor.Grid[string]{S: shape.Shape{2, 2}, Cells: []string{"a", "b", "c", "d"}}
	b, err := a.Cut(1, 1, 2)
	if err != api.OK || !is(b, shape.Shape{2, 1}, []string{"b", "d"}) {
		t.Errorf("Cut: %v, error %d", b, err)
	}
	if c, err := tensor.Join(a, b, 1); err != api.OK || !is(c, shape.Shape{2, 3}, []string{"a", "b", "b", "c", "d", "d"}) {
		t.Errorf("Join: %v, error %d", c, err)
	}
	none, _ := tensor.Make(shape.Shape{2, 2}, struct{}{})
	if c, err := tensor.Join(none, none, 0); err != api.OK || len(c.Cells) != 8 || !c.Right() {
		t.Errorf("Join: %v, error %d", c, err)
	}
}

// P4.3

func TestAdd(t *testing.T) {
	for _, c := range []struct{ a, b, want []fix.F }{
		{[]fix.F{1}, []fix.F{3}, []fix.F{4}}, {[]fix.F{1, 2}, []fix.F{3, 4}, []fix.F{4, 6}}, {[]fix.F{1, -2, 0}, []fix.F{-3, -4, 0}, []fix.F{-2, -6, 0}},
		// Sums that just fit, and that saturate, each in its own cell.
		{[]fix.F{fix.Max - 1, fix.Max, 5}, []fix.F{1, 1, 1}, []fix.F{fix.Max, fix.Max, 6}}, {[]fix.F{fix.Min + 1, fix.Min, 5}, []fix.F{-1, -1, -1}, []fix.F{fix.Min, fix.Min, 4}}, {[]fix.F{fix.Max, fix.Min, fix.Max}, []fix.F{fix.Max, fix.Min, fix.Min}, []fix.F{fix.Max, fix.Min, -1}},
	} {
		s := shape.Shape{len(c.a)}
		a, b := tensor.Tensor{S: s, Cells: c.a}, tensor.Tensor{S: s, Cells: c.b}
		for range 2 {
			if got, err := tensor.Add(a, b); err != api.OK || !is(got, s, c.want) {
				t.Errorf("Add of %d and %d: %v, error %d", c.a, c.b, got, err)
			}
			a, b = b, a
		}
	}
	for _, s := range append(validShapes(), greatShapes()...) {
		got, err := tensor.Add(numbered(s, 3), numbered(s, -10))
		for place, x := range got.Cells {
			if x != fix.F(2*place-7) {
				t.Fatalf("Add in %v: %d at place %d", s, x, place)
			}
		}
		if err != api.OK || !slices.Equal(got.S, s) || len(got.Cells) != size(s) {
			t.Errorf("Add in %v: shape %v, %d cells, error %d", s, got.S, len(got.Cells), err)
		}
	}
}

func TestAddAndDotErrors(t *testing.T) {
	check := func(a, b tensor.Tensor) {
		t.Helper()
		for range 2 {
			if got, err := tensor.Add(a, b); err != api.ErrShape || !isZero(got) {
				t.Errorf("Add of %v with %d cells and %v with %d cells: %v, error %d", a.S, len(a.Cells), b.S, len(b.Cells), got, err)
			}
			if got, err := tensor.Dot(a, b); err != api.ErrShape || got != 0 {
				t.Errorf("Dot of %v with %d cells and %v with %d cells: %d, error %d", a.S, len(a.Cells), b.S, len(b.Cells), got, err)
			}
			a, b = b, a
		}
	}
	for _, g := range wrong() {
		check(g, g)
		check(g, numbered(shape.Shape{1}, 1))
		check(g, numbered(shape.Shape{2, 3}, 1))
		if len(g.Cells) > 0 && len(g.Cells) <= mostSide {
			check(g, numbered(shape.Shape{len(g.Cells)}, 1))
		}
	}
	for _, s := range validShapes() {
		check(numbered(s, 1), tensor.Tensor{S: s})
		check(numbered(s, 1), tensor.Tensor{S: s, Cells: make([]fix.F, size(s)+1)})
		for _, u := range validShapes() {
			if !slices.Equal(s, u) {
				check(numbered(s, 1), numbered(u, 1))
			}
		}
	}
}

func TestScale(t *testing.T) {
	two, half := fix.Int(2), fix.One.Div(fix.Int(2))
	for _, c := range []struct {
		a    []fix.F
		by   fix.F
		want []fix.F
	}{
		{[]fix.F{1, -2, 0}, fix.One, []fix.F{1, -2, 0}}, {[]fix.F{1, -2, 0}, 0, []fix.F{0, 0, 0}}, {[]fix.F{1, -2, 0}, fix.Int(-3), []fix.F{-3, 6, 0}}, {[]fix.F{fix.Int(5), fix.Int(-4)}, two, []fix.F{fix.Int(10), fix.Int(-8)}},
		// Rounded to the nearest, and to the even one in case of a tie.
		{[]fix.F{1, 2, 3, 5, -1, -3}, half, []fix.F{0, 1, 2, 2, 0, -2}},
		// Products that just fit, and that saturate.
		{[]fix.F{fix.Max / 2, fix.Max/2 + 1, fix.Min / 2, fix.Min/2 - 1}, two, []fix.F{fix.Max - 1, fix.Max, fix.Min, fix.Min}}, {[]fix.F{fix.Max, fix.Min}, -fix.One, []fix.F{-fix.Max, fix.Max}}, {[]fix.F{fix.Max, fix.Min, 1}, fix.Max, []fix.F{fix.Max, fix.Min, 1 << 31}}, {[]fix.F{fix.Max, fix.Min}, fix.Min, []fix.F{fix.Min, fix.Max}},
	} {
		s := shape.Shape{1, len(c.a)}
		if got, err := tensor.Scale(tensor.Tensor{S: s, Cells: c.a}, c.by); err != api.OK || !is(got, s, c.want) {
			t.Errorf("Scale of %d by %d: %v, error %d, not %d", c.a, c.by, got, err, c.want)
		}
	}
	for _, s := range append(validShapes(), greatShapes()...) {
		got, err := tensor.Scale(numbered(s, 3), fix.Int(-2))
		for place, x := range got.Cells {
			if x != fix.F(-2*place-6) {
				t.Fatalf("Scale in %v: %d at place %d", s, x, place)
			}
		}
		if err != api.OK || !slices.Equal(got.S, s) || len(got.Cells) != size(s) {
			t.Errorf("Scale in %v: shape %v, %d cells, error %d", s, got.S, len(got.Cells), err)
		}
	}
	for _, g := range wrong() {
		if got, err := tensor.Scale(g, fix.One); err != api.ErrShape || !isZero(got) {
			t.Errorf("Scale of %v with %d cells: %v, error %d", g.S, len(g.Cells), got, err)
		}
	}
}

func TestDot(t *testing.T) {
	for _, c := range []struct {
		a, b []fix.F
		want fix.F
	}{
		{[]fix.F{fix.Int(3)}, []fix.F{fix.Int(4)}, fix.Int(12)}, {[]fix.F{fix.Int(1), fix.Int(2)}, []fix.F{fix.Int(3), fix.Int(-4)}, fix.Int(-5)}, {[]fix.F{0, 0}, []fix.F{fix.Max, fix.Min}, 0},
		// Each product is rounded by itself.
		{[]fix.F{1, 1}, []fix.F{fix.One / 2, fix.One / 2}, 0}, {[]fix.F{3, 3}, []fix.F{fix.One / 2, fix.One / 2}, 4},
		// Products and sums that saturate; what follows is added to the saturated sum, in the order of the places.
		{[]fix.F{fix.Max}, []fix.F{fix.Max}, fix.Max}, {[]fix.F{fix.Max}, []fix.F{fix.Min}, fix.Min}, {[]fix.F{fix.Max, 1, -1}, []fix.F{fix.One, fix.One, fix.One}, fix.Max - 1}, {[]fix.F{-1, fix.Max, 1}, []fix.F{fix.One, fix.One, fix.One}, fix.Max}, {[]fix.F{fix.Min, -1, 1}, []fix.F{fix.One, fix.One, fix.One}, fix.Min + 1}, {[]fix.F{fix.Max, fix.Max, fix.Min}, []fix.F{fix.Max, fix.One, fix.One}, -1},
	} {
		s := shape.Shape{len(c.a), 1}
		a, b := tensor.Tensor{S: s, Cells: c.a}, tensor.Tensor{S: s, Cells: c.b}
		for range 2 {
			if got, err := tensor.Dot(a, b); err != api.OK || got != c.want {
				t.Errorf("Dot of %d and %d: %d, error %d, not %d", a.Cells, b.Cells, got, err, c.want)
			}
			a, b = b, a
		}
	}
	for _, s := range append(validShapes(), greatShapes()...) {
		ones, _ := tensor.Make(s, fix.One)
		n := fix.F(size(s))
		if got, err := tensor.Dot(numbered(s, 1), ones); err != api.OK || got != n*(n+1)/2 {
			t.Errorf("Dot in %v: %d, error %d, not %d", s, got, err, n*(n+1)/2)
		}
	}
}

// Neither the arguments nor their spare memory are changed, and no result shares it, or that of another result.
func TestArgumentsStayAsTheyAre(t *testing.T) {
	sides := func() shape.Shape { return shape.Shape{2, 3, 99, 98} }
	cells := func() []fix.F { return []fix.F{1, 2, 3, 4, 5, 6, 97, 96, 95, 94, 93, 92, 91, 90} }
	s, u, c, d := sides(), sides(), cells(), cells()
	a, b := tensor.Tensor{S: s[:2], Cells: c[:6]}, tensor.Tensor{S: u[:2], Cells: d[:6]}
	for _, call := range []struct {
		name string
		make func() (tensor.Tensor, api.Errno)
	}{
		{"Of", func() (tensor.Tensor, api.Errno) { return tensor.Of(a.S, a.Cells) }},
		{"Make", func() (tensor.Tensor, api.Errno) { return tensor.Make(a.S, fix.F(4)) }},
		{"Copy", func() (tensor.Tensor, api.Errno) { return a.Copy(), api.OK }},
		{"With", func() (tensor.Tensor, api.Errno) { return a.With(8, 1, 1) }},
		{"With of the same cell", func() (tensor.Tensor, api.Errno) { return a.With(5, 1, 1) }},
		{"Cut of rows", func() (tensor.Tensor, api.Errno) { return a.Cut(0, 0, 1) }},
		{"Cut of columns", func() (tensor.Tensor, api.Errno) { return a.Cut(1, 1, 3) }},
		{"Cut of a whole side", func() (tensor.Tensor, api.Errno) { return a.Cut(0, 0, 2) }},
		{"Cut of the whole other side", func() (tensor.Tensor, api.Errno) { return a.Cut(1, 0, 3) }},
		{"Join of rows", func() (tensor.Tensor, api.Errno) { return tensor.Join(a, b, 0) }},
		{"Join of columns", func() (tensor.Tensor, api.Errno) { return tensor.Join(a, b, 1) }},
		{"Join of one grid", func() (tensor.Tensor, api.Errno) { return tensor.Join(a, a, 0) }},
		{"Add", func() (tensor.Tensor, api.Errno) { return tensor.Add(a, b) }},
		{"Add of one grid", func() (tensor.Tensor, api.Errno) { return tensor.Add(a, a) }},
		{"Scale", func() (tensor.Tensor, api.Errno) { return tensor.Scale(a, fix.Int(3)) }},
		{"Scale by 1", func() (tensor.Tensor, api.Errno) { return tensor.Scale(a, fix.One) }},
	} {
		first, err := call.make()
		second, _ := call.make()
		kept := first.Copy()
		if err != api.OK || !first.Right() || !tensor.Equal(first, second) {
			t.Errorf("%s: %v, error %d, and %v", call.name, first, err, second)
		}
		overwrite(first, -1)
		if !tensor.Equal(second, kept) {
			t.Errorf("%s: two results share their memory", call.name)
		}
		if !slices.Equal(s, sides()) || !slices.Equal(u, sides()) || !slices.Equal(c, cells()) || !slices.Equal(d, cells()) {
			t.Fatalf("%s changed or shares an argument: %v, %v, %v, %v", call.name, s, u, c, d)
		}
		overwrite(a, -1)
		overwrite(b, -1)
		if !tensor.Equal(second, kept) {
			t.Errorf("%s retains an argument: %v", call.name, second)
		}
		copy(s, sides())
		copy(u, sides())
		copy(c, cells())
		copy(d, cells())
	}
	a.Right()
	a.Get(1, 2)
	tensor.Equal(a, b)
	tensor.Dot(a, b)
	if !slices.Equal(s, sides()) || !slices.Equal(u, sides()) || !slices.Equal(c, cells()) || !slices.Equal(d, cells()) {
		t.Errorf("an argument was changed: %v, %v, %v, %v", s, u, c, d)
	}
}

// One list is the indices and the shape, or the shape and the cells.
func TestArgumentsThatShareMemory(t *testing.T) {
	list := []int{1, 1, 1}
	g := tensor.Grid[int]{S: list, Cells: list[:1]}
	got, err := g.With(7, 0, 0, 0)
	if err != api.OK || !is(got, shape.Shape{1, 1, 1}, []int{7}) || !slices.Equal(list, []int{1, 1, 1}) {
		t.Errorf("With: %v, error %d, %v", got, err, list)
	}
	if got, err := g.Get(list...); got != 0 || err != api.ErrRange {
		t.Errorf("Get: %d, error %d", got, err)
	}
	copied := g.Copy()
	copied.Cells[0] = 5
	if !is(copied, shape.Shape{1, 1, 1}, []int{5}) {
		t.Errorf("Copy: %v", copied)
	}
}

// The example of the chapter.
func TestExamples(t *testing.T) {
	a, _ := tensor.Of(shape.Shape{2}, []fix.F{fix.Int(1), fix.Int(2)})
	b, _ := tensor.Of(shape.Shape{2}, []fix.F{fix.Int(3), fix.Int(4)})
	if got, err := tensor.Add(a, b); err != api.OK || !is(got, shape.Shape{2}, []fix.F{fix.Int(4), fix.Int(6)}) {
		t.Errorf("Add of 1, 2 and 3, 4: %v, error %d", got, err)
	}
}

// P1 of DOC.md: no arguments make a function panic.
func TestAllArguments(t *testing.T) {
	list := append(wrong(), tensor.Tensor{})
	for _, s := range append(validShapes(), shape.Shape{1024}, shape.Shape{64, 1024}) {
		list = append(list, numbered(s, fix.Max-2))
	}
	numbers := []int{math.MinInt, -1, 0, 1, 2, 4, mostSide, mostWords, math.MaxInt}
	for i, g := range list {
		h := list[(i*7+3)%len(list)]
		g.Right()
		g.Copy()
		tensor.Make(g.S, h.Cells)
		tensor.Of(g.S, h.Cells)
		tensor.Equal(g, h)
		tensor.Add(g, h)
		tensor.Dot(g, h)
		tensor.Scale(g, fix.Min)
		g.Get(h.S...)
		g.With(1, h.S...)
		for _, n := range numbers {
			g.Get(n)
			g.With(fix.F(n), n, n)
			g.Cut(n, 0, 1)
			g.Cut(0, n, 1)
			g.Cut(0, 0, n)
			g.Cut(0, n, n)
			tensor.Join(g, h, n)
			tensor.Join(g, g, n)
		}
	}
}
