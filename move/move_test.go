package move_test

import (
	"math"
	"slices"
	"testing"

	"athanor/api"
	"athanor/fix"
	"athanor/move"
	"athanor/shape"
	"athanor/tensor"
)

const (
	one  = fix.One
	most = fix.Max
	last = fix.Min
)

type (
	dims = shape.Shape
	list = []tensor.Tensor
)

// of is a tensor with this shape and these cells.
func of(s dims, cells ...fix.F) tensor.Tensor {
	return tensor.Tensor{S: s, Cells: cells}
}

// size is the product of the sides.
func size(sides ...int) int {
	n := 1
	for _, length := range sides {
		n *= length
	}
	return n
}

// run is a tensor whose cells are consecutive integers from first on.
func run(first int, sides ...int) tensor.Tensor {
	cells := make([]fix.F, size(sides...))
	for i := range cells {
		cells[i] = fix.F(first + i)
	}
	return of(sides, cells...)
}

// mixed is a tensor whose cells are numbers of all magnitudes, some at the bounds; another seed gives other cells.
func mixed(seed int, sides ...int) tensor.Tensor {
	numbers := []fix.F{one, most, -3, one / 2, 0, last, 7*one/3 + 1, -one, 1 << 47, most / 2, 1, -1 << 47, last / 2, 6, most - 1, 3, last + 1, -1, 1 << 62, -1 << 62}
	cells := make([]fix.F, size(sides...))
	state := uint32(seed)*2654435761 + 12345
	for i := range cells {
		state = state*1664525 + 1013904223
		cells[i] = numbers[int(state>>8)%len(numbers)]
	}
	return of(sides, cells...)
}

// withSide is the shape in which one side has this length.
func withSide(s dims, side, length int) dims {
	changed := slices.Clone(s)
	changed[side] = length
	return changed
}

// steps are the numbers of the choices of the indices before a dimension, in it, and after it.
func steps(s dims, side int) (before, length, after int) {
	return size(s[:side]...), s[side], size(s[side+1:]...)
}

// wantMoved copies the cells of x to those of y, whose index in one dimension is greater by shift; cells whose new index is out of its side are left out.
func wantMoved(x, y tensor.Tensor, side, shift int) {
	before, ofX, after := steps(x.S, side)
	_, ofY, _ := steps(y.S, side)
	for i := range before {
		for k := max(0, -shift); k < ofX && k+shift < ofY; k++ {
			for j := range after {
				y.Cells[(i*ofY+k+shift)*after+j] = x.Cells[(i*ofX+k)*after+j]
			}
		}
	}
}

// zeros is a tensor of zeros.
func zeros(s dims) tensor.Tensor {
	return of(s, make([]fix.F, size(s...))...)
}

// wantJoin is what the chapter says of joining tensors that can be joined.
func wantJoin(side int, l ...tensor.Tensor) tensor.Tensor {
	length := 0
	for _, x := range l {
		length += x.S[side]
	}
	joined := zeros(withSide(l[0].S, side, length))
	from := 0
	for _, x := range l {
		wantMoved(x, joined, side, from)
		from += x.S[side]
	}
	return joined
}

// wantCut is what the chapter says of a part that there is.
func wantCut(x tensor.Tensor, side, from, to int) tensor.Tensor {
	part := zeros(withSide(x.S, side, to-from))
	wantMoved(x, part, side, -from)
	return part
}

// wantCutBack is what the chapter says of the gradient of a part that there is.
func wantCutBack(s dims, g tensor.Tensor, side, from int) tensor.Tensor {
	back := zeros(s)
	wantMoved(g, back, side, from)
	return back
}

// wrongShapes are shapes that are not valid.
func wrongShapes() []dims {
	return []dims{
		nil, {}, {0}, {-1}, {-2}, {1025}, {65536}, {1 << 62}, {math.MaxInt}, {math.MinInt},
		{0, 2}, {2, 0}, {0, 0}, {-1, 3}, {1, -3}, {-1, -3}, {-2, -3}, {1, 1025}, {1025, 1}, {65, 1024}, {257, 256}, {2, 1 << 62}, {1 << 32, 1 << 32}, {math.MinInt, math.MinInt}, {math.MinInt, 2},
		{0, 1, 2}, {1, 0, 2}, {1, 1, 0}, {-1, -1, 2}, {1, -2, -3}, {1, 1025, 1}, {64, 2, 513}, {1024, 1024, 1024}, {math.MaxInt, math.MaxInt, math.MaxInt},
		{0, 1, 1, 2}, {1, 1, 1, 0}, {1, 1, -2, -3}, {1, 1, 1, 1025}, {1025, 1, 1, 1}, {16, 16, 16, 17}, {1024, 1024, 1024, 1024},
		{1, 1, 1, 1, 1}, {1, 1, 1, 1, 6}, {6, 1, 1, 1, 1}, {1, 1, 1, 1, 1, 6},
	}
}

// wrong are tensors that are not valid: by their shape, some with the number of cells that is needed, or by their number of cells.
func wrong() list {
	var l list
	for _, s := range wrongShapes() {
		for _, n := range []int{0, 1, 2, 6} {
			l = append(l, of(s, make([]fix.F, n)...))
		}
	}
	l = append(l, of(dims{1025}, make([]fix.F, 1025)...), of(dims{65, 1024}, make([]fix.F, 65*1024)...))
	for _, s := range []dims{{1}, {2}, {6}, {1, 6}, {2, 3}, {3, 2}, {1, 2, 3}, {2, 2, 2}, {1, 1, 1, 1}, {2, 1, 1, 3}} {
		n := size(s...)
		for _, m := range []int{0, 1, n - 1, n + 1, 2 * n} {
			if m != n {
				l = append(l, tensor.Tensor{S: s, Cells: make([]fix.F, m)}, tensor.Tensor{S: s, Cells: make([]fix.F, m, m+n)})
			}
		}
	}
	return l
}

// someWrong are a few of them.
func someWrong() list {
	return list{{}, of(dims{2, 3}), run(1, 2, 3, 0), of(dims{2, 3}, 1, 2, 3, 4, 5), of(dims{2, 3}, 1, 2, 3, 4, 5, 6, 7), of(nil, 1, 2, 3, 4, 5, 6), of(dims{-2, -3}, 1, 2, 3, 4, 5, 6), of(dims{1, 1, 1, 1, 6}, 1, 2, 3, 4, 5, 6)}
}

// noDimensions are numbers of no dimension of a shape with n sides.
func noDimensions(n int) []int {
	return []int{-1, -2, n, n + 1, 256, 1 << 32, math.MaxInt, math.MinInt}
}

// is reports whether a tensor has this shape and these cells.
func is(g tensor.Tensor, s dims, cells []fix.F) bool {
	return slices.Equal(g.S, s) && slices.Equal(g.Cells, cells)
}

// same reports whether two tensors have the same shape and the same cells.
func same(a, b tensor.Tensor) bool {
	return is(a, b.S, b.Cells)
}

// none reports whether a tensor is its zero value.
func none(g tensor.Tensor) bool {
	return len(g.S) == 0 && len(g.Cells) == 0
}

// outline tells what tensors are without their cells.
func outline(l ...tensor.Tensor) (told []any) {
	for _, x := range l {
		told = append(told, x.S, len(x.Cells))
	}
	return told
}

// The example of the chapter.
func TestExample(t *testing.T) {
	l := list{of(dims{1}, one), of(dims{1}, 2*one), of(dims{1}, 3*one)}
	joined, err := move.Join(0, l...)
	if err != api.OK || !is(joined, dims{3}, []fix.F{one, 2 * one, 3 * one}) {
		t.Errorf("Join: %v, error %d", joined, err)
	}
	back, err := move.JoinBack(0, of(dims{3}, 4*one, 5*one, 6*one), l...)
	if err != api.OK || len(back) != 3 || !is(back[0], dims{1}, []fix.F{4 * one}) || !is(back[1], dims{1}, []fix.F{5 * one}) || !is(back[2], dims{1}, []fix.F{6 * one}) {
		t.Errorf("JoinBack: %v, error %d", back, err)
	}
}

// P9.1

// checkJoin compares Join and JoinBack with a literal tensor and literal gradients.
func checkJoin(t *testing.T, side int, l list, out, g tensor.Tensor, back list) {
	t.Helper()
	if got, err := move.Join(side, l...); err != api.OK || !same(got, out) {
		t.Errorf("Join of %v along %d: %v, error %d, not %v", l, side, got, err, out)
	}
	if got, err := move.JoinBack(side, g, l...); err != api.OK || !slices.EqualFunc(got, back, same) {
		t.Errorf("JoinBack of %v, g %v along %d: %v, error %d, not %v", l, g, side, got, err, back)
	}
}

func TestJoin(t *testing.T) {
	for _, c := range []struct {
		side   int
		l      list
		out, g tensor.Tensor
		back   list
	}{
		// One side.
		{0, list{of(dims{2}, 1, 2), of(dims{3}, 3, 4, 5)}, of(dims{5}, 1, 2, 3, 4, 5), of(dims{5}, 10, 20, 30, 40, 50), list{of(dims{2}, 10, 20), of(dims{3}, 30, 40, 50)}},
		{0, list{of(dims{3}, 3, 4, 5), of(dims{2}, 1, 2)}, of(dims{5}, 3, 4, 5, 1, 2), of(dims{5}, 10, 20, 30, 40, 50), list{of(dims{3}, 10, 20, 30), of(dims{2}, 40, 50)}},
		{0, list{of(dims{1}, 9), of(dims{2}, 7, 8), of(dims{1}, 9), of(dims{1}, 6)}, of(dims{5}, 9, 7, 8, 9, 6), of(dims{5}, 5, 4, 3, 2, 1), list{of(dims{1}, 5), of(dims{2}, 4, 3), of(dims{1}, 2), of(dims{1}, 1)}},
		// A single tensor.
		{0, list{of(dims{1}, 7)}, of(dims{1}, 7), of(dims{1}, -7), list{of(dims{1}, -7)}},
		{0, list{of(dims{2, 2}, 1, 2, 3, 4)}, of(dims{2, 2}, 1, 2, 3, 4), of(dims{2, 2}, 5, 6, 7, 8), list{of(dims{2, 2}, 5, 6, 7, 8)}},
		{1, list{of(dims{2, 2}, 1, 2, 3, 4)}, of(dims{2, 2}, 1, 2, 3, 4), of(dims{2, 2}, 5, 6, 7, 8), list{of(dims{2, 2}, 5, 6, 7, 8)}},
		{2, list{run(1, 1, 3, 2)}, run(1, 1, 3, 2), run(11, 1, 3, 2), list{run(11, 1, 3, 2)}},
		{3, list{run(1, 1, 3, 1, 2)}, run(1, 1, 3, 1, 2), run(11, 1, 3, 1, 2), list{run(11, 1, 3, 1, 2)}},
		// Two sides: along the first and the last.
		{0, list{run(1, 1, 3), run(4, 2, 3)}, run(1, 3, 3), run(11, 3, 3), list{run(11, 1, 3), run(14, 2, 3)}},
		{1, list{of(dims{2, 1}, 1, 2), of(dims{2, 2}, 3, 4, 5, 6), of(dims{2, 1}, 7, 8)}, of(dims{2, 4}, 1, 3, 4, 7, 2, 5, 6, 8), of(dims{2, 4}, 10, 20, 30, 40, 50, 60, 70, 80), list{of(dims{2, 1}, 10, 50), of(dims{2, 2}, 20, 30, 60, 70), of(dims{2, 1}, 40, 80)}},
		{1, list{of(dims{3, 1}, 1, 2, 3), of(dims{3, 1}, 4, 5, 6)}, of(dims{3, 2}, 1, 4, 2, 5, 3, 6), of(dims{3, 2}, 10, 20, 30, 40, 50, 60), list{of(dims{3, 1}, 10, 30, 50), of(dims{3, 1}, 20, 40, 60)}},
		{1, list{run(1, 1, 2), run(3, 1, 3)}, run(1, 1, 5), run(11, 1, 5), list{run(11, 1, 2), run(13, 1, 3)}},
		// Three sides: along the first, the inner and the last.
		{0, list{run(1, 1, 2, 2), run(5, 1, 2, 2), run(9, 2, 2, 2)}, run(1, 4, 2, 2), run(21, 4, 2, 2), list{run(21, 1, 2, 2), run(25, 1, 2, 2), run(29, 2, 2, 2)}},
		{1, list{run(1, 2, 1, 2), run(5, 2, 2, 2)}, of(dims{2, 3, 2}, 1, 2, 5, 6, 7, 8, 3, 4, 9, 10, 11, 12), run(21, 2, 3, 2), list{of(dims{2, 1, 2}, 21, 22, 27, 28), of(dims{2, 2, 2}, 23, 24, 25, 26, 29, 30, 31, 32)}},
		{2, list{run(1, 2, 2, 1), run(5, 2, 2, 2)}, of(dims{2, 2, 3}, 1, 5, 6, 2, 7, 8, 3, 9, 10, 4, 11, 12), run(21, 2, 2, 3), list{of(dims{2, 2, 1}, 21, 24, 27, 30), of(dims{2, 2, 2}, 22, 23, 25, 26, 28, 29, 31, 32)}},
		// Four sides: along each.
		{0, list{run(1, 1, 1, 2, 2), run(5, 2, 1, 2, 2)}, run(1, 3, 1, 2, 2), run(21, 3, 1, 2, 2), list{run(21, 1, 1, 2, 2), run(25, 2, 1, 2, 2)}},
		{1, list{run(1, 2, 1, 1, 2), run(5, 2, 2, 1, 2)}, of(dims{2, 3, 1, 2}, 1, 2, 5, 6, 7, 8, 3, 4, 9, 10, 11, 12), run(21, 2, 3, 1, 2), list{of(dims{2, 1, 1, 2}, 21, 22, 27, 28), of(dims{2, 2, 1, 2}, 23, 24, 25, 26, 29, 30, 31, 32)}},
		{2, list{run(1, 1, 2, 1, 2), run(5, 1, 2, 2, 2)}, of(dims{1, 2, 3, 2}, 1, 2, 5, 6, 7, 8, 3, 4, 9, 10, 11, 12), run(21, 1, 2, 3, 2), list{of(dims{1, 2, 1, 2}, 21, 22, 27, 28), of(dims{1, 2, 2, 2}, 23, 24, 25, 26, 29, 30, 31, 32)}},
		{3, list{run(1, 2, 1, 2, 1), run(5, 2, 1, 2, 2)}, of(dims{2, 1, 2, 3}, 1, 5, 6, 2, 7, 8, 3, 9, 10, 4, 11, 12), run(21, 2, 1, 2, 3), list{of(dims{2, 1, 2, 1}, 21, 24, 27, 30), of(dims{2, 1, 2, 2}, 22, 23, 25, 26, 28, 29, 31, 32)}},
		// Cells at the bounds are only moved.
		{0, list{of(dims{2}, most, last), of(dims{1}, most), of(dims{2}, last, most-1)}, of(dims{5}, most, last, most, last, most-1), of(dims{5}, last, last, most, most, last+1), list{of(dims{2}, last, last), of(dims{1}, most), of(dims{2}, most, last+1)}},
		{1, list{of(dims{2, 1}, most, last), of(dims{2, 1}, most, last)}, of(dims{2, 2}, most, most, last, last), of(dims{2, 2}, most, last, last, most), list{of(dims{2, 1}, most, last), of(dims{2, 1}, last, most)}},
	} {
		checkJoin(t, c.side, c.l, c.out, c.g, c.back)
	}
}

// All cells are compared with what the chapter says, along each dimension of shapes of many kinds; joined again, the gradients give g.
func TestJoinOfAllCells(t *testing.T) {
	for _, s := range []dims{{1}, {5}, {1, 1}, {3, 4}, {4, 3}, {1, 7}, {2, 3, 4}, {4, 1, 3}, {2, 3, 2, 3}, {3, 1, 2, 1}, {7, 5, 3, 2}} {
		for side := range s {
			for _, lengths := range [][]int{{1}, {4}, {1, 1}, {1, 3}, {3, 1}, {2, 1, 3}, {1, 1, 1}, {3, 2, 1, 5}, {1, 2, 3, 4, 1, 2, 3, 4}, {2, 1, 1, 1, 1, 1, 1, 1, 1, 1, 1, 2}} {
				var l list
				for i, length := range lengths {
					l = append(l, mixed(i, withSide(s, side, length)...))
				}
				compareJoin(t, side, l)
			}
		}
	}
}

// compareJoin compares Join and JoinBack with what the chapter says of tensors that can be joined.
func compareJoin(t *testing.T, side int, l list) {
	t.Helper()
	out := wantJoin(side, l...)
	if got, err := move.Join(side, l...); err != api.OK || !same(got, out) {
		t.Errorf("Join of %v along %d: shape %v, error %d, or wrong cells", outline(l...), side, got.S, err)
	}
	g := mixed(99, out.S...)
	back, err := move.JoinBack(side, g, l...)
	if err != api.OK || len(back) != len(l) {
		t.Fatalf("JoinBack of %v along %d: %d gradients, error %d", outline(l...), side, len(back), err)
	}
	from := 0
	for i, x := range l {
		to := from + x.S[side]
		if !same(back[i], wantCut(g, side, from, to)) {
			t.Errorf("JoinBack of %v along %d: gradient %d has the shape %v, or wrong cells", outline(l...), side, i, back[i].S)
		}
		from = to
	}
	if again, err := move.Join(side, back...); err != api.OK || !same(again, g) {
		t.Errorf("the gradients of %v, joined along %d: shape %v, error %d, or other cells than those of g", outline(l...), side, again.S, err)
	}
}

// Tensors whose output is as large as it may be, and those whose output would be larger.
func TestJoinAtTheLimits(t *testing.T) {
	units := slices.Repeat(list{of(dims{1}, 7)}, 1024)
	compareJoin(t, 0, units)
	compareJoin(t, 0, list{mixed(1, 1023), mixed(2, 1)})
	compareJoin(t, 2, list{mixed(1, 1, 1, 512), mixed(2, 1, 1, 512)})
	compareJoin(t, 0, list{mixed(1, 32, 1024), mixed(2, 32, 1024)})
	compareJoin(t, 1, list{mixed(1, 64, 1000), mixed(2, 64, 23), mixed(3, 64, 1)})
	compareJoin(t, 1, list{mixed(1, 16, 8, 16, 16), mixed(2, 16, 7, 16, 16), mixed(3, 16, 1, 16, 16)})
	compareJoin(t, 1, slices.Repeat(list{mixed(1, 1024, 1)}, 64))
	for _, c := range []struct {
		side int
		l    list
	}{
		{0, append(slices.Clone(units), of(dims{1}, 7))},
		{0, list{mixed(1, 1024), mixed(2, 1)}},
		{0, list{mixed(1, 1), mixed(2, 1024)}},
		{0, list{mixed(1, 600), mixed(2, 424), mixed(3, 1)}},
		{2, list{mixed(1, 1, 1, 512), mixed(2, 1, 1, 513)}},
		{0, list{mixed(1, 64, 1024), mixed(2, 1, 1024)}},
		{0, list{mixed(1, 32, 1024), mixed(2, 31, 1024), mixed(3, 2, 1024)}},
		{1, list{mixed(1, 1024, 64), mixed(2, 1024, 1)}},
		{3, list{mixed(1, 16, 16, 16, 16), mixed(2, 16, 16, 16, 1)}},
	} {
		refusesJoin(t, c.side, c.l, api.ErrShape)
	}
}

// refusesJoin checks that Join and JoinBack return this error and nothing else, whatever g is.
func refusesJoin(t *testing.T, side int, l list, want api.Errno) {
	t.Helper()
	if got, err := move.Join(side, l...); err != want || !none(got) {
		t.Errorf("Join of %v along %d: shape %v, error %d, not %d", outline(l...), side, got.S, err, want)
	}
	for _, g := range slices.Concat(someWrong(), l[:min(len(l), 4)], list{run(1, 2, 3), run(1, 1)}) {
		refusesJoinBack(t, side, g, l, want)
	}
}

func refusesJoinBack(t *testing.T, side int, g tensor.Tensor, l list, want api.Errno) {
	t.Helper()
	if got, err := move.JoinBack(side, g, l...); err != want || len(got) != 0 {
		t.Errorf("JoinBack of %v, g %v along %d: %d gradients, error %d, not %d", outline(l...), outline(g), side, len(got), err, want)
	}
}

// No tensors, and a single one that is not valid, or that is valid and does not have the dimension.
func TestJoinOfNoneAndOne(t *testing.T) {
	for _, side := range append(noDimensions(4), 0, 1, 2, 3) {
		refusesJoin(t, side, nil, api.ErrShape)
		refusesJoin(t, side, list{}, api.ErrShape)
		for _, bad := range wrong() {
			refusesJoin(t, side, list{bad}, api.ErrShape)
		}
	}
	for _, s := range []dims{{1}, {3}, {1024}, {2, 3}, {1, 1}, {2, 2, 2}, {1, 2, 1, 3}} {
		x := mixed(1, s...)
		for _, side := range noDimensions(len(s)) {
			refusesJoin(t, side, list{x}, api.ErrRange)
		}
		for side := range s {
			checkJoin(t, side, list{x}, x, mixed(2, s...), list{mixed(2, s...)})
		}
	}
}

func TestJoinErrors(t *testing.T) {
	bad, short, long := of(dims{2, 0}), of(dims{2, 3}, 1, 2, 3, 4, 5), of(dims{2, 3}, 1, 2, 3, 4, 5, 6, 7)
	a, b, c := run(1, 2, 3), run(7, 2, 3), run(13, 2, 3)
	other, flat, deep := run(1, 4, 5), run(1, 6), run(1, 1, 2, 3)
	for _, x := range []struct {
		side int
		l    list
		want api.Errno
	}{
		// Two: not valid, numbers of sides, no such dimension, another side.
		{0, list{bad, a}, api.ErrShape}, {0, list{a, bad}, api.ErrShape}, {0, list{short, a}, api.ErrShape}, {0, list{a, short}, api.ErrShape}, {1, list{long, a}, api.ErrShape}, {1, list{a, long}, api.ErrShape},
		{2, list{bad, a}, api.ErrShape}, {-1, list{a, bad}, api.ErrShape}, {2, list{short, a}, api.ErrShape}, {2, list{a, long}, api.ErrShape}, {7, list{bad, bad}, api.ErrShape}, {7, list{short, long}, api.ErrShape},
		{0, list{a, flat}, api.ErrShape}, {0, list{flat, a}, api.ErrShape}, {1, list{a, deep}, api.ErrShape}, {2, list{deep, a}, api.ErrShape}, {-1, list{a, flat}, api.ErrShape}, {1, list{flat, a}, api.ErrShape}, {3, list{a, deep}, api.ErrShape},
		{2, list{a, b}, api.ErrRange}, {-1, list{a, b}, api.ErrRange}, {math.MaxInt, list{a, b}, api.ErrRange}, {math.MinInt, list{a, b}, api.ErrRange}, {2, list{a, other}, api.ErrRange}, {-1, list{other, a}, api.ErrRange}, {1, list{flat, flat}, api.ErrRange}, {3, list{deep, deep}, api.ErrRange},
		{0, list{a, other}, api.ErrShape}, {1, list{a, other}, api.ErrShape}, {0, list{a, run(1, 2, 2)}, api.ErrShape}, {1, list{a, run(1, 1, 3)}, api.ErrShape}, {1, list{run(1, 1, 2, 2), run(1, 1, 2, 3)}, api.ErrShape}, {2, list{run(1, 1, 2, 2), run(1, 2, 2, 2)}, api.ErrShape}, {3, list{run(1, 1, 2, 2, 1), run(1, 1, 1, 2, 1)}, api.ErrShape},
		// Three and more: the first error, also where a later tensor leads to another one.
		{2, list{a, b, c}, api.ErrRange}, {2, list{a, b, bad}, api.ErrRange}, {2, list{a, b, short}, api.ErrRange}, {-1, list{a, b, long, bad}, api.ErrRange}, {2, list{a, b, flat}, api.ErrRange}, {2, list{a, other, bad}, api.ErrRange}, {5, list{a, b, c, deep}, api.ErrRange}, {1, list{flat, flat, a}, api.ErrRange}, {2, list{a, b, deep}, api.ErrRange},
		{2, list{a, bad, b}, api.ErrShape}, {2, list{bad, a, b}, api.ErrShape}, {2, list{short, a, b}, api.ErrShape}, {2, list{a, flat, b}, api.ErrShape}, {2, list{a, deep, deep}, api.ErrShape}, {0, list{a, flat, b}, api.ErrShape}, {2, list{deep, a, a}, api.ErrShape},
		{0, list{a, b, bad}, api.ErrShape}, {0, list{a, b, short}, api.ErrShape}, {1, list{a, b, long}, api.ErrShape}, {0, list{a, b, c, flat}, api.ErrShape}, {0, list{a, b, deep}, api.ErrShape}, {1, list{a, b, c, other}, api.ErrShape}, {0, list{a, b, c, run(1, 2, 2)}, api.ErrShape}, {0, list{flat, flat, a}, api.ErrShape},
	} {
		refusesJoin(t, x.side, x.l, x.want)
	}
}

// Of up to three tensors, valid or not, the result is that of layer 4's Join, applied to one tensor after the other.
func TestJoinOneAfterTheOther(t *testing.T) {
	l := append(someWrong(), run(1, 1), run(2, 3), mixed(1, 1024), mixed(2, 1000), run(3, 2, 3), run(4, 2, 1), run(5, 1, 3), mixed(3, 64, 1024), mixed(4, 1, 1024), run(6, 1, 2, 3), run(7, 1, 1, 2, 3), run(8, 1, 2, 2, 3))
	for side := -1; side <= 4; side++ {
		for _, a := range l {
			for _, b := range l {
				two, errOfTwo := tensor.Join(a, b, side)
				got, err := move.Join(side, a, b)
				if err != errOfTwo || !same(got, two) {
					t.Fatalf("Join of %v along %d: shape %v, error %d, not %v, %d", outline(a, b), side, got.S, err, two.S, errOfTwo)
				}
				for _, c := range l {
					want, wantErr := two, errOfTwo
					if errOfTwo == api.OK {
						want, wantErr = tensor.Join(two, c, side)
					}
					if got, err := move.Join(side, a, b, c); err != wantErr || !same(got, want) {
						t.Fatalf("Join of %v along %d: shape %v, error %d, not %v, %d", outline(a, b, c), side, got.S, err, want.S, wantErr)
					}
				}
			}
		}
	}
}

// An output gradient that is not valid, or that has another shape than the output, also with as many cells.
func TestJoinBackOfAnotherGradient(t *testing.T) {
	for _, c := range []struct {
		side int
		l    list
		out  dims
	}{
		{0, list{run(1, 6)}, dims{6}}, {0, list{run(1, 2), run(1, 4)}, dims{6}}, {0, list{run(1, 1, 3), run(1, 1, 3)}, dims{2, 3}}, {1, list{run(1, 2, 1), run(1, 2, 1), run(1, 2, 1)}, dims{2, 3}}, {1, list{run(1, 2, 3)}, dims{2, 3}},
		{1, list{run(1, 1, 1, 3), run(1, 1, 1, 3)}, dims{1, 2, 3}}, {3, list{run(1, 2, 1, 1, 1), run(1, 2, 1, 1, 2)}, dims{2, 1, 1, 3}},
	} {
		for _, bad := range wrong() {
			refusesJoinBack(t, c.side, bad, c.l, api.ErrShape)
		}
		for _, cells := range []int{0, 1, 5, 7, 12} {
			refusesJoinBack(t, c.side, of(c.out, make([]fix.F, cells)...), c.l, api.ErrShape)
		}
		for _, s := range append(shapesOf(6, 4), dims{1}, dims{5}, dims{7}, dims{2, 2}, dims{1, 1, 2}, dims{64, 1024}, c.l[0].S) {
			if !slices.Equal(s, c.out) {
				refusesJoinBack(t, c.side, run(1, s...), c.l, api.ErrShape)
			}
		}
		if _, err := move.JoinBack(c.side, run(1, c.out...), c.l...); err != api.OK {
			t.Errorf("JoinBack of %v along %d: error %d", outline(c.l...), c.side, err)
		}
	}
}

// One tensor is joined several times, and is the output gradient as well.
func TestOneTensor(t *testing.T) {
	x := of(dims{1, 2}, 5, most)
	checkJoin(t, 0, list{x, x, x}, of(dims{3, 2}, 5, most, 5, most, 5, most), of(dims{3, 2}, 1, 2, 3, 4, 5, 6), list{of(dims{1, 2}, 1, 2), of(dims{1, 2}, 3, 4), of(dims{1, 2}, 5, 6)})
	checkJoin(t, 1, list{x}, x, x, list{x})
	refusesJoinBack(t, 1, x, list{x, x}, api.ErrShape)
	checkCut(t, x, 1, 0, 2, x, x, x)
	if got, err := move.TurnBack(x, x); err != api.OK || !is(got, dims{1, 2}, []fix.F{5, most}) {
		t.Errorf("TurnBack: %v, error %d", got, err)
	}
	if !is(x, dims{1, 2}, []fix.F{5, most}) {
		t.Errorf("the argument was changed: %v", x)
	}
}

// P9.2

// checkCut compares Cut and CutBack with a literal tensor and a literal gradient.
func checkCut(t *testing.T, x tensor.Tensor, side, from, to int, out, g, back tensor.Tensor) {
	t.Helper()
	if got, err := move.Cut(x, side, from, to); err != api.OK || !same(got, out) {
		t.Errorf("Cut of %v along %d from %d to %d: %v, error %d, not %v", x, side, from, to, got, err, out)
	}
	if got, err := move.CutBack(x, g, side, from, to); err != api.OK || !same(got, back) {
		t.Errorf("CutBack of %v, g %v along %d from %d to %d: %v, error %d, not %v", x, g, side, from, to, got, err, back)
	}
}

func TestCut(t *testing.T) {
	for _, c := range []struct {
		x              tensor.Tensor
		side, from, to int
		out, g, back   tensor.Tensor
	}{
		// The first, an inner and the last part, and the whole side.
		{run(1, 5), 0, 0, 2, of(dims{2}, 1, 2), of(dims{2}, 7, 8), of(dims{5}, 7, 8, 0, 0, 0)},
		{run(1, 5), 0, 1, 3, of(dims{2}, 2, 3), of(dims{2}, 7, 8), of(dims{5}, 0, 7, 8, 0, 0)},
		{run(1, 5), 0, 3, 5, of(dims{2}, 4, 5), of(dims{2}, 7, 8), of(dims{5}, 0, 0, 0, 7, 8)},
		{run(1, 5), 0, 4, 5, of(dims{1}, 5), of(dims{1}, 7), of(dims{5}, 0, 0, 0, 0, 7)},
		{run(1, 5), 0, 0, 5, run(1, 5), run(11, 5), run(11, 5)},
		{of(dims{1}, 3), 0, 0, 1, of(dims{1}, 3), of(dims{1}, -4), of(dims{1}, -4)},
		// Two sides.
		{run(1, 3, 2), 0, 0, 1, of(dims{1, 2}, 1, 2), of(dims{1, 2}, 7, 8), of(dims{3, 2}, 7, 8, 0, 0, 0, 0)},
		{run(1, 3, 2), 0, 1, 2, of(dims{1, 2}, 3, 4), of(dims{1, 2}, 7, 8), of(dims{3, 2}, 0, 0, 7, 8, 0, 0)},
		{run(1, 3, 2), 0, 1, 3, of(dims{2, 2}, 3, 4, 5, 6), of(dims{2, 2}, 6, 7, 8, 9), of(dims{3, 2}, 0, 0, 6, 7, 8, 9)},
		{run(1, 3, 2), 1, 0, 1, of(dims{3, 1}, 1, 3, 5), of(dims{3, 1}, 7, 8, 9), of(dims{3, 2}, 7, 0, 8, 0, 9, 0)},
		{run(1, 3, 2), 1, 1, 2, of(dims{3, 1}, 2, 4, 6), of(dims{3, 1}, 7, 8, 9), of(dims{3, 2}, 0, 7, 0, 8, 0, 9)},
		{run(1, 2, 4), 1, 1, 3, of(dims{2, 2}, 2, 3, 6, 7), of(dims{2, 2}, 11, 12, 13, 14), of(dims{2, 4}, 0, 11, 12, 0, 0, 13, 14, 0)},
		{run(1, 3, 2), 1, 0, 2, run(1, 3, 2), run(11, 3, 2), run(11, 3, 2)},
		// Three and four sides.
		{run(1, 2, 3, 2), 0, 1, 2, run(7, 1, 3, 2), run(21, 1, 3, 2), of(dims{2, 3, 2}, 0, 0, 0, 0, 0, 0, 21, 22, 23, 24, 25, 26)},
		{run(1, 2, 3, 2), 1, 1, 2, of(dims{2, 1, 2}, 3, 4, 9, 10), run(21, 2, 1, 2), of(dims{2, 3, 2}, 0, 0, 21, 22, 0, 0, 0, 0, 23, 24, 0, 0)},
		{run(1, 2, 3, 2), 1, 0, 2, of(dims{2, 2, 2}, 1, 2, 3, 4, 7, 8, 9, 10), run(21, 2, 2, 2), of(dims{2, 3, 2}, 21, 22, 23, 24, 0, 0, 25, 26, 27, 28, 0, 0)},
		{run(1, 2, 3, 2), 2, 1, 2, of(dims{2, 3, 1}, 2, 4, 6, 8, 10, 12), run(21, 2, 3, 1), of(dims{2, 3, 2}, 0, 21, 0, 22, 0, 23, 0, 24, 0, 25, 0, 26)},
		{run(1, 2, 2, 1, 3), 0, 0, 1, run(1, 1, 2, 1, 3), run(21, 1, 2, 1, 3), of(dims{2, 2, 1, 3}, 21, 22, 23, 24, 25, 26, 0, 0, 0, 0, 0, 0)},
		{run(1, 2, 2, 1, 3), 1, 1, 2, of(dims{2, 1, 1, 3}, 4, 5, 6, 10, 11, 12), run(21, 2, 1, 1, 3), of(dims{2, 2, 1, 3}, 0, 0, 0, 21, 22, 23, 0, 0, 0, 24, 25, 26)},
		{run(1, 2, 2, 1, 3), 2, 0, 1, run(1, 2, 2, 1, 3), run(21, 2, 2, 1, 3), run(21, 2, 2, 1, 3)},
		{run(1, 2, 2, 1, 3), 3, 1, 2, of(dims{2, 2, 1, 1}, 2, 5, 8, 11), run(21, 2, 2, 1, 1), of(dims{2, 2, 1, 3}, 0, 21, 0, 0, 22, 0, 0, 23, 0, 0, 24, 0)},
		{run(1, 1, 2, 3, 2), 2, 1, 3, of(dims{1, 2, 2, 2}, 3, 4, 5, 6, 9, 10, 11, 12), run(21, 1, 2, 2, 2), of(dims{1, 2, 3, 2}, 0, 0, 21, 22, 23, 24, 0, 0, 25, 26, 27, 28)},
		// Cells at the bounds are only moved.
		{of(dims{4}, most, last, most-1, last+1), 0, 1, 3, of(dims{2}, last, most-1), of(dims{2}, most, last), of(dims{4}, 0, most, last, 0)},
		{of(dims{2, 2}, most, last, last, most), 1, 1, 2, of(dims{2, 1}, last, most), of(dims{2, 1}, last, most), of(dims{2, 2}, 0, last, 0, most)},
	} {
		checkCut(t, c.x, c.side, c.from, c.to, c.out, c.g, c.back)
	}
}

// All parts along each dimension of shapes of many kinds.
func TestCutOfAllCells(t *testing.T) {
	for _, s := range []dims{{1}, {2}, {9}, {1, 1}, {3, 5}, {5, 3}, {6, 1}, {1, 6}, {2, 3, 4}, {4, 3, 2}, {3, 1, 5}, {2, 3, 2, 4}, {4, 1, 3, 1}, {3, 4, 5, 2}} {
		x := mixed(1, s...)
		for side, length := range s {
			for from := range length {
				for to := from + 1; to <= length; to++ {
					compareCut(t, x, side, from, to)
				}
			}
		}
	}
	for _, s := range []dims{{1024}, {64, 1024}, {1024, 64}, {16, 16, 16, 16}} {
		for side, length := range s {
			for _, part := range [][2]int{{0, 1}, {0, length - 1}, {0, length}, {1, length - 1}, {length / 2, length/2 + 3}, {length - 1, length}} {
				compareCut(t, mixed(1, s...), side, part[0], part[1])
			}
		}
	}
}

// compareCut compares Cut and CutBack with what the chapter says of a part that there is.
func compareCut(t *testing.T, x tensor.Tensor, side, from, to int) {
	t.Helper()
	out := wantCut(x, side, from, to)
	if got, err := move.Cut(x, side, from, to); err != api.OK || !same(got, out) {
		t.Errorf("Cut of %v along %d from %d to %d: shape %v, error %d, or wrong cells", outline(x), side, from, to, got.S, err)
	}
	g := mixed(2, out.S...)
	back, err := move.CutBack(x, g, side, from, to)
	if err != api.OK || !same(back, wantCutBack(x.S, g, side, from)) {
		t.Errorf("CutBack of %v along %d from %d to %d: shape %v, error %d, or wrong cells", outline(x), side, from, to, back.S, err)
	}
	if again, err := move.Cut(back, side, from, to); err != api.OK || !same(again, g) {
		t.Errorf("the part of the gradient of %v along %d from %d to %d: shape %v, error %d, or other cells than those of g", outline(x), side, from, to, again.S, err)
	}
}

// refusesCut checks that Cut and CutBack return this error and nothing else, whatever g is.
func refusesCut(t *testing.T, x tensor.Tensor, side, from, to int, want api.Errno) {
	t.Helper()
	if got, err := move.Cut(x, side, from, to); err != want || !none(got) {
		t.Errorf("Cut of %v along %d from %d to %d: shape %v, error %d, not %d", outline(x), side, from, to, got.S, err, want)
	}
	for _, g := range append(someWrong(), x, run(1, 2, 3), run(1, 1), run(1, 2, 1)) {
		refusesCutBack(t, x, g, side, from, to, want)
	}
}

func refusesCutBack(t *testing.T, x, g tensor.Tensor, side, from, to int, want api.Errno) {
	t.Helper()
	if got, err := move.CutBack(x, g, side, from, to); err != want || !none(got) {
		t.Errorf("CutBack of %v, g %v along %d from %d to %d: shape %v, error %d, not %d", outline(x), outline(g), side, from, to, got.S, err, want)
	}
}

func TestCutErrors(t *testing.T) {
	for _, bad := range wrong() {
		for _, c := range [][3]int{{0, 0, 1}, {1, 0, 1}, {-1, 0, 1}, {9, 0, 1}, {0, -1, 1}, {0, 1, 1}, {0, 0, math.MaxInt}, {math.MinInt, math.MinInt, math.MinInt}} {
			refusesCut(t, bad, c[0], c[1], c[2], api.ErrShape)
		}
	}
	for _, s := range []dims{{1}, {4}, {1024}, {2, 3}, {3, 2}, {1, 4, 2}, {2, 1, 3, 2}} {
		x := mixed(1, s...)
		for _, side := range noDimensions(len(s)) {
			for _, part := range [][2]int{{0, 1}, {-1, 1}, {0, 1025}, {1, 1}, {2, 1}} {
				refusesCut(t, x, side, part[0], part[1], api.ErrRange)
			}
		}
		for side, n := range s {
			for _, part := range [][2]int{
				{-1, 1}, {-1, n}, {-2, -1}, {-1, 0}, {math.MinInt, n}, {math.MinInt, math.MaxInt}, {math.MinInt, math.MinInt},
				{0, n + 1}, {n - 1, n + 1}, {n, n + 1}, {0, 1025}, {0, math.MaxInt}, {math.MaxInt, math.MinInt}, {math.MaxInt, math.MaxInt}, {1 << 32, 1<<32 + 1},
				{0, 0}, {n, n}, {n - 1, n - 1}, {1, 0}, {n, 0}, {n, n - 1}, {0, -1}, {n + 1, n}, {n + 1, n + 1},
			} {
				refusesCut(t, x, side, part[0], part[1], api.ErrRange)
			}
		}
	}
}

// Whatever the arguments are, Cut is layer 4's Cut.
func TestCutIsThatOfTensors(t *testing.T) {
	for _, x := range append(someWrong(), run(1, 1), run(1, 3), run(1, 2, 3), run(1, 3, 1), run(1, 2, 2, 2), run(1, 1, 3, 2, 2)) {
		for side := -1; side <= 4; side++ {
			for from := -2; from <= 4; from++ {
				for to := -2; to <= 4; to++ {
					want, wantErr := x.Cut(side, from, to)
					if got, err := move.Cut(x, side, from, to); err != wantErr || !same(got, want) {
						t.Errorf("Cut of %v along %d from %d to %d: %v, error %d, not %v, %d", x, side, from, to, got, err, want, wantErr)
					}
				}
			}
		}
	}
}

// An output gradient that is not valid, or that has another shape than the output, also with as many cells.
func TestCutBackOfAnotherGradient(t *testing.T) {
	for _, c := range []struct {
		x              tensor.Tensor
		side, from, to int
		out            dims
	}{
		{run(1, 6), 0, 0, 6, dims{6}}, {run(1, 9), 0, 2, 8, dims{6}}, {run(1, 4, 3), 0, 1, 3, dims{2, 3}}, {run(1, 2, 5), 1, 2, 5, dims{2, 3}}, {run(1, 2, 5), 1, 0, 3, dims{2, 3}}, {run(1, 1, 4, 3), 1, 2, 4, dims{1, 2, 3}}, {run(1, 3, 1, 1, 3), 0, 0, 2, dims{2, 1, 1, 3}},
	} {
		for _, bad := range wrong() {
			refusesCutBack(t, c.x, bad, c.side, c.from, c.to, api.ErrShape)
		}
		for _, cells := range []int{0, 1, 5, 7, 12} {
			refusesCutBack(t, c.x, of(c.out, make([]fix.F, cells)...), c.side, c.from, c.to, api.ErrShape)
		}
		for _, s := range append(shapesOf(6, 4), dims{1}, dims{5}, dims{7}, dims{2, 2}, dims{1, 1, 2}, dims{64, 1024}, c.x.S) {
			if !slices.Equal(s, c.out) {
				refusesCutBack(t, c.x, run(1, s...), c.side, c.from, c.to, api.ErrShape)
			}
		}
		if _, err := move.CutBack(c.x, run(1, c.out...), c.side, c.from, c.to); err != api.OK {
			t.Errorf("CutBack of %v along %d from %d to %d: error %d", outline(c.x), c.side, c.from, c.to, err)
		}
	}
}

// P9.3

// shapesOf are all valid shapes with this number of places and at most this number of sides.
func shapesOf(places, sides int) []dims {
	var l []dims
	if places <= api.MaxSide {
		l = append(l, dims{places})
	}
	for first := 1; sides > 1 && first <= min(places, api.MaxSide); first++ {
		if places%first != 0 {
			continue
		}
		for _, rest := range shapesOf(places/first, sides-1) {
			l = append(l, append(dims{first}, rest...))
		}
	}
	return l
}

// checkTurn compares Turn of x to a shape, and TurnBack of a tensor with that shape, with the cells of the arguments.
func checkTurn(t *testing.T, x tensor.Tensor, s dims) {
	t.Helper()
	if got, err := move.Turn(x, s); err != api.OK || !is(got, s, x.Cells) {
		t.Errorf("Turn of %v to %v: shape %v, error %d, or wrong cells", outline(x), s, got.S, err)
	}
	g := mixed(7, s...)
	if got, err := move.TurnBack(x, g); err != api.OK || !is(got, x.S, g.Cells) {
		t.Errorf("TurnBack of %v, g %v: shape %v, error %d, or wrong cells", outline(x), outline(g), got.S, err)
	}
}

func TestTurn(t *testing.T) {
	x := of(dims{2, 3}, 1, 2, 3, 4, 5, 6)
	for _, s := range []dims{{6}, {2, 3}, {3, 2}, {1, 6}, {6, 1}, {1, 2, 3}, {3, 1, 2}, {2, 1, 3}, {1, 1, 6}, {3, 1, 1, 2}, {1, 6, 1, 1}} {
		got, err := move.Turn(x, s)
		if err != api.OK || !is(got, s, []fix.F{1, 2, 3, 4, 5, 6}) {
			t.Errorf("Turn to %v: %v, error %d", s, got, err)
		}
		back, err := move.TurnBack(x, of(s, most, last, 30, -40, 50, 0))
		if err != api.OK || !is(back, dims{2, 3}, []fix.F{most, last, 30, -40, 50, 0}) {
			t.Errorf("TurnBack from %v: %v, error %d", s, back, err)
		}
	}
	for _, places := range []int{1, 2, 12, 30} {
		for i, from := range shapesOf(places, 4) {
			for _, to := range shapesOf(places, 4) {
				checkTurn(t, mixed(i, from...), to)
			}
		}
	}
	for i, s := range shapesOf(1024, 4) {
		checkTurn(t, mixed(i, 1024), s)
		checkTurn(t, mixed(i, s...), dims{1024})
	}
	for _, s := range []dims{{64, 1024}, {1024, 64}, {256, 256}, {16, 16, 16, 16}, {1, 1024, 1, 64}, {1024, 2, 32}, {1, 1, 64, 1024}} {
		checkTurn(t, mixed(1, 64, 1024), s)
		checkTurn(t, mixed(1, s...), dims{32, 2, 1024})
	}
}

func refusesTurn(t *testing.T, x tensor.Tensor, s dims) {
	t.Helper()
	if got, err := move.Turn(x, s); err != api.ErrShape || !none(got) {
		t.Errorf("Turn of %v to %v: shape %v, error %d", outline(x), s, got.S, err)
	}
}

func refusesTurnBack(t *testing.T, x, g tensor.Tensor) {
	t.Helper()
	if got, err := move.TurnBack(x, g); err != api.ErrShape || !none(got) {
		t.Errorf("TurnBack of %v, g %v: shape %v, error %d", outline(x), outline(g), got.S, err)
	}
}

// Tensors and shapes that are not valid, also where the number of cells is the right one.
func TestTurnOfWhatIsNotValid(t *testing.T) {
	for _, s := range []dims{{1}, {2}, {6}, {2, 3}, {1, 2, 3}, {1, 1, 2, 3}, {1024}, {64, 1024}} {
		x := mixed(1, s...)
		for _, bad := range append(wrongShapes(), dims{1, 1, 1, 1, len(x.Cells)}, dims{0, len(x.Cells)}, dims{-1, -len(x.Cells)}) {
			refusesTurn(t, x, bad)
			refusesTurn(t, of(bad, x.Cells...), s)
			refusesTurn(t, of(bad, x.Cells...), bad)
			refusesTurnBack(t, x, of(bad, x.Cells...))
			refusesTurnBack(t, of(bad, x.Cells...), x)
			refusesTurnBack(t, of(bad, x.Cells...), of(bad, x.Cells...))
		}
		for _, bad := range wrong() {
			refusesTurn(t, bad, s)
			refusesTurn(t, bad, bad.S)
			refusesTurnBack(t, bad, x)
			refusesTurnBack(t, x, bad)
			refusesTurnBack(t, bad, bad)
			if len(bad.Cells) > 0 && len(bad.Cells) <= api.MaxSide {
				flat := dims{len(bad.Cells)}
				refusesTurn(t, bad, flat)
				refusesTurnBack(t, bad, mixed(1, flat...))
				refusesTurnBack(t, mixed(1, flat...), bad)
			}
		}
	}
	refusesTurn(t, mixed(1, 64, 1024), dims{65536})
	refusesTurn(t, mixed(1, 25, 50), dims{1250})
}

// Another size, also of a part of the sides, or of as many sides.
func TestTurnToAnotherSize(t *testing.T) {
	shapes := []dims{{1}, {2}, {5}, {6}, {7}, {12}, {1023}, {1024}, {1, 1}, {2, 3}, {3, 3}, {2, 2}, {1, 5}, {6, 2}, {64, 1024}, {63, 1024}, {64, 1023}, {1, 2, 2}, {2, 3, 2}, {1, 1, 7}, {1, 1, 1, 1}, {1, 2, 3, 2}, {2, 3, 1, 1}, {16, 16, 16, 15}, {16, 16, 16, 16}}
	for i, s := range shapes {
		for j, other := range shapes {
			x, g := mixed(i, s...), mixed(j, other...)
			if size(s...) == size(other...) {
				checkTurn(t, x, other)
				continue
			}
			refusesTurn(t, x, other)
			refusesTurnBack(t, x, g)
		}
	}
}

// Memory

// overwrite changes all the memory of a tensor, to the capacities.
func overwrite(g tensor.Tensor) {
	s, cells := g.S[:cap(g.S)], g.Cells[:cap(g.Cells)]
	for i := range s {
		s[i] = -77
	}
	for i := range cells {
		cells[i] = -99
	}
}

// spare returns a copy of a tensor that has spare capacity, filled with other values.
func spare(g tensor.Tensor) tensor.Tensor {
	s := append(g.S.Copy(), 98, 97)
	cells := append(slices.Clone(g.Cells), 95, 94, 93)
	return tensor.Tensor{S: s[:len(g.S)], Cells: cells[:len(g.Cells)]}
}

// whole reports whether what spare returned is as it was.
func whole(g, original tensor.Tensor) bool {
	return slices.Equal(g.S[:len(g.S)+2], append(original.S.Copy(), 98, 97)) && slices.Equal(g.Cells[:len(g.Cells)+3], append(slices.Clone(original.Cells), 95, 94, 93))
}

// arguments are a tensor x, another one that can be joined with it along a dimension, both joined as j, and a part of x that has the shape of a gradient g; the shape s has the size of x.
type arguments struct {
	side, from, to int
	x, y, j, g     tensor.Tensor
	s              dims
}

func someArguments() []arguments {
	return []arguments{
		{0, 0, 1, mixed(1, 1), mixed(2, 1), mixed(3, 2), mixed(4, 1), dims{1, 1}},
		{0, 1, 3, mixed(1, 5), mixed(2, 2), mixed(3, 7), mixed(4, 2), dims{5}},
		{0, 0, 2, mixed(1, 3, 2), mixed(2, 1, 2), mixed(3, 4, 2), mixed(4, 2, 2), dims{6}},
		{1, 1, 2, mixed(1, 3, 2), mixed(2, 3, 4), mixed(3, 3, 6), mixed(4, 3, 1), dims{2, 3}},
		{1, 0, 3, mixed(1, 2, 3, 2), mixed(2, 2, 1, 2), mixed(3, 2, 4, 2), mixed(4, 2, 3, 2), dims{3, 4}},
		{3, 1, 2, mixed(1, 2, 1, 2, 3), mixed(2, 2, 1, 2, 1), mixed(3, 2, 1, 2, 4), mixed(4, 2, 1, 2, 1), dims{1, 12}},
	}
}

// tensors are all tensors of the arguments; the shape is that of a tensor without cells.
func (a arguments) tensors() list {
	return list{a.x, a.y, a.j, a.g, {S: a.s}}
}

// with are the arguments with copies of all tensors.
func (a arguments) with(copied func(tensor.Tensor) tensor.Tensor) arguments {
	a.x, a.y, a.j, a.g, a.s = copied(a.x), copied(a.y), copied(a.j), copied(a.g), copied(of(a.s)).S
	return a
}

// results returns what all functions return, also for a single tensor, for the whole side, and for the shape that there is already.
func (a arguments) results(t *testing.T) list {
	t.Helper()
	var l list
	add := func(x tensor.Tensor, err api.Errno) {
		if err != api.OK || none(x) {
			t.Fatalf("%v: result %d is missing: %v, error %d", outline(a.tensors()...), len(l), x, err)
		}
		l = append(l, x)
	}
	add(move.Join(a.side, a.x))
	add(move.Join(a.side, a.x, a.y))
	for _, back := range []func() (list, api.Errno){
		func() (list, api.Errno) { return move.JoinBack(a.side, a.x, a.x) },
		func() (list, api.Errno) { return move.JoinBack(a.side, a.j, a.x, a.y) },
	} {
		gradients, err := back()
		for _, gradient := range gradients {
			add(gradient, err)
		}
	}
	add(move.Cut(a.x, a.side, a.from, a.to))
	add(move.Cut(a.x, a.side, 0, a.x.S[a.side]))
	add(move.CutBack(a.x, a.g, a.side, a.from, a.to))
	add(move.CutBack(a.x, a.x, a.side, 0, a.x.S[a.side]))
	add(move.Turn(a.x, a.s))
	add(move.Turn(a.x, a.x.S))
	add(move.TurnBack(a.x, a.x))
	turned, _ := move.Turn(a.x, a.s)
	add(move.TurnBack(a.x, turned))
	if len(l) != 13 {
		t.Fatalf("%v: %d results", outline(a.tensors()...), len(l))
	}
	return l
}

// copies are copies of all tensors of a list.
func copies(l list) list {
	var kept list
	for _, x := range l {
		kept = append(kept, x.Copy())
	}
	return kept
}

// Neither the arguments nor their spare memory are changed, and no result shares it, or that of another result.
func TestArgumentsStayAsTheyAre(t *testing.T) {
	for _, a := range someArguments() {
		b := a.with(spare)
		l := append(b.results(t), b.results(t)...)
		kept := copies(l)
		for i, r := range l {
			overwrite(r)
			for j := i + 1; j < len(l); j++ {
				if !same(l[j], kept[j]) {
					t.Fatalf("%v: the results %d and %d share their memory", outline(a.x), i, j)
				}
			}
		}
		original := a.tensors()
		for i, x := range b.tensors() {
			if i == 4 {
				x.Cells = spare(of(nil)).Cells
			}
			if !whole(x, original[i]) {
				t.Errorf("%v: argument %d was changed, or shares its memory: %v", outline(a.x), i, x)
			}
		}
	}
}

// A later call, or a change of the arguments, leaves earlier results as they are.
func TestArgumentsAreNotRetained(t *testing.T) {
	for _, a := range someArguments() {
		b := a.with(tensor.Tensor.Copy)
		l := b.results(t)
		kept := copies(l)
		for _, x := range b.tensors() {
			overwrite(x)
		}
		a.results(t)
		for i := range l {
			if !same(l[i], kept[i]) {
				t.Errorf("%v: result %d retains an argument: %v", outline(a.x), i, l[i])
			}
		}
	}
}

// The list of the tensors that are joined is not changed, nor is its spare memory; the list of the gradients is new memory.
func TestListsStayAsTheyAre(t *testing.T) {
	x, y, z := run(1, 1, 2), run(3, 2, 2), run(7, 1, 2)
	for n := 1; n <= 3; n++ {
		l := list{x, y, z, x}
		out, err := move.Join(0, l[:n]...)
		if err != api.OK {
			t.Fatalf("Join of %d: error %d", n, err)
		}
		first, _ := move.JoinBack(0, out, l[:n]...)
		second, _ := move.JoinBack(0, out, l[:n]...)
		clear(first[:cap(first)])
		if len(second) != n || !same(second[0], x) {
			t.Errorf("JoinBack of %d: two results share their memory", n)
		}
		clear(second[:cap(second)])
		move.Join(5, l[:n]...)
		move.JoinBack(0, x, l[:n]...)
		if !slices.EqualFunc(l, list{x, y, z, x}, same) {
			t.Errorf("the list of %d was changed: %v", n, l)
		}
	}
}

// A call that fails changes no argument.
func TestFailuresChangeNothing(t *testing.T) {
	for _, a := range someArguments() {
		b := a.with(spare)
		for _, side := range noDimensions(len(a.x.S)) {
			move.Join(side, b.x)
			move.Join(side, b.x, b.y)
			move.JoinBack(side, b.j, b.x, b.y)
			move.Cut(b.x, side, 0, 1)
			move.CutBack(b.x, b.g, side, 0, 1)
		}
		for _, bad := range someWrong() {
			move.Join(a.side, b.x, b.y, bad)
			move.JoinBack(a.side, bad, b.x, b.y)
			move.CutBack(b.x, bad, a.side, a.from, a.to)
			move.Turn(b.x, bad.S)
			move.TurnBack(b.x, bad)
			move.TurnBack(bad, b.x)
		}
		move.JoinBack(a.side, b.x, b.x, b.y)
		move.CutBack(b.x, b.j, a.side, a.from, a.to)
		move.Cut(b.x, a.side, a.to, a.from)
		move.Turn(b.j, b.s)
		move.TurnBack(b.x, b.j)
		if !whole(b.x, a.x) || !whole(b.y, a.y) || !whole(b.j, a.j) || !whole(b.g, a.g) {
			t.Errorf("%v: an argument was changed: %v", outline(a.x), b)
		}
	}
}

// P1 of DOC.md: no arguments make a function panic.
func TestAllArguments(t *testing.T) {
	l := wrong()
	for i, s := range []dims{{1}, {2}, {3}, {1024}, {1, 1}, {2, 3}, {64, 1024}, {2, 2, 3}, {1, 1, 1, 1}, {2, 1, 2, 3}, {16, 16, 16, 16}} {
		l = append(l, mixed(i, s...))
	}
	numbers := []int{math.MinInt, -1, 0, 1, 2, 3, 4, 1024, math.MaxInt}
	for i, x := range l {
		y := l[(i*7+3)%len(l)]
		move.Turn(x, y.S)
		move.TurnBack(x, y)
		for _, side := range numbers {
			joined, _ := move.Join(side, x, x)
			move.JoinBack(side, joined, x, x)
			move.JoinBack(side, x, x)
			move.JoinBack(side, y, x, y, x)
			for _, from := range numbers {
				for _, to := range numbers {
					part, _ := move.Cut(x, side, from, to)
					move.CutBack(x, part, side, from, to)
					move.CutBack(x, y, side, from, to)
				}
			}
		}
	}
}
