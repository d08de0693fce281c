package dense_test

import (
	"math"
	"slices"
	"testing"

	"athanor/api"
	"athanor/dense"
	"athanor/fix"
	"athanor/shape"
	"athanor/tensor"
)

const (
	one  = fix.One
	half = fix.One / 2
	most = fix.Max
	last = fix.Min
)

// wantOut is what the chapter says of the cells of the output of Dense, one operation of layer 1 after another.
func wantOut(w, b, x tensor.Tensor) []fix.F {
	n := w.S[1]
	var l []fix.F
	for i := range w.S[0] {
		var sum fix.F
		for j := range n {
			sum = sum.Add(w.Cells[i*n+j].Mul(x.Cells[j]))
		}
		l = append(l, sum.Add(b.Cells[i]))
	}
	return l
}

// wantBack is what the chapter says of the cells of the gradients of W and x.
func wantBack(w, x, g tensor.Tensor) (ofW, ofX []fix.F) {
	m, n := w.S[0], w.S[1]
	for i := range m {
		for j := range n {
			ofW = append(ofW, g.Cells[i].Mul(x.Cells[j]))
		}
	}
	for j := range n {
		var sum fix.F
		for i := range m {
			sum = sum.Add(w.Cells[i*n+j].Mul(g.Cells[i]))
		}
		ofX = append(ofX, sum)
	}
	return ofW, ofX
}

// edges are numbers whose products are rounded, tie, or saturate, and whose sums saturate at both ends.
func edges() []fix.F {
	return []fix.F{
		one, most, -3, half, 0, last, 7*one/3 + 1, -one, 1 << 47, -5 * one / 7, most / 2, 1, -1 << 47, half + 1, last / 2, -half, 6, -2 * one, most - 1, 3, last + 1, -1, 1 << 62, 0, -1 << 62, 2*one - 1, 1 << 31,
	}
}

// vector is a tensor with one dimension.
func vector(cells ...fix.F) tensor.Tensor {
	return tensor.Tensor{S: shape.Shape{len(cells)}, Cells: cells}
}

// matrix is a tensor with m rows of the same length.
func matrix(m int, cells ...fix.F) tensor.Tensor {
	return tensor.Tensor{S: shape.Shape{m, len(cells) / m}, Cells: cells}
}

// mixed is a tensor whose cells are edges; another seed gives other cells.
func mixed(seed int, sides ...int) tensor.Tensor {
	l := edges()
	n := 1
	for _, length := range sides {
		n *= length
	}
	cells := make([]fix.F, n)
	state := uint32(seed)*2654435761 + 12345
	for i := range cells {
		state = state*1664525 + 1013904223
		cells[i] = l[int(state>>8)%len(l)]
	}
	return tensor.Tensor{S: sides, Cells: cells}
}

// wrong are tensors that are not valid, each with one of these numbers of cells, or with a wrong number for its shape.
func wrong() []tensor.Tensor {
	return []tensor.Tensor{
		{}, {S: shape.Shape{1}}, {Cells: make([]fix.F, 1)}, {Cells: make([]fix.F, 2)}, {Cells: make([]fix.F, 3)}, {Cells: make([]fix.F, 6)}, {S: shape.Shape{}, Cells: []fix.F{}}, {S: shape.Shape{}, Cells: make([]fix.F, 2)},
		{S: shape.Shape{2}, Cells: make([]fix.F, 1)}, {S: shape.Shape{2}, Cells: make([]fix.F, 1, 2)}, {S: shape.Shape{2}, Cells: make([]fix.F, 3)}, {S: shape.Shape{2}, Cells: make([]fix.F, 0, 2)},
		{S: shape.Shape{3}, Cells: make([]fix.F, 2)}, {S: shape.Shape{3}, Cells: make([]fix.F, 2, 3)}, {S: shape.Shape{3}, Cells: make([]fix.F, 4)}, {S: shape.Shape{4}, Cells: make([]fix.F, 3)}, {S: shape.Shape{1, 1}, Cells: make([]fix.F, 3)}, {S: shape.Shape{1, 1}, Cells: make([]fix.F, 2)}, {S: shape.Shape{1024}, Cells: make([]fix.F, 3)},
		{S: shape.Shape{2, 3}}, {S: shape.Shape{2, 3}, Cells: make([]fix.F, 5)}, {S: shape.Shape{2, 3}, Cells: make([]fix.F, 5, 6)}, {S: shape.Shape{2, 3}, Cells: make([]fix.F, 7)}, {S: shape.Shape{2, 3}, Cells: make([]fix.F, 3)}, {S: shape.Shape{2, 3}, Cells: make([]fix.F, 2)},
		{S: shape.Shape{0}}, {S: shape.Shape{0}, Cells: make([]fix.F, 2)}, {S: shape.Shape{2, 0}}, {S: shape.Shape{0, 3}}, {S: shape.Shape{0, 0}}, {S: shape.Shape{-2}, Cells: make([]fix.F, 2)}, {S: shape.Shape{-2, -3}, Cells: make([]fix.F, 6)}, {S: shape.Shape{-2, 3}, Cells: make([]fix.F, 6)}, {S: shape.Shape{-1, -3}, Cells: make([]fix.F, 3)},
		{S: shape.Shape{1, 1, 1, 1, 3}, Cells: make([]fix.F, 3)}, {S: shape.Shape{1, 1, 1, 1, 2}, Cells: make([]fix.F, 2)}, {S: shape.Shape{1025}, Cells: make([]fix.F, 1025)}, {S: shape.Shape{1, 1025}, Cells: make([]fix.F, 1025)}, {S: shape.Shape{1025, 1}, Cells: make([]fix.F, 1025)}, {S: shape.Shape{65, 1024}, Cells: make([]fix.F, 65*1024)}, {S: shape.Shape{257, 256}, Cells: make([]fix.F, 257*256)},
		{S: shape.Shape{1 << 32, 1 << 32}}, {S: shape.Shape{2, 1 << 62}}, {S: shape.Shape{math.MaxInt, math.MaxInt}, Cells: make([]fix.F, 1)}, {S: shape.Shape{math.MinInt, 2}}, {S: shape.Shape{math.MinInt}},
	}
}

// is reports whether a tensor has this shape and these cells.
func is(g tensor.Tensor, s shape.Shape, cells []fix.F) bool {
	return slices.Equal(g.S, s) && slices.Equal(g.Cells, cells)
}

// none reports whether a tensor is its zero value.
func none(g tensor.Tensor) bool {
	return len(g.S) == 0 && len(g.Cells) == 0
}

// overwrite changes all the memory of a tensor, to the capacities.
func overwrite(g tensor.Tensor) {
	s, cells := g.S[:cap(g.S)], g.Cells[:cap(g.Cells)]
	for i := range s {
		s[i] = -77
	}
	for i := range cells {
		cells[i] = -99
	}
}

// check compares Go and Back with literal cells.
func check(t *testing.T, w, b, x, g tensor.Tensor, out, ofW, ofX []fix.F) {
	t.Helper()
	if got, err := dense.Go(w, b, x); err != api.OK || !is(got, b.S, out) {
		t.Errorf("Go of W %v, b %v, x %v: %v, error %d, not %d", w, b, x, got, err, out)
	}
	got, err := dense.Back(w, b, x, g)
	if err != api.OK || !is(got.W, w.S, ofW) || !is(got.B, g.S, g.Cells) || !is(got.X, x.S, ofX) {
		t.Errorf("Back of W %v, b %v, x %v, g %v: %v, error %d, not %d and %d", w, b, x, g, got, err, ofW, ofX)
	}
}

// refuses checks that Go and Back return ErrShape and nothing else.
func refuses(t *testing.T, w, b, x, g tensor.Tensor) {
	t.Helper()
	if got, err := dense.Go(w, b, x); err != api.ErrShape || !none(got) {
		t.Errorf("Go of the shapes %v, %v, %v with %d, %d, %d cells: shape %v, error %d", w.S, b.S, x.S, len(w.Cells), len(b.Cells), len(x.Cells), got.S, err)
	}
	refusesBack(t, w, b, x, g)
}

func refusesBack(t *testing.T, w, b, x, g tensor.Tensor) {
	t.Helper()
	if got, err := dense.Back(w, b, x, g); err != api.ErrShape || !none(got.W) || !none(got.B) || !none(got.X) {
		t.Errorf("Back of the shapes %v, %v, %v, %v with %d, %d, %d, %d cells: shapes %v, %v, %v, error %d", w.S, b.S, x.S, g.S, len(w.Cells), len(b.Cells), len(x.Cells), len(g.Cells), got.W.S, got.B.S, got.X.S, err)
	}
}

func refusesBias(t *testing.T, b, x tensor.Tensor) {
	t.Helper()
	if got, err := dense.Bias(b, x); err != api.ErrShape || !none(got) {
		t.Errorf("Bias of the shapes %v, %v with %d, %d cells: shape %v, error %d", b.S, x.S, len(b.Cells), len(x.Cells), got.S, err)
	}
}

// The example of the chapter.
func TestExample(t *testing.T) {
	w, b, x := matrix(2, one, 2*one, 3*one, 4*one), vector(0, one), vector(one, one)
	got, err := dense.Go(w, b, x)
	if err != api.OK || !is(got, shape.Shape{2}, []fix.F{3 * one, 8 * one}) {
		t.Errorf("Go: %v, error %d", got, err)
	}
}

// P6.1

func TestDense(t *testing.T) {
	for _, c := range []struct {
		w, b, x, g    tensor.Tensor
		out, ofW, ofX []fix.F
	}{
		{matrix(2, one, 2*one, 3*one, 4*one), vector(0, one), vector(one, one), vector(5, 7), []fix.F{3 * one, 8 * one}, []fix.F{5, 5, 7, 7}, []fix.F{26, 38}},
		{matrix(2, one, 2*one, 3*one, 4*one, 5*one, 6*one), vector(10*one, 20*one), vector(one, 0, -one), vector(one, 2*one), []fix.F{8 * one, 18 * one}, []fix.F{one, 0, -one, 2 * one, 0, -2 * one}, []fix.F{9 * one, 12 * one, 15 * one}},
		{matrix(3, one, -2*one, -3*one, 4*one, 0, 5*one), vector(1, 2, 3), vector(10, -20), vector(7, -8, 9), []fix.F{51, -108, -97}, []fix.F{0, 0, 0, 0, 0, 0}, []fix.F{31, -1}},
		// One row, one column, a single cell.
		{matrix(1, one, 2*one, 3*one), vector(9), vector(4, 5, 6), vector(-2 * one), []fix.F{41}, []fix.F{-8, -10, -12}, []fix.F{-2 * one, -4 * one, -6 * one}},
		{matrix(3, one, 2*one, -3*one), vector(7, 8, 9), vector(5), vector(one, 3*one, 10*one), []fix.F{12, 18, -6}, []fix.F{5, 15, 50}, []fix.F{-23 * one}},
		{matrix(1, 3*one), vector(2), vector(-5), vector(4 * one), []fix.F{-13}, []fix.F{-20}, []fix.F{12 * one}},
		// Each product is rounded, to the even one in case of a tie, and not only the sum of them.
		{matrix(1, half, half), vector(0), vector(1, 1), vector(1), []fix.F{0}, []fix.F{0, 0}, []fix.F{0, 0}},
		{matrix(1, half, half), vector(1), vector(3, 3), vector(3), []fix.F{5}, []fix.F{0, 0}, []fix.F{2, 2}},
		{matrix(1, -half, half+1), vector(0), vector(3, 1), vector(1), []fix.F{-1}, []fix.F{0, 0}, []fix.F{0, 1}},
		{matrix(2, half, half), vector(0, 0), vector(half), vector(1, 1), []fix.F{one / 4, one / 4}, []fix.F{0, 0}, []fix.F{0}},
		{matrix(2, half, half), vector(0, 0), vector(half), vector(3, 3), []fix.F{one / 4, one / 4}, []fix.F{2, 2}, []fix.F{4}},
		// The bias is added at the end, so a sum saturates before it.
		{matrix(1, one, one), vector(-5), vector(most, 3), vector(0), []fix.F{most - 5}, []fix.F{0, 0}, []fix.F{0, 0}},
		{matrix(1, one, one), vector(5), vector(last, -3), vector(0), []fix.F{last + 5}, []fix.F{0, 0}, []fix.F{0, 0}},
		{matrix(1, one), vector(most), vector(most), vector(0), []fix.F{most}, []fix.F{0}, []fix.F{0}},
		{matrix(1, one), vector(last), vector(last), vector(0), []fix.F{last}, []fix.F{0}, []fix.F{0}},
		// The order of the sum matters where it saturates: ascending in j, and in i.
		{matrix(3, one, one, one, one, one, one, one, one, one), vector(0, 0, 0), vector(most, 7, -9), vector(0, 0, 0), []fix.F{most - 9, most - 9, most - 9}, make([]fix.F, 9), []fix.F{0, 0, 0}},
		{matrix(1, one, one, one), vector(0), vector(-9, 7, most), vector(0), []fix.F{most - 2}, make([]fix.F, 3), []fix.F{0, 0, 0}},
		{matrix(1, one, one, one), vector(0), vector(last, -7, 9), vector(0), []fix.F{last + 9}, make([]fix.F, 3), []fix.F{0, 0, 0}},
		{matrix(1, one, one, one), vector(0), vector(9, -7, last), vector(0), []fix.F{last + 2}, make([]fix.F, 3), []fix.F{0, 0, 0}},
		{matrix(3, one, one, one), vector(0, 0, 0), vector(0), vector(most, 7, -9), []fix.F{0, 0, 0}, []fix.F{0, 0, 0}, []fix.F{most - 9}},
		{matrix(3, one, one, one), vector(0, 0, 0), vector(0), vector(-9, 7, most), []fix.F{0, 0, 0}, []fix.F{0, 0, 0}, []fix.F{most - 2}},
		{matrix(3, one, one, one), vector(0, 0, 0), vector(0), vector(last, -7, 9), []fix.F{0, 0, 0}, []fix.F{0, 0, 0}, []fix.F{last + 9}},
		{matrix(3, one, one, one), vector(0, 0, 0), vector(0), vector(9, -7, last), []fix.F{0, 0, 0}, []fix.F{0, 0, 0}, []fix.F{last + 2}},
		// Products saturate.
		{matrix(2, most, last, 2*one, -2*one), vector(0, 0), vector(2*one, -half), vector(2*one, most), []fix.F{most, 5 * one}, []fix.F{4 * one, -one, most, -1 << 62}, []fix.F{most, last}},
		{matrix(2, most, last, -one, -one), vector(one, -one), vector(last, last), vector(last, -one), []fix.F{one - 1, most - one}, []fix.F{most, most, most, most}, []fix.F{last + one, most}},
		// A zero weight, a zero input, and a zero gradient.
		{matrix(2, 0, 0, 0, 0), vector(3, -4), vector(most, last), vector(most, last), []fix.F{3, -4}, []fix.F{most, last, last, most}, []fix.F{0, 0}},
		{matrix(2, most, last, one, -one), vector(3, -4), vector(0, 0), vector(2*one, 0), []fix.F{3, -4}, []fix.F{0, 0, 0, 0}, []fix.F{most, last}},
		{matrix(2, most, last, one, -one), vector(0, 0), vector(2, 3), vector(0, 0), []fix.F{-1 << 31, -1}, []fix.F{0, 0, 0, 0}, []fix.F{0, 0}},
	} {
		check(t, c.w, c.b, c.x, c.g, c.out, c.ofW, c.ofX)
	}
}

// Not only the shape n is one for x, and the gradient of x has the shape of x.
func TestShapesOfTheInput(t *testing.T) {
	for _, s := range []shape.Shape{{6}, {1, 6}, {6, 1}, {2, 3}, {3, 2}, {1, 1, 6}, {2, 1, 3}, {3, 2, 1}, {1, 6, 1}, {1, 1, 1, 6}, {1, 3, 1, 2}, {6, 1, 1, 1}} {
		w := matrix(2, one, 2*one, 3*one, 4*one, 5*one, 6*one, 0, one, 0, -one, 0, 2*one)
		x := tensor.Tensor{S: s, Cells: []fix.F{one, 2 * one, 3 * one, 0, -one, -2 * one}}
		check(t, w, vector(9, -9), x, vector(one, 3*one), []fix.F{-3*one + 9, -2*one - 9},
			[]fix.F{one, 2 * one, 3 * one, 0, -one, -2 * one, 3 * one, 6 * one, 9 * one, 0, -3 * one, -6 * one},
			[]fix.F{one, 5 * one, 3 * one, one, 5 * one, 12 * one})
	}
	for _, s := range []shape.Shape{{1}, {1, 1}, {1, 1, 1}, {1, 1, 1, 1}} {
		check(t, matrix(1, 3*one), vector(2), tensor.Tensor{S: s, Cells: []fix.F{-5}}, vector(4*one), []fix.F{-13}, []fix.F{-20}, []fix.F{12 * one})
	}
}

// All cells of the results are compared with what the chapter says of each, in weights of many shapes, some at the limits.
func TestAllCells(t *testing.T) {
	for _, c := range []struct {
		m int
		x shape.Shape
	}{
		{1, shape.Shape{1}}, {1, shape.Shape{7}}, {7, shape.Shape{1}}, {2, shape.Shape{3}}, {3, shape.Shape{2}}, {3, shape.Shape{3}}, {5, shape.Shape{2, 3}}, {4, shape.Shape{2, 2, 2}}, {6, shape.Shape{2, 1, 3, 2}}, {13, shape.Shape{11}},
		{1, shape.Shape{1024}}, {1024, shape.Shape{1}}, {64, shape.Shape{1024}}, {1024, shape.Shape{64}}, {256, shape.Shape{256}}, {64, shape.Shape{32, 32}}, {255, shape.Shape{4, 4, 4, 4}},
	} {
		n := 1
		for _, length := range c.x {
			n *= length
		}
		for seed := range max(1, 200/(c.m*n)) {
			w, b, x, g := mixed(4*seed, c.m, n), mixed(4*seed+1, c.m), mixed(4*seed+2, c.x...), mixed(4*seed+3, c.m)
			if got, err := dense.Go(w, b, x); err != api.OK || !is(got, shape.Shape{c.m}, wantOut(w, b, x)) {
				t.Errorf("Go with %d rows, x %v, seed %d: shape %v, error %d, or wrong cells", c.m, c.x, seed, got.S, err)
			}
			ofW, ofX := wantBack(w, x, g)
			got, err := dense.Back(w, b, x, g)
			if err != api.OK || !is(got.W, w.S, ofW) || !is(got.B, b.S, g.Cells) || !is(got.X, x.S, ofX) {
				t.Errorf("Back with %d rows, x %v, seed %d: shapes %v, %v, %v, error %d, or wrong cells", c.m, c.x, seed, got.W.S, got.B.S, got.X.S, err)
			}
		}
	}
}

// One tensor is in several places of a call.
func TestOneTensor(t *testing.T) {
	w, v := matrix(2, one, 2*one, 3*one, 4*one), vector(one, 2*one)
	check(t, w, v, v, v, []fix.F{6 * one, 13 * one}, []fix.F{one, 2 * one, 2 * one, 4 * one}, []fix.F{7 * one, 10 * one})
	row := matrix(1, one, 2*one, 3*one)
	check(t, row, vector(5), row, vector(one), []fix.F{14*one + 5}, row.Cells, row.Cells)
	if got, err := dense.Bias(w, w); err != api.OK || !is(got, shape.Shape{2, 2}, []fix.F{2 * one, 4 * one, 6 * one, 8 * one}) {
		t.Errorf("Bias of one tensor: %v, error %d", got, err)
	}
	if !slices.Equal(w.Cells, []fix.F{one, 2 * one, 3 * one, 4 * one}) || !slices.Equal(v.Cells, []fix.F{one, 2 * one}) || !slices.Equal(row.Cells, []fix.F{one, 2 * one, 3 * one}) {
		t.Errorf("an argument was changed: %v, %v, %v", w, v, row)
	}
}

// A tensor that is not valid is refused in each place, also where its cells are as many as are needed.
func TestDenseOfTensorsThatAreNotValid(t *testing.T) {
	for _, m := range []int{1, 2, 3} {
		for _, n := range []int{1, 2, 3} {
			w, b, x, g := mixed(1, m, n), mixed(2, m), mixed(3, n), mixed(4, m)
			for _, bad := range wrong() {
				refuses(t, bad, b, x, g)
				refuses(t, w, bad, x, g)
				refuses(t, w, b, bad, g)
				refusesBack(t, w, b, x, bad)
				refuses(t, bad, bad, bad, bad)
			}
		}
	}
}

// The weight must have two sides, also if it has as many cells as are needed.
func TestSidesOfTheWeight(t *testing.T) {
	b, x := vector(1, 2), vector(3, 4, 5)
	for _, s := range []shape.Shape{{6}, {2}, {3}, {2, 3, 1}, {1, 2, 3}, {2, 1, 3}, {2, 3, 1, 1}, {1, 1, 2, 3}, {2, 1, 1, 3}} {
		refuses(t, mixed(1, s...), b, x, b)
	}
	one := vector(1)
	for _, s := range []shape.Shape{{1}, {1, 1, 1}, {1, 1, 1, 1}} {
		refuses(t, mixed(1, s...), one, one, one)
	}
}

// The bias, and the output gradient, must have the single side m, whatever the number of their cells.
func TestSidesOfTheBias(t *testing.T) {
	for _, m := range []int{1, 2, 3, 4} {
		w, b, x := mixed(1, m, 3), mixed(2, m), mixed(3, 3)
		for _, s := range []shape.Shape{{m + 1}, {m + 2}, {2 * m}, {3 * m}, {m, 1}, {1, m}, {m, 3}, {m, m}, {m, 1, 1}, {1, m, 1}, {1, 1, m}, {m, 1, 1, 1}, {1, 1, 1, m}} {
			refuses(t, w, mixed(2, s...), x, b)
			refusesBack(t, w, b, x, mixed(2, s...))
		}
		for side := 1; side < m; side++ {
			refuses(t, w, mixed(2, side), x, b)
			refusesBack(t, w, b, x, mixed(2, side))
		}
	}
}

// The input must have n cells; that it has as many as there are rows is not enough.
func TestCellsOfTheInput(t *testing.T) {
	for _, n := range []int{1, 2, 3, 6, 7} {
		w, b := mixed(1, 2, n), mixed(2, 2)
		for _, s := range []shape.Shape{{1}, {2}, {3}, {4}, {5}, {6}, {7}, {8}, {12}, {14}, {2, 3}, {3, 2}, {2, 7}, {2, 2}, {1, 5}, {2, 2, 2}, {1, 2, 1, 2}, {1024}} {
			cells := 1
			for _, length := range s {
				cells *= length
			}
			if cells != n {
				refuses(t, w, b, mixed(3, s...), b)
			}
		}
	}
}

func TestBias(t *testing.T) {
	for _, c := range []struct{ b, x, want tensor.Tensor }{
		{vector(5), vector(7), vector(12)},
		{vector(5, -5, most, last, most, 0), vector(7, 7, 1, -1, last, -3), vector(12, 2, most, last, -1, -3)},
		{matrix(2, 1, 2, 3, 4), matrix(2, 10, 20, 30, 40), matrix(2, 11, 22, 33, 44)},
		{matrix(1, 1, 2), matrix(1, -1, -3), matrix(1, 0, -1)},
	} {
		for _, l := range [][2]tensor.Tensor{{c.b, c.x}, {c.x, c.b}} {
			if got, err := dense.Bias(l[0], l[1]); err != api.OK || !is(got, c.want.S, c.want.Cells) {
				t.Errorf("Bias of %v and %v: %v, error %d", l[0], l[1], got, err)
			}
		}
	}
}

// biasShapes are of each number of sides, some with the same number of cells, some at the limits.
func biasShapes() []shape.Shape {
	return []shape.Shape{{1}, {6}, {1, 1}, {1, 6}, {6, 1}, {2, 3}, {3, 2}, {1, 2, 3}, {2, 1, 3}, {2, 3, 1}, {3, 2, 1}, {1, 1, 1}, {2, 3, 4}, {1, 1, 2, 3}, {2, 3, 1, 1}, {2, 3, 4, 5}, {1024}, {32, 32}, {64, 1024}, {1024, 64}, {16, 16, 16, 16}}
}

func TestAllCellsOfBias(t *testing.T) {
	for seed, s := range biasShapes() {
		b, x := mixed(2*seed, s...), mixed(2*seed+1, s...)
		var want []fix.F
		for place := range b.Cells {
			want = append(want, x.Cells[place].Add(b.Cells[place]))
		}
		if got, err := dense.Bias(b, x); err != api.OK || !is(got, s, want) {
			t.Errorf("Bias in %v: shape %v, error %d, or wrong cells", s, got.S, err)
		}
	}
}

func TestBiasOfShapesThatDiffer(t *testing.T) {
	for _, s := range biasShapes() {
		for _, u := range biasShapes() {
			if !slices.Equal(s, u) {
				refusesBias(t, mixed(1, s...), mixed(1, u...))
			}
		}
	}
}

func TestBiasOfTensorsThatAreNotValid(t *testing.T) {
	for _, bad := range wrong() {
		refusesBias(t, bad, bad)
		same := tensor.Tensor{S: bad.S, Cells: make([]fix.F, 6)}
		if !same.Right() {
			refusesBias(t, bad, same)
			refusesBias(t, same, bad)
		}
		for _, s := range biasShapes() {
			refusesBias(t, bad, mixed(1, s...))
			refusesBias(t, mixed(1, s...), bad)
		}
	}
	// One is valid, and the other one only has its shape.
	for _, s := range biasShapes() {
		whole := mixed(1, s...)
		n := len(whole.Cells)
		for _, cells := range [][]fix.F{nil, whole.Cells[:n-1], make([]fix.F, n+1), whole.Cells[:0]} {
			refusesBias(t, whole, tensor.Tensor{S: s, Cells: cells})
			refusesBias(t, tensor.Tensor{S: s, Cells: cells}, whole)
		}
	}
}

// P6.2

func TestRowAndColumn(t *testing.T) {
	w := matrix(2, 1, 2, 3, 4, 5, 6)
	for i, want := range [][]fix.F{{1, 2, 3}, {4, 5, 6}} {
		if got := dense.Row(w, i); !slices.Equal(got, want) {
			t.Errorf("Row %d: %d, not %d", i, got, want)
		}
	}
	for j, want := range [][]fix.F{{1, 4}, {2, 5}, {3, 6}} {
		if got := dense.Column(w, j); !slices.Equal(got, want) {
			t.Errorf("Column %d: %d, not %d", j, got, want)
		}
	}
}

// Every row and every column, and the numbers beyond them.
func TestAllRowsAndColumns(t *testing.T) {
	for _, s := range []shape.Shape{{1, 1}, {1, 5}, {5, 1}, {2, 3}, {3, 2}, {4, 4}, {7, 5}, {1, 1024}, {1024, 1}, {64, 1024}, {1024, 64}, {256, 256}} {
		m, n := s[0], s[1]
		w := tensor.Tensor{S: s, Cells: make([]fix.F, m*n)}
		for place := range w.Cells {
			w.Cells[place] = fix.F(place) - 100
		}
		for i := range m {
			got := dense.Row(w, i)
			if len(got) != n {
				t.Fatalf("Row %d of %v has %d cells", i, s, len(got))
			}
			for j, cell := range got {
				if cell != fix.F(i*n+j)-100 {
					t.Fatalf("Row %d of %v has the cell %d at %d", i, s, cell, j)
				}
			}
		}
		for j := range n {
			got := dense.Column(w, j)
			if len(got) != m {
				t.Fatalf("Column %d of %v has %d cells", j, s, len(got))
			}
			for i, cell := range got {
				if cell != fix.F(i*n+j)-100 {
					t.Fatalf("Column %d of %v has the cell %d at %d", j, s, cell, i)
				}
			}
		}
		for _, beyond := range []int{0, 1, 2, m, n, m * n, 1 << 32, 1 << 62, math.MaxInt - 1 - m} {
			noRow(t, w, m+beyond)
			noRow(t, w, -1-beyond)
			noColumn(t, w, min(math.MaxInt-n, beyond)+n)
			noColumn(t, w, -1-beyond)
		}
		noRow(t, w, math.MinInt)
		noColumn(t, w, math.MinInt)
	}
}

func noRow(t *testing.T, w tensor.Tensor, i int) {
	t.Helper()
	if got := dense.Row(w, i); len(got) != 0 {
		t.Errorf("Row %d of the shape %v with %d cells: %d", i, w.S, len(w.Cells), got)
	}
}

func noColumn(t *testing.T, w tensor.Tensor, j int) {
	t.Helper()
	if got := dense.Column(w, j); len(got) != 0 {
		t.Errorf("Column %d of the shape %v with %d cells: %d", j, w.S, len(w.Cells), got)
	}
}

// Tensors that are not valid, or have not two sides, have no rows and no columns.
func TestNoRowsAndColumns(t *testing.T) {
	list := wrong()
	for _, s := range []shape.Shape{{1}, {6}, {1, 1, 1}, {2, 3, 1}, {1, 2, 3}, {2, 3, 4}, {1, 1, 1, 1}, {2, 3, 1, 1}, {2, 3, 4, 5}} {
		list = append(list, mixed(1, s...))
	}
	for _, w := range list {
		for _, number := range []int{math.MinInt, -2, -1, 0, 1, 2, 3, 1 << 32, math.MaxInt} {
			noRow(t, w, number)
			noColumn(t, w, number)
		}
	}
}

// Memory

// spare returns a copy of a tensor that has spare capacity, filled with other values.
func spare(g tensor.Tensor) tensor.Tensor {
	s := append(g.S.Copy(), 98, 97)
	cells := append(slices.Clone(g.Cells), 95, 94, 93)
	return tensor.Tensor{S: s[:len(g.S)], Cells: cells[:len(g.Cells)]}
}

// whole reports whether what spare returned is as it was.
func whole(g, original tensor.Tensor) bool {
	return slices.Equal(g.S[:len(g.S)+2], append(original.S.Copy(), 98, 97)) && slices.Equal(g.Cells[:len(g.Cells)+3], append(slices.Clone(original.Cells), 95, 94, 93))
}

// results returns the tensors that all functions return; a row and a column are the cells of tensors without a shape.
func results(w, b, x, g tensor.Tensor) []tensor.Tensor {
	out, _ := dense.Go(w, b, x)
	back, _ := dense.Back(w, b, x, g)
	sum, _ := dense.Bias(b, g)
	product, _ := dense.Bias(w, w)
	l := []tensor.Tensor{out, back.W, back.B, back.X, sum, product}
	for i := range 2 {
		l = append(l, tensor.Tensor{Cells: dense.Row(w, i)}, tensor.Tensor{Cells: dense.Column(w, i)})
	}
	return l
}

// Neither the arguments nor their spare memory are changed, and no result shares it, or that of another result.
func TestArgumentsStayAsTheyAre(t *testing.T) {
	for _, s := range []shape.Shape{{3}, {1, 3}, {3, 1, 1}} {
		originals := []tensor.Tensor{mixed(1, 2, 3), mixed(2, 2), mixed(3, s...), mixed(4, 2)}
		var args []tensor.Tensor
		for _, original := range originals {
			args = append(args, spare(original))
		}
		l := append(results(args[0], args[1], args[2], args[3]), results(args[0], args[1], args[2], args[3])...)
		var kept []tensor.Tensor
		for _, r := range l {
			if len(r.Cells) == 0 {
				t.Fatalf("x %v: a result is missing: %v", s, l)
			}
			kept = append(kept, r.Copy())
		}
		for i, r := range l {
			overwrite(r)
			for j := i + 1; j < len(l); j++ {
				if !is(l[j], kept[j].S, kept[j].Cells) {
					t.Fatalf("x %v: the results %d and %d share their memory", s, i, j)
				}
			}
		}
		for i := range args {
			if !whole(args[i], originals[i]) {
				t.Errorf("x %v: argument %d was changed, or shares its memory: %v", s, i, args[i])
			}
		}
	}
}

// One tensor in two places does not make two results share their memory.
func TestResultsOfOneTensor(t *testing.T) {
	w, v := mixed(1, 2, 2), mixed(2, 2)
	l := results(w, v, v, v)
	var kept []tensor.Tensor
	for _, r := range l {
		kept = append(kept, r.Copy())
	}
	for i, r := range l {
		overwrite(r)
		for j := i + 1; j < len(l); j++ {
			if !is(l[j], kept[j].S, kept[j].Cells) {
				t.Fatalf("the results %d and %d share their memory", i, j)
			}
		}
	}
	if !is(w, shape.Shape{2, 2}, mixed(1, 2, 2).Cells) || !is(v, shape.Shape{2}, mixed(2, 2).Cells) {
		t.Errorf("an argument shares its memory: %v, %v", w, v)
	}
}

// A later call, or a change of the arguments, leaves earlier results as they are.
func TestArgumentsAreNotRetained(t *testing.T) {
	w, b, x, g := mixed(1, 2, 3), mixed(2, 2), mixed(3, 3), mixed(4, 2)
	l := results(w, b, x, g)
	var kept []tensor.Tensor
	for _, r := range l {
		kept = append(kept, r.Copy())
	}
	for _, argument := range []tensor.Tensor{w, b, x, g} {
		overwrite(argument)
	}
	results(mixed(5, 2, 3), mixed(6, 2), mixed(7, 3), mixed(8, 2))
	for i := range l {
		if !is(l[i], kept[i].S, kept[i].Cells) {
			t.Errorf("result %d retains an argument: %v", i, l[i])
		}
	}
}

// P1 of DOC.md: no arguments make a function panic.
func TestAllArguments(t *testing.T) {
	list := wrong()
	for i, s := range []shape.Shape{{1}, {2}, {3}, {6}, {1024}, {1, 1}, {1, 3}, {3, 1}, {2, 3}, {3, 2}, {64, 1024}, {1, 1, 1}, {2, 3, 4}, {1, 1, 2, 3}} {
		list = append(list, mixed(i, s...))
	}
	numbers := []int{math.MinInt, -1, 0, 1, 2, 63, 64, 1023, 1024, math.MaxInt}
	for _, w := range list {
		for _, b := range list {
			dense.Bias(w, b)
			for _, x := range list {
				dense.Go(w, b, x)
				dense.Back(w, b, x, b)
				dense.Back(w, x, b, x)
				dense.Back(b, b, x, w)
			}
		}
		for _, number := range numbers {
			dense.Row(w, number)
			dense.Column(w, number)
		}
	}
}
