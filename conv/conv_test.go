package conv_test

import (
	"math"
	"slices"
	"testing"

	"athanor/api"
	"athanor/conv"
	"athanor/fix"
	"athanor/shape"
	"athanor/tensor"
)

const (
	one  = fix.One
	half = fix.One / 2
	most = fix.Max
	last = fix.Min
)

type dims = shape.Shape

// wantTouch is what the chapter says of the products, index by index, for shapes that have an output.
func wantTouch(w, x dims, step int) [][3]int {
	if len(x) == 2 {
		return wantTouch1(w, x, step)
	}
	o, c, k, l := w[0], w[1], w[2], w[3]
	h, v := x[1], x[2]
	a, b := 1+(h-k)/step, 1+(v-l)/step
	var list [][3]int
	for p := range o {
		for i := range a {
			for j := range b {
				for q := range c {
					for t := range k {
						for u := range l {
							list = append(list, [3]int{(p*a+i)*b + j, ((p*c+q)*k+t)*l + u, (q*h+i*step+t)*v + j*step + u})
						}
					}
				}
			}
		}
	}
	return list
}

// wantTouch1 is the same in one dimension.
func wantTouch1(w, x dims, step int) [][3]int {
	o, c, k, n := w[0], w[1], w[2], x[1]
	m := 1 + (n-k)/step
	var list [][3]int
	for p := range o {
		for i := range m {
			for q := range c {
				for t := range k {
					list = append(list, [3]int{p*m + i, (p*c+q)*k + t, q*n + i*step + t})
				}
			}
		}
	}
	return list
}

// wantOut is what the chapter says of the cells of the output, one operation of layer 1 after another.
func wantOut(w, x tensor.Tensor, step, size int) []fix.F {
	out := make([]fix.F, size)
	for _, at := range wantTouch(w.S, x.S, step) {
		out[at[0]] = out[at[0]].Add(w.Cells[at[1]].Mul(x.Cells[at[2]]))
	}
	return out
}

// wantBack is what the chapter says of the cells of the gradients.
func wantBack(w, x, g tensor.Tensor, step int) (ofW, ofX []fix.F) {
	ofW, ofX = make([]fix.F, len(w.Cells)), make([]fix.F, len(x.Cells))
	for _, at := range wantTouch(w.S, x.S, step) {
		slope := g.Cells[at[0]]
		ofW[at[1]] = ofW[at[1]].Add(slope.Mul(x.Cells[at[2]]))
		ofX[at[2]] = ofX[at[2]].Add(slope.Mul(w.Cells[at[1]]))
	}
	return ofW, ofX
}

// edges are numbers whose products are rounded, tie, or saturate, and whose sums saturate at both ends.
func edges() []fix.F {
	return []fix.F{
		one, most, -3, half, 0, last, 7*one/3 + 1, -one, 1 << 47, -5 * one / 7, most / 2, 1, -1 << 47, half + 1, last / 2, -half, 6, -2 * one, most - 1, 3, last + 1, -1, 1 << 62, 0, -1 << 62, 2*one - 1, 1 << 31,
	}
}

// of is a tensor with this shape and these cells.
func of(s dims, cells ...fix.F) tensor.Tensor {
	return tensor.Tensor{S: s, Cells: cells}
}

// mixed is a tensor whose cells are edges; another seed gives other cells.
func mixed(seed int, sides ...int) tensor.Tensor {
	l := edges()
	n := 1
	for _, length := range sides {
		n *= length
	}
	cells := make([]fix.F, n)
	state := uint32(seed)*2654435761 + 12345
	for i := range cells {
		state = state*1664525 + 1013904223
		cells[i] = l[int(state>>8)%len(l)]
	}
	return of(sides, cells...)
}

// wrongShapes are shapes that are not valid.
func wrongShapes() []dims {
	return []dims{
		nil, {}, {0}, {-1}, {0, 0}, {1, 0}, {0, 1}, {-1, 3}, {-1, -3}, {1, 1025}, {1025, 1}, {65, 1024}, {257, 256},
		{0, 1, 2}, {1, 0, 2}, {1, 1, 0}, {-1, 1, 2}, {1, -1, 2}, {1, 1, -2}, {-1, 1, -2}, {1, 1, 1025}, {1025, 1, 1}, {1, 1025, 1}, {64, 2, 513}, {1024, 1024, 1024},
		{0, 1, 2, 2}, {1, 0, 2, 2}, {1, 1, 0, 2}, {1, 1, 2, 0}, {1, 1, -2, -2}, {1, 1, 2, 1025}, {1, 1, 1025, 1}, {1, 1, 257, 256}, {1024, 1024, 1024, 1024},
		{1, 1, 1, 1, 1}, {1, 1, 2, 2, 1}, {1, 1, 1, 1, 2}, {1, 1, 1, 1, 1, 1}, {2, 1 << 62}, {1, 1, 1 << 62}, {1 << 32, 1 << 32, 1}, {math.MaxInt, math.MaxInt, math.MaxInt}, {math.MinInt, 1, 1}, {1, 1, math.MinInt, 1}, {math.MinInt, math.MinInt},
	}
}

// wrong are tensors that are not valid, some with the number of cells that is needed.
func wrong() []tensor.Tensor {
	l := []tensor.Tensor{
		{}, {Cells: make([]fix.F, 2)}, {Cells: make([]fix.F, 3)}, {S: dims{}, Cells: make([]fix.F, 4)}, {Cells: make([]fix.F, 9)},
	}
	for _, s := range wrongShapes() {
		for _, n := range []int{0, 1, 2, 3, 4, 6, 9} {
			l = append(l, tensor.Tensor{S: s, Cells: make([]fix.F, n)})
		}
	}
	for _, s := range []dims{{1, 2}, {1, 3}, {2, 3}, {1, 1, 2}, {1, 3, 3}, {1, 2, 2}, {2, 2, 3}, {1, 1, 1, 1}, {1, 1, 2, 2}, {2, 1, 1, 2}} {
		n := len(mixed(0, s...).Cells)
		for _, m := range []int{0, 1, n - 1, n + 1, 2 * n} {
			if m != n {
				l = append(l, tensor.Tensor{S: s, Cells: make([]fix.F, m)}, tensor.Tensor{S: s, Cells: make([]fix.F, m, m+n)})
			}
		}
	}
	return l
}

// is reports whether a tensor has this shape and these cells.
func is(g tensor.Tensor, s dims, cells []fix.F) bool {
	return slices.Equal(g.S, s) && slices.Equal(g.Cells, cells)
}

// none reports whether a tensor is its zero value.
func none(g tensor.Tensor) bool {
	return len(g.S) == 0 && len(g.Cells) == 0
}

// overwrite changes all the memory of a tensor, to the capacities.
func overwrite(g tensor.Tensor) {
	s, cells := g.S[:cap(g.S)], g.Cells[:cap(g.Cells)]
	for i := range s {
		s[i] = -77
	}
	for i := range cells {
		cells[i] = -99
	}
}

// touched returns what Touch yields.
func touched(w, x dims, step int) [][3]int {
	return slices.Collect(conv.Touch(w, x, step))
}

// check compares Shape, Go and Back with a literal shape and literal cells.
func check(t *testing.T, w, x tensor.Tensor, step int, g tensor.Tensor, out, ofW, ofX []fix.F) {
	t.Helper()
	if got, err := conv.Shape(w.S, x.S, step); err != api.OK || !slices.Equal(got, g.S) {
		t.Errorf("Shape of W %v, x %v, step %d: %v, error %d, not %v", w.S, x.S, step, got, err, g.S)
	}
	if got, err := conv.Go(w, x, step); err != api.OK || !is(got, g.S, out) {
		t.Errorf("Go of W %v, x %v, step %d: %v, error %d, not %d", w, x, step, got, err, out)
	}
	got, err := conv.Back(w, x, g, step)
	if err != api.OK || !is(got.W, w.S, ofW) || !is(got.X, x.S, ofX) {
		t.Errorf("Back of W %v, x %v, g %v, step %d: %v, error %d, not %d and %d", w, x, g, step, got, err, ofW, ofX)
	}
}

// refusesShapes checks that Shape returns this error and nothing else, and that Touch yields nothing.
func refusesShapes(t *testing.T, w, x dims, step int, want api.Errno) {
	t.Helper()
	if got, err := conv.Shape(w, x, step); err != want || len(got) != 0 {
		t.Errorf("Shape of W %v, x %v, step %d: %v, error %d, not %d", w, x, step, got, err, want)
	}
	for at := range conv.Touch(w, x, step) {
		t.Errorf("Touch of W %v, x %v, step %d: %v, not nothing", w, x, step, at)
		break
	}
}

// refuses checks that Go and Back return this error and nothing else.
func refuses(t *testing.T, w, x tensor.Tensor, step int, g tensor.Tensor, want api.Errno) {
	t.Helper()
	if got, err := conv.Go(w, x, step); err != want || !none(got) {
		t.Errorf("Go of the shapes %v, %v with %d, %d cells, step %d: shape %v, error %d, not %d", w.S, x.S, len(w.Cells), len(x.Cells), step, got.S, err, want)
	}
	refusesBack(t, w, x, step, g, want)
}

func refusesBack(t *testing.T, w, x tensor.Tensor, step int, g tensor.Tensor, want api.Errno) {
	t.Helper()
	if got, err := conv.Back(w, x, g, step); err != want || !none(got.W) || !none(got.X) {
		t.Errorf("Back of the shapes %v, %v, %v with %d, %d, %d cells, step %d: shapes %v, %v, error %d, not %d", w.S, x.S, g.S, len(w.Cells), len(x.Cells), len(g.Cells), step, got.W.S, got.X.S, err, want)
	}
}

// The example of the chapter.
func TestExample(t *testing.T) {
	got, err := conv.Go(of(dims{1, 1, 2}, one, 2*one), of(dims{1, 3}, one, one, 3*one), 1)
	if err != api.OK || !is(got, dims{1, 2}, []fix.F{3 * one, 7 * one}) {
		t.Errorf("Go: %v, error %d", got, err)
	}
}

// P7.1

func TestShape(t *testing.T) {
	for _, c := range []struct {
		w, x dims
		step int
		out  dims
	}{
		{dims{1, 1, 2}, dims{1, 3}, 1, dims{1, 2}}, {dims{1, 1, 1}, dims{1, 1}, 1, dims{1, 1}}, {dims{1, 1, 1}, dims{1, 5}, 1, dims{1, 5}}, {dims{1, 1, 5}, dims{1, 5}, 1, dims{1, 1}}, {dims{3, 2, 2}, dims{2, 7}, 1, dims{3, 6}},
		// What remains of a side is less than a step.
		{dims{1, 1, 2}, dims{1, 7}, 2, dims{1, 3}}, {dims{1, 1, 2}, dims{1, 7}, 3, dims{1, 2}}, {dims{1, 1, 2}, dims{1, 8}, 3, dims{1, 3}}, {dims{1, 1, 2}, dims{1, 7}, 5, dims{1, 2}}, {dims{1, 1, 2}, dims{1, 7}, 6, dims{1, 1}}, {dims{1, 1, 2}, dims{1, 7}, 1024, dims{1, 1}}, {dims{1, 1, 1}, dims{1, 1024}, 1023, dims{1, 2}}, {dims{1, 1, 1}, dims{1, 1024}, 1024, dims{1, 1}},
		{dims{1, 1, 2, 2}, dims{1, 3, 3}, 1, dims{1, 2, 2}}, {dims{1, 1, 1, 1}, dims{1, 1, 1}, 1, dims{1, 1, 1}}, {dims{4, 3, 2, 5}, dims{3, 4, 6}, 1, dims{4, 3, 2}}, {dims{4, 3, 5, 2}, dims{3, 6, 4}, 1, dims{4, 2, 3}}, {dims{4, 3, 4, 6}, dims{3, 4, 6}, 1, dims{4, 1, 1}},
		{dims{2, 1, 2, 3}, dims{1, 7, 9}, 2, dims{2, 3, 4}}, {dims{2, 1, 3, 2}, dims{1, 9, 7}, 2, dims{2, 4, 3}}, {dims{2, 1, 2, 3}, dims{1, 7, 9}, 3, dims{2, 2, 3}}, {dims{2, 1, 2, 3}, dims{1, 7, 9}, 6, dims{2, 1, 2}}, {dims{2, 1, 2, 3}, dims{1, 7, 9}, 1024, dims{2, 1, 1}},
		// Outputs, kernels and inputs at the limits.
		{dims{64, 1, 1}, dims{1, 1024}, 1, dims{64, 1024}}, {dims{1024, 1, 1}, dims{1, 64}, 1, dims{1024, 64}}, {dims{1024, 1, 2}, dims{1, 65}, 1, dims{1024, 64}}, {dims{1024, 1, 1}, dims{1, 128}, 2, dims{1024, 64}}, {dims{64, 1024, 1}, dims{1024, 64}, 1, dims{64, 64}}, {dims{1, 64, 1024}, dims{64, 1024}, 1, dims{1, 1}},
		{dims{1, 1, 1, 1}, dims{1, 256, 256}, 1, dims{1, 256, 256}}, {dims{4, 1, 1, 1}, dims{1, 256, 256}, 2, dims{4, 128, 128}}, {dims{16, 1, 1, 1}, dims{1, 64, 64}, 1, dims{16, 64, 64}}, {dims{1, 1, 64, 1024}, dims{1, 64, 1024}, 1, dims{1, 1, 1}},
	} {
		got, err := conv.Shape(c.w, c.x, c.step)
		if err != api.OK || !slices.Equal(got, c.out) {
			t.Errorf("Shape of W %v, x %v, step %d: %v, error %d, not %v", c.w, c.x, c.step, got, err, c.out)
		}
	}
}

// The arguments that are refused, before a Window is asked (with ErrShape), by a Window (with ErrRange), and after it (with ErrShape).
func TestShapesThatAreRefused(t *testing.T) {
	for _, c := range []struct {
		w, x dims
		step int
		err  api.Errno
	}{
		// The channels differ.
		{dims{1, 2, 2}, dims{1, 3}, 1, api.ErrShape}, {dims{1, 1, 2}, dims{2, 3}, 1, api.ErrShape}, {dims{2, 1, 2}, dims{2, 3}, 1, api.ErrShape}, {dims{2, 3, 4}, dims{4, 4}, 1, api.ErrShape}, {dims{1, 2, 2, 2}, dims{1, 3, 3}, 1, api.ErrShape}, {dims{1, 1, 2, 2}, dims{2, 3, 3}, 1, api.ErrShape}, {dims{3, 2, 3, 3}, dims{3, 3, 3}, 1, api.ErrShape},
		// The kernel is longer than the input.
		{dims{1, 1, 4}, dims{1, 3}, 1, api.ErrRange}, {dims{1, 1, 2}, dims{1, 1}, 1, api.ErrRange}, {dims{1, 1, 1024}, dims{1, 1023}, 1, api.ErrRange}, {dims{1, 1, 4, 3}, dims{1, 3, 3}, 1, api.ErrRange}, {dims{1, 1, 3, 4}, dims{1, 3, 3}, 1, api.ErrRange}, {dims{1, 1, 4, 4}, dims{1, 3, 3}, 1, api.ErrRange}, {dims{1, 1, 3, 4}, dims{1, 4, 3}, 1, api.ErrRange}, {dims{1, 1, 4, 3}, dims{1, 3, 4}, 1, api.ErrRange},
		// There is no such step.
		{dims{1, 1, 2}, dims{1, 3}, 0, api.ErrRange}, {dims{1, 1, 2}, dims{1, 3}, -1, api.ErrRange}, {dims{1, 1, 3}, dims{1, 3}, 0, api.ErrRange}, {dims{1, 1, 2}, dims{1, 3}, 1025, api.ErrRange}, {dims{1, 1, 2}, dims{1, 3}, 1 << 32, api.ErrRange}, {dims{1, 1, 2}, dims{1, 3}, 1<<32 + 1, api.ErrRange}, {dims{1, 1, 2}, dims{1, 3}, math.MaxInt, api.ErrRange}, {dims{1, 1, 2}, dims{1, 3}, math.MinInt, api.ErrRange},
		{dims{1, 1, 2, 2}, dims{1, 3, 3}, 0, api.ErrRange}, {dims{1, 1, 3, 3}, dims{1, 3, 3}, -1, api.ErrRange}, {dims{1, 1, 2, 2}, dims{1, 3, 3}, 1025, api.ErrRange}, {dims{1, 1, 2, 2}, dims{1, 3, 3}, math.MaxInt, api.ErrRange}, {dims{1, 1, 2, 2}, dims{1, 3, 3}, math.MinInt, api.ErrRange}, {dims{1, 1, 4}, dims{1, 3}, 0, api.ErrRange},
		// The output is not valid.
		{dims{1024, 1, 1}, dims{1, 65}, 1, api.ErrShape}, {dims{65, 1, 1}, dims{1, 1024}, 1, api.ErrShape}, {dims{1024, 1, 2}, dims{1, 66}, 1, api.ErrShape}, {dims{1024, 1, 1}, dims{1, 129}, 2, api.ErrShape}, {dims{2, 1, 1, 1}, dims{1, 256, 256}, 1, api.ErrShape}, {dims{17, 1, 1, 1}, dims{1, 64, 64}, 1, api.ErrShape}, {dims{1024, 1, 1, 1}, dims{1, 1, 65}, 1, api.ErrShape}, {dims{1024, 1, 1, 1}, dims{1, 13, 5}, 1, api.ErrShape},
		// Several errors.
		{dims{1, 2, 2}, dims{1, 3}, 0, api.ErrShape}, {dims{1, 2, 4}, dims{1, 3}, 1, api.ErrShape}, {dims{1, 2, 4}, dims{1, 3}, -1, api.ErrShape}, {dims{1, 2, 4, 4}, dims{1, 3, 3}, 1025, api.ErrShape}, {dims{1, 0, 4}, dims{0, 3}, 0, api.ErrShape}, {dims{1, 1, 4}, dims{1, 0}, 0, api.ErrShape}, {dims{1, 1, 4}, dims{1, 3, 3}, 0, api.ErrShape}, {dims{1, 1, 4, 4}, dims{1, 3}, 0, api.ErrShape}, {dims{1, 1, 1025}, dims{1, 1024}, 1, api.ErrShape}, {dims{1, 1, 1, 1}, dims{1, 1}, math.MinInt, api.ErrShape},
		{dims{1024, 1, 1}, dims{1, 65}, 0, api.ErrRange}, {dims{1024, 1, 1}, dims{1, 65}, 1025, api.ErrRange}, {dims{1024, 1, 1, 3}, dims{1, 100, 2}, 1, api.ErrRange}, {dims{1024, 1, 3, 1}, dims{1, 2, 100}, 1, api.ErrRange}, {dims{2, 1, 1, 1}, dims{1, 256, 256}, -1, api.ErrRange},
	} {
		refusesShapes(t, c.w, c.x, c.step, c.err)
		if mixable(c.w) && mixable(c.x) {
			refuses(t, mixed(1, c.w...), mixed(2, c.x...), c.step, mixed(3, 1, 2), c.err)
		}
	}
}

// mixable reports whether mixed can make a tensor of this shape.
func mixable(s dims) bool {
	return len(s) > 0 && slices.Min(s) >= 0
}

// Only three and two, and four and three sides are taken.
func TestNumbersOfSides(t *testing.T) {
	for sidesOfW := range 7 {
		for sidesOfX := range 7 {
			w, x := slices.Repeat(dims{1}, sidesOfW), slices.Repeat(dims{1}, sidesOfX)
			if sidesOfW == 3 && sidesOfX == 2 || sidesOfW == 4 && sidesOfX == 3 {
				check(t, of(w, 3*one), of(x, 5), 1, of(x, one), []fix.F{15}, []fix.F{5}, []fix.F{3 * one})
				continue
			}
			for _, step := range []int{-1, 0, 1, 1025} {
				refusesShapes(t, w, x, step, api.ErrShape)
				refuses(t, of(w, one), of(x, one), step, of(x, one), api.ErrShape)
			}
		}
	}
}

// A shape that is not valid is refused in both places, with any step.
func TestShapesThatAreNotValid(t *testing.T) {
	for _, bad := range wrongShapes() {
		for _, step := range []int{-1, 0, 1, 2, 1024, 1025} {
			for _, good := range []dims{{1, 2}, {2, 1}, {1, 1, 2}, {1, 2, 2}, {1, 1, 2, 2}} {
				refusesShapes(t, bad, good, step, api.ErrShape)
				refusesShapes(t, good, bad, step, api.ErrShape)
			}
			refusesShapes(t, bad, bad, step, api.ErrShape)
			if len(bad) > 1 {
				refusesShapes(t, bad, bad[1:], step, api.ErrShape)
			}
		}
	}
}

// Touch

func TestTouch(t *testing.T) {
	for _, c := range []struct {
		w, x dims
		step int
		want [][3]int
	}{
		{dims{1, 1, 1}, dims{1, 1}, 1, [][3]int{{0, 0, 0}}},
		{dims{1, 1, 2}, dims{1, 3}, 1, [][3]int{{0, 0, 0}, {0, 1, 1}, {1, 0, 1}, {1, 1, 2}}},
		{dims{1, 1, 2}, dims{1, 6}, 3, [][3]int{{0, 0, 0}, {0, 1, 1}, {1, 0, 3}, {1, 1, 4}}},
		{dims{1, 1, 2}, dims{1, 6}, 1024, [][3]int{{0, 0, 0}, {0, 1, 1}}},
		{dims{2, 2, 2}, dims{2, 3}, 1, [][3]int{{0, 0, 0}, {0, 1, 1}, {0, 2, 3}, {0, 3, 4}, {1, 0, 1}, {1, 1, 2}, {1, 2, 4}, {1, 3, 5}, {2, 4, 0}, {2, 5, 1}, {2, 6, 3}, {2, 7, 4}, {3, 4, 1}, {3, 5, 2}, {3, 6, 4}, {3, 7, 5}}},
		{dims{1, 1, 1, 1}, dims{1, 1, 1}, 1, [][3]int{{0, 0, 0}}},
		{dims{1, 1, 2, 2}, dims{1, 3, 3}, 1, [][3]int{{0, 0, 0}, {0, 1, 1}, {0, 2, 3}, {0, 3, 4}, {1, 0, 1}, {1, 1, 2}, {1, 2, 4}, {1, 3, 5}, {2, 0, 3}, {2, 1, 4}, {2, 2, 6}, {2, 3, 7}, {3, 0, 4}, {3, 1, 5}, {3, 2, 7}, {3, 3, 8}}},
		{dims{1, 1, 1, 2}, dims{1, 3, 4}, 2, [][3]int{{0, 0, 0}, {0, 1, 1}, {1, 0, 2}, {1, 1, 3}, {2, 0, 8}, {2, 1, 9}, {3, 0, 10}, {3, 1, 11}}},
		{dims{1, 2, 2, 1}, dims{2, 2, 2}, 1, [][3]int{{0, 0, 0}, {0, 1, 2}, {0, 2, 4}, {0, 3, 6}, {1, 0, 1}, {1, 1, 3}, {1, 2, 5}, {1, 3, 7}}},
		{dims{2, 1, 1, 1}, dims{1, 1, 2}, 1, [][3]int{{0, 0, 0}, {1, 0, 1}, {2, 1, 0}, {3, 1, 1}}},
	} {
		if got := touched(c.w, c.x, c.step); !slices.Equal(got, c.want) {
			t.Errorf("Touch of W %v, x %v, step %d: %v, not %v", c.w, c.x, c.step, got, c.want)
		}
	}
}

// The loop is left after any number of products, and nothing is yielded after that.
func TestTouchStops(t *testing.T) {
	for _, c := range []struct{ w, x dims }{{dims{2, 2, 2}, dims{2, 4}}, {dims{2, 2, 2, 1}, dims{2, 3, 2}}, {dims{1, 1, 1}, dims{1, 1}}} {
		all := conv.Touch(c.w, c.x, 1)
		want := wantTouch(c.w, c.x, 1)
		for stop := range len(want) + 2 {
			var got [][3]int
			calls := 0
			all(func(at [3]int) bool {
				calls++
				if calls > stop {
					return false
				}
				got = append(got, at)
				return true
			})
			if calls != min(stop+1, len(want)) || !slices.Equal(got, want[:min(stop, len(want))]) {
				t.Errorf("Touch of W %v, x %v, stopped after %d: %d calls, %v", c.w, c.x, stop, calls, got)
			}
		}
	}
}

// One iterator is ranged over twice, in a loop over itself, and after it was not ranged over at all.
func TestTouchAgain(t *testing.T) {
	w, x := dims{2, 1, 2}, dims{1, 4}
	conv.Touch(w, x, 2)
	all := conv.Touch(w, x, 2)
	want := wantTouch(w, x, 2)
	for range 2 {
		var outer [][3]int
		for at := range all {
			outer = append(outer, at)
			if inner := slices.Collect(all); !slices.Equal(inner, want) {
				t.Errorf("the inner loop: %v, not %v", inner, want)
			}
		}
		if !slices.Equal(outer, want) {
			t.Errorf("the outer loop: %v, not %v", outer, want)
		}
	}
	for range all {
		break
	}
	if got := slices.Collect(all); !slices.Equal(got, want) {
		t.Errorf("after a loop that was left: %v, not %v", got, want)
	}
	none := conv.Touch(w, x, 0)
	for range 2 {
		if got := slices.Collect(none); len(got) != 0 {
			t.Errorf("Touch with step 0: %v", got)
		}
	}
}

// P7.2

func TestConvolutions(t *testing.T) {
	for _, c := range []struct {
		w, x          tensor.Tensor
		step          int
		g             tensor.Tensor
		out, ofW, ofX []fix.F
	}{
		// One dimension.
		{of(dims{1, 1, 2}, one, 2*one), of(dims{1, 3}, one, one, 3*one), 1, of(dims{1, 2}, 5, 7), []fix.F{3 * one, 7 * one}, []fix.F{12, 26}, []fix.F{5, 17, 14}},
		{of(dims{2, 2, 2}, one, 0, 0, one, one, one, one, one), of(dims{2, 4}, one, 2*one, 3*one, 4*one, 5*one, 6*one, 7*one, 8*one), 1, of(dims{2, 3}, one, 2*one, 3*one, 4*one, 5*one, 6*one), []fix.F{7 * one, 9 * one, 11 * one, 14 * one, 18 * one, 22 * one}, []fix.F{14 * one, 20 * one, 38 * one, 44 * one, 32 * one, 47 * one, 92 * one, 107 * one}, []fix.F{5 * one, 11 * one, 14 * one, 6 * one, 4 * one, 10 * one, 13 * one, 9 * one}},
		{of(dims{2, 2, 2}, one, 0, 0, one, one, one, one, one), of(dims{2, 4}, one, 2*one, 3*one, 4*one, 5*one, 6*one, 7*one, 8*one), 2, of(dims{2, 2}, one, 2*one, 0, one), []fix.F{7 * one, 11 * one, 14 * one, 22 * one}, []fix.F{7 * one, 10 * one, 19 * one, 22 * one, 3 * one, 4 * one, 7 * one, 8 * one}, []fix.F{one, 0, 3 * one, one, 0, one, one, 3 * one}},
		// Steps beyond the kernel, parts of x that no window reaches, kernels of one cell and as long as x, several channels.
		{of(dims{1, 1, 2}, one, 2*one), of(dims{1, 5}, 1, 2, 3, 4, 5), 2, of(dims{1, 2}, one, 10*one), []fix.F{5, 11}, []fix.F{31, 42}, []fix.F{one, 2 * one, 10 * one, 20 * one, 0}},
		{of(dims{1, 1, 2}, one, 2*one), of(dims{1, 7}, 1, 2, 3, 4, 5, 6, 7), 4, of(dims{1, 2}, one, 10*one), []fix.F{5, 17}, []fix.F{51, 62}, []fix.F{one, 2 * one, 0, 0, 10 * one, 20 * one, 0}},
		{of(dims{1, 1, 2}, one, 2*one), of(dims{1, 5}, 1, 2, 3, 4, 5), 4, of(dims{1, 1}, 3*one), []fix.F{5}, []fix.F{3, 6}, []fix.F{3 * one, 6 * one, 0, 0, 0}},
		{of(dims{1, 1, 2}, one, 2*one), of(dims{1, 5}, 1, 2, 3, 4, 5), 1024, of(dims{1, 1}, 3*one), []fix.F{5}, []fix.F{3, 6}, []fix.F{3 * one, 6 * one, 0, 0, 0}},
		{of(dims{1, 1, 1}, 3*one), of(dims{1, 4}, 1, -2, 3, -4), 1, of(dims{1, 4}, one, 2*one, 0, -one), []fix.F{3, -6, 9, -12}, []fix.F{1}, []fix.F{3 * one, 6 * one, 0, -3 * one}},
		{of(dims{2, 1, 1}, 3*one, -one), of(dims{1, 4}, 1, -2, 3, -4), 3, of(dims{2, 2}, one, 2*one, 10*one, 20*one), []fix.F{3, -12, -1, 4}, []fix.F{-7, -70}, []fix.F{-7 * one, 0, 0, -14 * one}},
		{of(dims{1, 3, 1}, one, 2*one, 3*one), of(dims{3, 2}, 1, 2, 3, 4, 5, 6), 1, of(dims{1, 2}, one, 10*one), []fix.F{22, 28}, []fix.F{21, 43, 65}, []fix.F{one, 10 * one, 2 * one, 20 * one, 3 * one, 30 * one}},
		{of(dims{2, 1, 3}, one, 2*one, 3*one, 0, -one, 4*one), of(dims{1, 3}, 1, 2, 3), 1, of(dims{2, 1}, 2*one, 10*one), []fix.F{14, 10}, []fix.F{2, 4, 6, 10, 20, 30}, []fix.F{2 * one, -6 * one, 46 * one}},
		{of(dims{1, 1, 1}, 5*one), of(dims{1, 1}, 7), 1, of(dims{1, 1}, -2*one), []fix.F{35}, []fix.F{-14}, []fix.F{-10 * one}},
		// Two dimensions.
		{of(dims{1, 1, 2, 2}, one, 2*one, 3*one, 4*one), of(dims{1, 3, 3}, 1, 2, 3, 4, 5, 6, 7, 8, 9), 1, of(dims{1, 2, 2}, one, 0, 0, one), []fix.F{37, 47, 67, 77}, []fix.F{6, 8, 12, 14}, []fix.F{one, 2 * one, 0, 3 * one, 5 * one, 2 * one, 0, 3 * one, 4 * one}},
		{of(dims{1, 1, 2, 2}, one, 2*one, 3*one, 4*one), of(dims{1, 3, 3}, 1, 2, 3, 4, 5, 6, 7, 8, 9), 1, of(dims{1, 2, 2}, one, 10*one, 100*one, 1000*one), []fix.F{37, 47, 67, 77}, []fix.F{5421, 6532, 8754, 9865}, []fix.F{one, 12 * one, 20 * one, 103 * one, 1234 * one, 2040 * one, 300 * one, 3400 * one, 4000 * one}},
		{of(dims{1, 1, 1, 2}, one, 2*one), of(dims{1, 3, 4}, 1, 2, 3, 4, 5, 6, 7, 8, 9, 10, 11, 12), 2, of(dims{1, 2, 2}, one, 10*one, 100*one, 1000*one), []fix.F{5, 11, 29, 35}, []fix.F{11931, 13042}, []fix.F{one, 2 * one, 10 * one, 20 * one, 0, 0, 0, 0, 100 * one, 200 * one, 1000 * one, 2000 * one}},
		{of(dims{1, 1, 2, 1}, one, 2*one), of(dims{1, 3, 4}, 1, 2, 3, 4, 5, 6, 7, 8, 9, 10, 11, 12), 1, of(dims{1, 2, 4}, one, 10*one, 100*one, 1000*one, 3*one, 5*one, 7*one, 9*one), []fix.F{11, 14, 17, 20, 23, 26, 29, 32}, []fix.F{4487, 9027}, []fix.F{one, 10 * one, 100 * one, 1000 * one, 5 * one, 25 * one, 207 * one, 2009 * one, 6 * one, 10 * one, 14 * one, 18 * one}},
		{of(dims{2, 2, 1, 2}, one, 2*one, 3*one, 4*one, 5*one, 6*one, 7*one, 8*one), of(dims{2, 2, 2}, 1, 2, 3, 4, 5, 6, 7, 8), 1, of(dims{2, 2, 1}, one, 10*one, 100*one, 1000*one), []fix.F{44, 64, 100, 152}, []fix.F{31, 42, 75, 86, 3100, 4200, 7500, 8600}, []fix.F{501 * one, 602 * one, 5010 * one, 6020 * one, 703 * one, 804 * one, 7030 * one, 8040 * one}},
		{of(dims{1, 2, 2, 2}, one, 2*one, 3*one, 4*one, 5*one, 6*one, 7*one, 8*one), of(dims{2, 2, 3}, 1, 2, 3, 4, 5, 6, 7, 8, 9, 10, 11, 12), 1, of(dims{1, 1, 2}, one, 10*one), []fix.F{278, 314}, []fix.F{21, 32, 54, 65, 87, 98, 120, 131}, []fix.F{one, 12 * one, 20 * one, 3 * one, 34 * one, 40 * one, 5 * one, 56 * one, 60 * one, 7 * one, 78 * one, 80 * one}},
		{of(dims{1, 1, 2, 3}, one, 2*one, 3*one, 4*one, 5*one, 6*one), of(dims{1, 2, 3}, 1, 2, 3, 4, 5, 6), 1, of(dims{1, 1, 1}, 7*one), []fix.F{91}, []fix.F{7, 14, 21, 28, 35, 42}, []fix.F{7 * one, 14 * one, 21 * one, 28 * one, 35 * one, 42 * one}},
		{of(dims{1, 1, 2, 3}, one, 2*one, 3*one, 4*one, 5*one, 6*one), of(dims{1, 2, 3}, 1, 2, 3, 4, 5, 6), 1024, of(dims{1, 1, 1}, 7*one), []fix.F{91}, []fix.F{7, 14, 21, 28, 35, 42}, []fix.F{7 * one, 14 * one, 21 * one, 28 * one, 35 * one, 42 * one}},
		{of(dims{1, 1, 1, 1}, 3*one), of(dims{1, 3, 4}, 1, 2, 3, 4, 5, 6, 7, 8, 9, 10, 11, 12), 2, of(dims{1, 2, 2}, one, 10*one, 100*one, 1000*one), []fix.F{3, 9, 27, 33}, []fix.F{11931}, []fix.F{3 * one, 0, 30 * one, 0, 0, 0, 0, 0, 300 * one, 0, 3000 * one, 0}},
		{of(dims{1, 1, 1, 1}, 3*one), of(dims{1, 4, 5}, 1, 2, 3, 4, 5, 6, 7, 8, 9, 10, 11, 12, 13, 14, 15, 16, 17, 18, 19, 20), 3, of(dims{1, 2, 2}, one, 10*one, 100*one, 1000*one), []fix.F{3, 12, 48, 57}, []fix.F{20641}, []fix.F{3 * one, 0, 0, 30 * one, 0, 0, 0, 0, 0, 0, 0, 0, 0, 0, 0, 300 * one, 0, 0, 3000 * one, 0}},
		{of(dims{1, 1, 1, 1}, 5*one), of(dims{1, 1, 1}, 7), 1, of(dims{1, 1, 1}, -2*one), []fix.F{35}, []fix.F{-14}, []fix.F{-10 * one}},
		// The order of the sum of an output cell, where it saturates: the channels of x, then the rows, then the columns.
		{of(dims{1, 1, 3}, one, one, one), of(dims{1, 3}, most, 7, -9), 1, of(dims{1, 1}, 0), []fix.F{most - 9}, []fix.F{0, 0, 0}, []fix.F{0, 0, 0}},
		{of(dims{1, 1, 3}, one, one, one), of(dims{1, 3}, -9, 7, most), 1, of(dims{1, 1}, 0), []fix.F{most - 2}, []fix.F{0, 0, 0}, []fix.F{0, 0, 0}},
		{of(dims{1, 1, 3}, one, one, one), of(dims{1, 3}, last, -7, 9), 1, of(dims{1, 1}, 0), []fix.F{last + 9}, []fix.F{0, 0, 0}, []fix.F{0, 0, 0}},
		{of(dims{1, 1, 3}, one, one, one), of(dims{1, 3}, 9, -7, last), 1, of(dims{1, 1}, 0), []fix.F{last + 2}, []fix.F{0, 0, 0}, []fix.F{0, 0, 0}},
		{of(dims{1, 3, 1}, one, one, one), of(dims{3, 1}, most, 7, -9), 1, of(dims{1, 1}, 0), []fix.F{most - 9}, []fix.F{0, 0, 0}, []fix.F{0, 0, 0}},
		{of(dims{1, 3, 1}, one, one, one), of(dims{3, 1}, -9, 7, most), 1, of(dims{1, 1}, 0), []fix.F{most - 2}, []fix.F{0, 0, 0}, []fix.F{0, 0, 0}},
		{of(dims{1, 2, 2}, one, one, one, one), of(dims{2, 2}, most, -9, 7, 0), 1, of(dims{1, 1}, 0), []fix.F{most - 2}, []fix.F{0, 0, 0, 0}, []fix.F{0, 0, 0, 0}},
		{of(dims{1, 2, 2}, one, one, one, one), of(dims{2, 2}, most, 7, -9, 0), 1, of(dims{1, 1}, 0), []fix.F{most - 9}, []fix.F{0, 0, 0, 0}, []fix.F{0, 0, 0, 0}},
		{of(dims{1, 1, 2, 2}, one, one, one, one), of(dims{1, 2, 2}, most, -9, 7, 0), 1, of(dims{1, 1, 1}, 0), []fix.F{most - 2}, []fix.F{0, 0, 0, 0}, []fix.F{0, 0, 0, 0}},
		{of(dims{1, 1, 2, 2}, one, one, one, one), of(dims{1, 2, 2}, most, 7, -9, 0), 1, of(dims{1, 1, 1}, 0), []fix.F{most - 9}, []fix.F{0, 0, 0, 0}, []fix.F{0, 0, 0, 0}},
		{of(dims{1, 2, 1, 2}, one, one, one, one), of(dims{2, 1, 2}, last, 9, -7, 0), 1, of(dims{1, 1, 1}, 0), []fix.F{last + 2}, []fix.F{0, 0, 0, 0}, []fix.F{0, 0, 0, 0}},
		{of(dims{1, 2, 2, 1}, one, one, one, one), of(dims{2, 2, 1}, last, 9, -7, 0), 1, of(dims{1, 1, 1}, 0), []fix.F{last + 2}, []fix.F{0, 0, 0, 0}, []fix.F{0, 0, 0, 0}},
		{of(dims{1, 2, 2, 1}, one, one, one, one), of(dims{2, 2, 1}, last, -7, 9, 0), 1, of(dims{1, 1, 1}, 0), []fix.F{last + 9}, []fix.F{0, 0, 0, 0}, []fix.F{0, 0, 0, 0}},
		// The order of the sum of a cell of the gradient of W: that of the cells of g.
		{of(dims{1, 1, 1}, 0), of(dims{1, 3}, one, one, one), 1, of(dims{1, 3}, most, 7, -9), []fix.F{0, 0, 0}, []fix.F{most - 9}, []fix.F{0, 0, 0}},
		{of(dims{1, 1, 1}, 0), of(dims{1, 3}, one, one, one), 1, of(dims{1, 3}, -9, 7, most), []fix.F{0, 0, 0}, []fix.F{most - 2}, []fix.F{0, 0, 0}},
		{of(dims{1, 1, 1}, 0), of(dims{1, 3}, one, one, one), 1, of(dims{1, 3}, last, -7, 9), []fix.F{0, 0, 0}, []fix.F{last + 9}, []fix.F{0, 0, 0}},
		{of(dims{1, 1, 2}, 0, 0), of(dims{1, 4}, one, one, one, one), 1, of(dims{1, 3}, 9, -7, last), []fix.F{0, 0, 0}, []fix.F{last + 2, last + 2}, []fix.F{0, 0, 0, 0}},
		{of(dims{1, 1, 1, 1}, 0), of(dims{1, 2, 2}, one, one, one, one), 1, of(dims{1, 2, 2}, most, -9, 7, 0), []fix.F{0, 0, 0, 0}, []fix.F{most - 2}, []fix.F{0, 0, 0, 0}},
		{of(dims{1, 1, 1, 1}, 0), of(dims{1, 2, 2}, one, one, one, one), 1, of(dims{1, 2, 2}, most, 7, -9, 0), []fix.F{0, 0, 0, 0}, []fix.F{most - 9}, []fix.F{0, 0, 0, 0}},
		{of(dims{1, 1, 1, 1}, 0), of(dims{1, 2, 2}, one, one, one, one), 1, of(dims{1, 2, 2}, 0, 9, -7, last), []fix.F{0, 0, 0, 0}, []fix.F{last + 2}, []fix.F{0, 0, 0, 0}},
		// The same of the gradient of x.
		{of(dims{3, 1, 1}, one, one, one), of(dims{1, 1}, 0), 1, of(dims{3, 1}, most, 7, -9), []fix.F{0, 0, 0}, []fix.F{0, 0, 0}, []fix.F{most - 9}},
		{of(dims{3, 1, 1}, one, one, one), of(dims{1, 1}, 0), 1, of(dims{3, 1}, -9, 7, most), []fix.F{0, 0, 0}, []fix.F{0, 0, 0}, []fix.F{most - 2}},
		{of(dims{1, 1, 3}, one, one, one), of(dims{1, 5}, 0, 0, 0, 0, 0), 1, of(dims{1, 3}, most, 7, -9), []fix.F{0, 0, 0}, []fix.F{0, 0, 0}, []fix.F{most, most, most - 9, -2, -9}},
		{of(dims{1, 1, 3}, one, one, one), of(dims{1, 5}, 0, 0, 0, 0, 0), 1, of(dims{1, 3}, -9, 7, most), []fix.F{0, 0, 0}, []fix.F{0, 0, 0}, []fix.F{-9, -2, most - 2, most, most}},
		{of(dims{2, 1, 2}, one, one, one, one), of(dims{1, 3}, 0, 0, 0), 1, of(dims{2, 2}, most, -9, 7, 0), []fix.F{0, 0, 0, 0}, []fix.F{0, 0, 0, 0}, []fix.F{most, most - 2, -9}},
		{of(dims{2, 1, 2}, one, one, one, one), of(dims{1, 3}, 0, 0, 0), 1, of(dims{2, 2}, most, 7, -9, 0), []fix.F{0, 0, 0, 0}, []fix.F{0, 0, 0, 0}, []fix.F{most - 9, most - 9, 7}},
		{of(dims{1, 1, 2, 2}, one, one, one, one), of(dims{1, 3, 3}, 0, 0, 0, 0, 0, 0, 0, 0, 0), 1, of(dims{1, 2, 2}, most, -9, 7, 0), []fix.F{0, 0, 0, 0}, []fix.F{0, 0, 0, 0}, []fix.F{most, most - 9, -9, most, most - 2, -9, 7, 7, 0}},
		{of(dims{1, 1, 2, 2}, one, one, one, one), of(dims{1, 3, 3}, 0, 0, 0, 0, 0, 0, 0, 0, 0), 1, of(dims{1, 2, 2}, most, 7, -9, 0), []fix.F{0, 0, 0, 0}, []fix.F{0, 0, 0, 0}, []fix.F{most, most, 7, most - 9, most - 9, 7, -9, -9, 0}},
		{of(dims{1, 1, 2, 2}, one, one, one, one), of(dims{1, 3, 3}, 0, 0, 0, 0, 0, 0, 0, 0, 0), 1, of(dims{1, 2, 2}, 0, 9, -7, last), []fix.F{0, 0, 0, 0}, []fix.F{0, 0, 0, 0}, []fix.F{0, 9, 9, -7, last + 2, last + 9, -7, last, last}},
		{of(dims{2, 1, 1, 2}, one, one, one, one), of(dims{1, 1, 3}, 0, 0, 0), 1, of(dims{2, 1, 2}, last, 9, -7, 0), []fix.F{0, 0, 0, 0}, []fix.F{0, 0, 0, 0}, []fix.F{last, last + 2, 9}},
		{of(dims{2, 1, 1, 2}, one, one, one, one), of(dims{1, 1, 3}, 0, 0, 0), 1, of(dims{2, 1, 2}, last, -7, 9, 0), []fix.F{0, 0, 0, 0}, []fix.F{0, 0, 0, 0}, []fix.F{last + 9, last + 9, -7}},
		// Each product is rounded, to the even one in case of a tie.
		{of(dims{1, 1, 2}, half, half), of(dims{1, 3}, 1, 1, 3), 1, of(dims{1, 2}, 1, 1), []fix.F{0, 2}, []fix.F{0, 0}, []fix.F{0, 0, 0}},
		{of(dims{1, 1, 2}, half, -half), of(dims{1, 3}, 3, 3, 1), 1, of(dims{1, 2}, 3, 3), []fix.F{0, 2}, []fix.F{0, 0}, []fix.F{2, 0, -2}},
		{of(dims{1, 1, 2, 2}, half, half, half+1, -half), of(dims{1, 2, 2}, 1, 3, 1, 1), 1, of(dims{1, 1, 1}, 3), []fix.F{3}, []fix.F{0, 0, 0, 0}, []fix.F{2, 2, 2, -2}},
		{of(dims{1, 1, 1}, 1), of(dims{1, 3}, half, half, 3*half), 1, of(dims{1, 3}, half, half, half), []fix.F{0, 0, 2}, []fix.F{one + one/4}, []fix.F{0, 0, 0}},
		{of(dims{1, 1, 1}, 3), of(dims{1, 3}, half, half, half), 1, of(dims{1, 3}, half, half, half), []fix.F{2, 2, 2}, []fix.F{3 * one / 4}, []fix.F{2, 2, 2}},
		// Products saturate.
		{of(dims{1, 1, 2}, most, last), of(dims{1, 3}, 2*one, -half, -2*one), 1, of(dims{1, 2}, 2*one, most), []fix.F{most, 1<<62 - 1}, []fix.F{4*one - 1<<62, last}, []fix.F{most, -1, last}},
		{of(dims{2, 1, 1}, last, -2*one), of(dims{1, 2}, last, most), 1, of(dims{2, 2}, last, -one, one, most), []fix.F{most, last, most, last}, []fix.F{0, -1}, []fix.F{most - 2*one, -1}},
		{of(dims{1, 1, 2, 2}, most, most, last, -one), of(dims{1, 2, 2}, 2*one, -2*one, -one, 9), 1, of(dims{1, 1, 1}, -2*one), []fix.F{most - 10}, []fix.F{-4 * one, 4 * one, 2 * one, -18}, []fix.F{last, last, most, 2 * one}},
		// A zero kernel, a zero input, and a zero gradient.
		{of(dims{1, 1, 2}, 0, 0), of(dims{1, 3}, most, last, most), 1, of(dims{1, 2}, most, last), []fix.F{0, 0}, []fix.F{most, last}, []fix.F{0, 0, 0}},
		{of(dims{1, 1, 2}, most, last), of(dims{1, 3}, 0, 0, 0), 1, of(dims{1, 2}, most, last), []fix.F{0, 0}, []fix.F{0, 0}, []fix.F{most, last, most}},
		{of(dims{1, 1, 2}, one, -one), of(dims{1, 3}, 7, 8, 10), 1, of(dims{1, 2}, 0, 0), []fix.F{-1, -2}, []fix.F{0, 0}, []fix.F{0, 0, 0}},
		{of(dims{1, 1, 2, 2}, one, 2*one, 3*one, 4*one), of(dims{1, 3, 3}, 1, 2, 3, 4, 5, 6, 7, 8, 9), 1, of(dims{1, 2, 2}, 0, 0, 0, 0), []fix.F{37, 47, 67, 77}, []fix.F{0, 0, 0, 0}, []fix.F{0, 0, 0, 0, 0, 0, 0, 0, 0}},
	} {
		check(t, c.w, c.x, c.step, c.g, c.out, c.ofW, c.ofX)
	}
}

// All products and all cells of the results are compared with what the chapter says of each, in shapes of many kinds, some at the limits.
func TestAllCells(t *testing.T) {
	for _, c := range []struct{ w, x dims }{
		{dims{1, 1, 1}, dims{1, 1}}, {dims{1, 1, 1}, dims{1, 9}}, {dims{1, 1, 9}, dims{1, 9}}, {dims{1, 1, 3}, dims{1, 10}}, {dims{2, 3, 2}, dims{3, 7}}, {dims{3, 2, 4}, dims{2, 6}}, {dims{5, 4, 1}, dims{4, 3}}, {dims{4, 5, 3}, dims{5, 3}}, {dims{2, 2, 5}, dims{2, 23}},
		{dims{1, 1, 1, 1}, dims{1, 1, 1}}, {dims{1, 1, 1, 1}, dims{1, 5, 4}}, {dims{1, 1, 5, 4}, dims{1, 5, 4}}, {dims{1, 1, 2, 3}, dims{1, 6, 5}}, {dims{2, 3, 3, 2}, dims{3, 5, 6}}, {dims{3, 2, 1, 4}, dims{2, 3, 9}}, {dims{3, 2, 4, 1}, dims{2, 9, 3}}, {dims{4, 5, 2, 2}, dims{5, 2, 3}}, {dims{2, 2, 3, 3}, dims{2, 10, 11}},
		{dims{64, 1, 1}, dims{1, 1024}}, {dims{1, 64, 1024}, dims{64, 1024}}, {dims{1, 64, 1}, dims{64, 1024}}, {dims{1, 1, 1024}, dims{1, 1024}}, {dims{1024, 2, 3}, dims{2, 40}}, {dims{1, 1, 2, 2}, dims{1, 256, 256}}, {dims{16, 1, 64, 64}, dims{1, 66, 67}}, {dims{8, 4, 3, 3}, dims{4, 32, 32}}, {dims{256, 256, 1, 1}, dims{256, 1, 2}}, {dims{1, 1024, 1, 1}, dims{1024, 8, 8}},
	} {
		for _, step := range []int{1, 2, 3, 4, 7, 1024} {
			compareAll(t, c.w, c.x, step, max(1, 60/len(mixed(0, c.w...).Cells)))
		}
	}
}

// compareAll compares Shape, Touch, and Go and Back of some tensors of these shapes.
func compareAll(t *testing.T, w, x dims, step, times int) {
	t.Helper()
	out := dims{w[0]}
	size := w[0]
	for i := 1; i < len(x); i++ {
		out = append(out, 1+(x[i]-w[i+1])/step)
		size *= out[i]
	}
	if got, err := conv.Shape(w, x, step); err != api.OK || !slices.Equal(got, out) {
		t.Errorf("Shape of W %v, x %v, step %d: %v, error %d, not %v", w, x, step, got, err, out)
	}
	if !slices.Equal(touched(w, x, step), wantTouch(w, x, step)) {
		t.Errorf("Touch of W %v, x %v, step %d: wrong products", w, x, step)
	}
	for seed := range times {
		kernel, in, g := mixed(3*seed, w...), mixed(3*seed+1, x...), mixed(3*seed+2, out...)
		if got, err := conv.Go(kernel, in, step); err != api.OK || !is(got, out, wantOut(kernel, in, step, size)) {
			t.Errorf("Go of W %v, x %v, step %d, seed %d: shape %v, error %d, or wrong cells", w, x, step, seed, got.S, err)
		}
		ofW, ofX := wantBack(kernel, in, g, step)
		got, err := conv.Back(kernel, in, g, step)
		if err != api.OK || !is(got.W, w, ofW) || !is(got.X, x, ofX) {
			t.Errorf("Back of W %v, x %v, step %d, seed %d: shapes %v, %v, error %d, or wrong cells", w, x, step, seed, got.W.S, got.X.S, err)
		}
	}
}

// The cells of x that no window reaches have the gradient 0, whatever the other numbers are.
func TestCellsOutOfReach(t *testing.T) {
	for _, c := range []struct{ w, x dims }{{dims{2, 2, 2}, dims{2, 9}}, {dims{2, 2, 1, 2}, dims{2, 5, 6}}} {
		for step := 1; step <= 9; step++ {
			reached := map[int]bool{}
			for _, at := range wantTouch(c.w, c.x, step) {
				reached[at[2]] = true
			}
			w, x := mixed(1, c.w...), mixed(2, c.x...)
			for i := range w.Cells {
				w.Cells[i] = one
			}
			g, _ := conv.Go(w, x, step)
			for i := range g.Cells {
				g.Cells[i] = 3
			}
			got, err := conv.Back(w, x, g, step)
			if err != api.OK || len(got.X.Cells) != len(x.Cells) {
				t.Fatalf("Back of W %v, x %v, step %d: error %d", c.w, c.x, step, err)
			}
			for place, cell := range got.X.Cells {
				if (cell != 0) != reached[place] {
					t.Errorf("Back of W %v, x %v, step %d: the gradient of the cell %d of x is %d", c.w, c.x, step, place, cell)
				}
			}
		}
	}
}

// One tensor is in several places of a call.
func TestOneTensor(t *testing.T) {
	// Only the kernel and the output gradient, or the input and the output gradient, can have one shape.
	w := of(dims{1, 2, 1}, one, 2*one)
	refuses(t, w, w, 1, w, api.ErrShape)
	x := of(dims{1, 3}, one, 2*one, 3*one)
	check(t, of(dims{1, 1, 1}, 3*one), x, 1, x, []fix.F{3 * one, 6 * one, 9 * one}, []fix.F{14 * one}, []fix.F{3 * one, 6 * one, 9 * one})
	y := of(dims{1, 1, 2}, one, 2*one)
	check(t, of(dims{1, 1, 1, 1}, 5), y, 1, y, []fix.F{5, 10}, []fix.F{5 * one}, []fix.F{5, 10})
	if !slices.Equal(w.Cells, []fix.F{one, 2 * one}) || !slices.Equal(x.Cells, []fix.F{one, 2 * one, 3 * one}) || !slices.Equal(y.Cells, []fix.F{one, 2 * one}) {
		t.Errorf("an argument was changed: %v, %v, %v", w, x, y)
	}
}

// A tensor that is not valid is refused in each place, also where its cells are as many as are needed, and before the error of the step. A wrong output gradient is refused after all others.
func TestTensorsThatAreNotValid(t *testing.T) {
	for _, c := range []struct{ w, x, out dims }{
		{dims{1, 1, 2}, dims{1, 3}, dims{1, 2}}, {dims{1, 1, 1}, dims{1, 1}, dims{1, 1}}, {dims{1, 1, 2, 2}, dims{1, 3, 3}, dims{1, 2, 2}}, {dims{2, 2, 1, 2}, dims{2, 2, 2}, dims{2, 2, 1}},
	} {
		w, x, g := mixed(1, c.w...), mixed(2, c.x...), mixed(3, c.out...)
		for _, bad := range wrong() {
			for _, step := range []int{-1, 0, 1, 1025} {
				refuses(t, bad, x, step, g, api.ErrShape)
				refuses(t, w, bad, step, g, api.ErrShape)
				refuses(t, bad, bad, step, bad, api.ErrShape)
			}
			refusesBack(t, w, x, 1, bad, api.ErrShape)
			refusesBack(t, w, x, 0, bad, api.ErrRange)
			refusesBack(t, w, x, -1, bad, api.ErrRange)
			refusesBack(t, w, x, 1025, bad, api.ErrRange)
		}
	}
	refusesBack(t, mixed(1, 1, 1, 4), mixed(2, 1, 3), 1, tensor.Tensor{}, api.ErrRange)
	refusesBack(t, mixed(1, 1, 1, 2, 4), mixed(2, 1, 3, 3), 1, mixed(3, 1, 2), api.ErrRange)
}

// A tensor whose number of cells is wrong by one is refused, also if the shapes are those of a convolution.
func TestNumbersOfCells(t *testing.T) {
	for _, c := range []struct{ w, x, out dims }{{dims{2, 1, 2}, dims{1, 3}, dims{2, 2}}, {dims{1, 2, 2, 2}, dims{2, 3, 4}, dims{1, 2, 3}}} {
		w, x, g := mixed(1, c.w...), mixed(2, c.x...), mixed(3, c.out...)
		for _, change := range []func(tensor.Tensor) tensor.Tensor{
			func(v tensor.Tensor) tensor.Tensor { return of(v.S, v.Cells[:len(v.Cells)-1]...) },
			func(v tensor.Tensor) tensor.Tensor { return of(v.S, append(slices.Clone(v.Cells), 1)...) },
			func(v tensor.Tensor) tensor.Tensor { return of(v.S) },
			func(v tensor.Tensor) tensor.Tensor { return of(nil, v.Cells...) },
		} {
			refuses(t, change(w), x, 1, g, api.ErrShape)
			refuses(t, w, change(x), 1, g, api.ErrShape)
			refusesBack(t, w, x, 1, change(g), api.ErrShape)
		}
	}
}

// An output gradient that is valid is refused with any other shape, also with as many cells.
func TestShapeOfTheGradient(t *testing.T) {
	w, x := mixed(1, 2, 1, 2), mixed(2, 1, 4)
	w2, x2 := mixed(1, 1, 1, 2, 2), mixed(2, 1, 3, 4)
	for _, s := range []dims{{6}, {3, 2}, {1, 6}, {6, 1}, {2, 3, 1}, {1, 2, 3}, {2, 1, 3}, {1, 3, 2}, {2, 3, 1, 1}, {1, 1, 2, 3}, {2, 2}, {2, 4}, {1, 3}, {3, 3}, {1, 4}, {2, 1, 2}, {1}, {1, 1}, {1, 2, 2}, {1, 2, 4}, {2, 2, 3}, {1, 3, 3}, {1, 3, 4}, {1, 1, 2, 2}, {2, 3}} {
		if !s.Equal(dims{2, 3}) {
			refusesBack(t, w, x, 1, mixed(3, s...), api.ErrShape)
		}
		if !s.Equal(dims{1, 2, 3}) {
			refusesBack(t, w2, x2, 1, mixed(3, s...), api.ErrShape)
		}
	}
	// Another step gives an output of another shape.
	refusesBack(t, w, x, 2, mixed(3, 2, 3), api.ErrShape)
	refusesBack(t, w2, x2, 2, mixed(3, 1, 2, 3), api.ErrShape)
}

// Memory

// spare returns a copy of a tensor that has spare capacity, filled with other values.
func spare(g tensor.Tensor) tensor.Tensor {
	s := append(g.S.Copy(), 98, 97)
	cells := append(slices.Clone(g.Cells), 95, 94, 93)
	return tensor.Tensor{S: s[:len(g.S)], Cells: cells[:len(g.Cells)]}
}

// whole reports whether what spare returned is as it was.
func whole(g, original tensor.Tensor) bool {
	return slices.Equal(g.S[:len(g.S)+2], append(original.S.Copy(), 98, 97)) && slices.Equal(g.Cells[:len(g.Cells)+3], append(slices.Clone(original.Cells), 95, 94, 93))
}

// results returns what all functions return; a shape is that of a tensor without cells.
func results(w, x, g tensor.Tensor, step int) []tensor.Tensor {
	s, _ := conv.Shape(w.S, x.S, step)
	out, _ := conv.Go(w, x, step)
	back, _ := conv.Back(w, x, g, step)
	touched(w.S, x.S, step)
	return []tensor.Tensor{{S: s}, out, back.W, back.X}
}

// Neither the arguments nor their spare memory are changed, and no result shares it, or that of another result.
func TestArgumentsStayAsTheyAre(t *testing.T) {
	for _, c := range []struct{ w, x, out dims }{{dims{2, 2, 2}, dims{2, 3}, dims{2, 2}}, {dims{1, 1, 1}, dims{1, 1}, dims{1, 1}}, {dims{2, 1, 2, 2}, dims{1, 3, 3}, dims{2, 2, 2}}} {
		originals := []tensor.Tensor{mixed(1, c.w...), mixed(2, c.x...), mixed(3, c.out...)}
		var args []tensor.Tensor
		for _, original := range originals {
			args = append(args, spare(original))
		}
		l := append(results(args[0], args[1], args[2], 1), results(args[0], args[1], args[2], 1)...)
		var kept []tensor.Tensor
		for i, r := range l {
			if len(r.S) == 0 || len(r.Cells) == 0 && i%4 != 0 {
				t.Fatalf("W %v: result %d is missing: %v", c.w, i, r)
			}
			kept = append(kept, r.Copy())
		}
		for i, r := range l {
			overwrite(r)
			for j := i + 1; j < len(l); j++ {
				if !is(l[j], kept[j].S, kept[j].Cells) {
					t.Fatalf("W %v: the results %d and %d share their memory", c.w, i, j)
				}
			}
		}
		for i := range args {
			if !whole(args[i], originals[i]) {
				t.Errorf("W %v: argument %d was changed, or shares its memory: %v", c.w, i, args[i])
			}
		}
	}
}

// A later call, or a change of the arguments, leaves earlier results as they are.
func TestArgumentsAreNotRetained(t *testing.T) {
	for _, c := range []struct{ w, x, out dims }{{dims{2, 2, 2}, dims{2, 3}, dims{2, 2}}, {dims{2, 1, 2, 2}, dims{1, 3, 3}, dims{2, 2, 2}}} {
		args := []tensor.Tensor{mixed(1, c.w...), mixed(2, c.x...), mixed(3, c.out...)}
		for i := range args {
			args[i] = args[i].Copy()
		}
		l := results(args[0], args[1], args[2], 1)
		var kept []tensor.Tensor
		for _, r := range l {
			kept = append(kept, r.Copy())
		}
		for _, argument := range args {
			overwrite(argument)
		}
		results(mixed(5, c.w...), mixed(6, c.x...), mixed(7, c.out...), 1)
		for i := range l {
			if !is(l[i], kept[i].S, kept[i].Cells) {
				t.Errorf("W %v: result %d retains an argument: %v", c.w, i, l[i])
			}
		}
	}
}

// A call that fails changes no argument.
func TestFailuresChangeNothing(t *testing.T) {
	originals := []tensor.Tensor{mixed(1, 1, 1, 2), mixed(2, 1, 3), mixed(3, 1, 3)}
	var args []tensor.Tensor
	for _, original := range originals {
		args = append(args, spare(original))
	}
	for _, step := range []int{0, 1, 1025} {
		conv.Back(args[0], args[1], args[2], step)
		conv.Go(args[1], args[0], step)
		conv.Shape(args[1].S, args[0].S, step)
	}
	for i := range args {
		if !whole(args[i], originals[i]) {
			t.Errorf("argument %d was changed: %v", i, args[i])
		}
	}
}

// P1 of DOC.md: no arguments make a function panic.
func TestAllArguments(t *testing.T) {
	list := wrong()
	for i, s := range []dims{{1}, {2}, {1024}, {1, 1}, {1, 2}, {1, 3}, {2, 3}, {64, 1024}, {1, 1, 1}, {1, 1, 2}, {2, 2, 3}, {1, 3, 3}, {1, 256, 256}, {1, 1, 1, 1}, {1, 1, 2, 2}, {1, 1, 3, 1}, {2, 2, 2, 2}, {16, 16, 16, 16}} {
		list = append(list, mixed(i, s...))
	}
	for _, w := range list {
		for _, x := range list {
			for _, step := range []int{math.MinInt, -1, 0, 1, 2, 1023, 1024, 1025, math.MaxInt} {
				conv.Shape(w.S, x.S, step)
				conv.Go(w, x, step)
				conv.Back(w, x, w, step)
				conv.Back(w, x, x, step)
				for range conv.Touch(w.S, x.S, step) {
					break
				}
			}
		}
	}
}
