package pool_test

import (
	"math"
	"slices"
	"testing"

	"athanor/api"
	"athanor/fix"
	"athanor/pool"
	"athanor/shape"
	"athanor/tensor"
)

const (
	one  = fix.One
	half = fix.One / 2
	most = fix.Max
	last = fix.Min
)

type dims = shape.Shape

// kinds are all kinds of pooling, by the numbers that the chapter gives to them.
func kinds() []int {
	return []int{1, 2}
}

// noKinds are numbers of no kinds.
func noKinds() []int {
	return []int{0, -1, -2, 3, 4, 257, 1<<32 + 1, 1<<32 + 2, math.MaxInt, math.MinInt}
}

// outOfRange are numbers that are neither a width nor a step in any side.
func outOfRange() []int {
	return []int{0, -1, -2, 1025, 1 << 32, 1<<32 + 1, math.MaxInt, math.MinInt, math.MinInt + 1}
}

// wantShape is what the chapter says of the shape of an output that there is.
func wantShape(x dims, width, step int) dims {
	out := slices.Clone(x)
	side := len(x) - 1
	out[side] = 0
	for first := 0; first+width <= x[side]; first += step {
		out[side]++
	}
	return out
}

// wantFirst is what the chapter says of the place of the first cell in the window of an output cell.
func wantFirst(x, out dims, place, step int) int {
	side := len(x) - 1
	before, i := place/out[side], place%out[side]
	return before*x[side] + i*step
}

// wantOut is what the chapter says of the cells of the output, one operation of layer 1 after another.
func wantOut(kind int, x tensor.Tensor, out dims, width, step int) []fix.F {
	cells := make([]fix.F, len(x.Cells)/x.S[len(x.S)-1]*out[len(out)-1])
	for place := range cells {
		var sum fix.F
		greatest := last
		first := wantFirst(x.S, out, place, step)
		for _, cell := range x.Cells[first : first+width] {
			sum = sum.Add(cell)
			greatest = max(greatest, cell)
		}
		cells[place] = greatest
		if kind == 2 {
			cells[place] = sum.Div(fix.Int(width))
		}
	}
	return cells
}

// wantBack is what the chapter says of the cells of the gradient.
func wantBack(kind int, x, g tensor.Tensor, width, step int) []fix.F {
	cells := make([]fix.F, len(x.Cells))
	for place, slope := range g.Cells {
		first := wantFirst(x.S, g.S, place, step)
		if kind == 2 {
			for at := first; at < first+width; at++ {
				cells[at] = cells[at].Add(slope.Div(fix.Int(width)))
			}
			continue
		}
		best := first + width - 1
		for at := best; at >= first; at-- {
			if x.Cells[at] >= x.Cells[best] {
				best = at
			}
		}
		cells[best] = cells[best].Add(slope)
	}
	return cells
}

// edges are numbers whose quotients are rounded or tie, and whose sums saturate at both ends.
func edges() []fix.F {
	return []fix.F{
		one, most, -3, half, 0, last, 7*one/3 + 1, -one, 1 << 47, -5 * one / 7, most / 2, 1, -1 << 47, half + 1, last / 2, -half, 6, -2 * one, most - 1, 3, last + 1, -1, 1 << 62, 0, -1 << 62, 2*one - 1, 1 << 31,
	}
}

// of is a tensor with this shape and these cells.
func of(s dims, cells ...fix.F) tensor.Tensor {
	return tensor.Tensor{S: s, Cells: cells}
}

// chosen is a tensor whose cells are some of l; another seed gives other cells.
func chosen(l []fix.F, seed int, sides ...int) tensor.Tensor {
	n := 1
	for _, length := range sides {
		n *= length
	}
	cells := make([]fix.F, n)
	state := uint32(seed)*2654435761 + 12345
	for i := range cells {
		state = state*1664525 + 1013904223
		cells[i] = l[int(state>>8)%len(l)]
	}
	return of(sides, cells...)
}

// mixed is a tensor whose cells are edges.
func mixed(seed int, sides ...int) tensor.Tensor {
	return chosen(edges(), seed, sides...)
}

// alike is a tensor in which many cells are equal.
func alike(seed int, sides ...int) tensor.Tensor {
	return chosen([]fix.F{-one, 0, one}, seed, sides...)
}

// wrongShapes are shapes that are not valid.
func wrongShapes() []dims {
	return []dims{
		nil, {}, {0}, {-1}, {-2}, {1025}, {65536}, {1 << 62}, {math.MaxInt}, {math.MinInt},
		{0, 2}, {2, 0}, {0, 0}, {-1, 3}, {1, -3}, {-1, -3}, {1, 1025}, {1025, 1}, {65, 1024}, {257, 256}, {2, 1 << 62}, {1 << 32, 1 << 32}, {math.MinInt, math.MinInt}, {math.MinInt, 2},
		{0, 1, 2}, {1, 0, 2}, {1, 1, 0}, {-1, -1, 2}, {1, -1, -2}, {1, 1025, 1}, {64, 2, 513}, {1024, 1024, 1024}, {math.MaxInt, math.MaxInt, math.MaxInt},
		{0, 1, 1, 2}, {1, 1, 1, 0}, {1, 1, -1, -2}, {1, 1, 1, 1025}, {1025, 1, 1, 1}, {16, 16, 16, 17}, {1024, 1024, 1024, 1024},
		{1, 1, 1, 1, 1}, {1, 1, 1, 1, 2}, {2, 1, 1, 1, 1}, {1, 1, 1, 1, 1, 1},
	}
}

// wrong are tensors that are not valid, some with the number of cells that is needed.
func wrong() []tensor.Tensor {
	l := []tensor.Tensor{{}, {S: dims{}, Cells: []fix.F{1}}}
	for _, s := range wrongShapes() {
		for _, n := range []int{0, 1, 2, 3, 4, 6} {
			l = append(l, tensor.Tensor{S: s, Cells: make([]fix.F, n)})
		}
	}
	for _, s := range []dims{{1}, {2}, {3}, {1, 2}, {2, 3}, {3, 2}, {1, 2, 3}, {2, 2, 2}, {1, 1, 1, 1}, {2, 1, 2, 3}} {
		n := len(mixed(0, s...).Cells)
		for _, m := range []int{0, 1, n - 1, n + 1, 2 * n} {
			if m != n {
				l = append(l, tensor.Tensor{S: s, Cells: make([]fix.F, m)}, tensor.Tensor{S: s, Cells: make([]fix.F, m, m+n)})
			}
		}
	}
	return l
}

// is reports whether a tensor has this shape and these cells.
func is(g tensor.Tensor, s dims, cells []fix.F) bool {
	return slices.Equal(g.S, s) && slices.Equal(g.Cells, cells)
}

// none reports whether a tensor is its zero value.
func none(g tensor.Tensor) bool {
	return len(g.S) == 0 && len(g.Cells) == 0
}

// overwrite changes all the memory of a tensor, to the capacities.
func overwrite(g tensor.Tensor) {
	s, cells := g.S[:cap(g.S)], g.Cells[:cap(g.Cells)]
	for i := range s {
		s[i] = -77
	}
	for i := range cells {
		cells[i] = -99
	}
}

// check compares Shape, Go and Back with a literal shape, which is that of g, and literal cells.
func check(t *testing.T, kind int, x tensor.Tensor, width, step int, g tensor.Tensor, out, back []fix.F) {
	t.Helper()
	if got, err := pool.Shape(x.S, width, step); err != api.OK || !slices.Equal(got, g.S) {
		t.Errorf("Shape of %v, width %d, step %d: %v, error %d, not %v", x.S, width, step, got, err, g.S)
	}
	if got, err := pool.Go(kind, x, width, step); err != api.OK || !is(got, g.S, out) {
		t.Errorf("Go of kind %d, x %v, width %d, step %d: %v, error %d, not %d", kind, x, width, step, got, err, out)
	}
	if got, err := pool.Back(kind, x, g, width, step); err != api.OK || !is(got, x.S, back) {
		t.Errorf("Back of kind %d, x %v, g %v, width %d, step %d: %v, error %d, not %d", kind, x, g, width, step, got, err, back)
	}
}

// refusesShape checks that Shape returns this error and nothing else.
func refusesShape(t *testing.T, x dims, width, step int, want api.Errno) {
	t.Helper()
	if got, err := pool.Shape(x, width, step); err != want || len(got) != 0 {
		t.Errorf("Shape of %v, width %d, step %d: %v, error %d, not %d", x, width, step, got, err, want)
	}
}

// refuses checks that Go and Back return this error and nothing else.
func refuses(t *testing.T, kind int, x, g tensor.Tensor, width, step int, want api.Errno) {
	t.Helper()
	if got, err := pool.Go(kind, x, width, step); err != want || !none(got) {
		t.Errorf("Go of kind %d, shape %v with %d cells, width %d, step %d: shape %v, error %d, not %d", kind, x.S, len(x.Cells), width, step, got.S, err, want)
	}
	refusesBack(t, kind, x, g, width, step, want)
}

func refusesBack(t *testing.T, kind int, x, g tensor.Tensor, width, step int, want api.Errno) {
	t.Helper()
	if got, err := pool.Back(kind, x, g, width, step); err != want || !none(got) {
		t.Errorf("Back of kind %d, shapes %v, %v with %d, %d cells, width %d, step %d: shape %v, error %d, not %d", kind, x.S, g.S, len(x.Cells), len(g.Cells), width, step, got.S, err, want)
	}
}

// The example of the chapter, and the numbers of the kinds.
func TestExample(t *testing.T) {
	if pool.Top != 1 || pool.Mean != 2 {
		t.Errorf("the kinds are %d and %d", pool.Top, pool.Mean)
	}
	check(t, pool.Top, of(dims{3}, one, 3*one, 2*one), 2, 1, of(dims{2}, 5*one, 7*one), []fix.F{3 * one, 3 * one}, []fix.F{0, 12 * one, 0})
}

// P8.1

func TestShape(t *testing.T) {
	for _, c := range []struct {
		x           dims
		width, step int
		out         dims
	}{
		{dims{1}, 1, 1, dims{1}}, {dims{3}, 2, 1, dims{2}}, {dims{5}, 3, 1, dims{3}}, {dims{7}, 1, 1, dims{7}}, {dims{7}, 7, 1, dims{1}}, {dims{7}, 7, 3, dims{1}}, {dims{7}, 6, 1, dims{2}}, {dims{7}, 6, 2, dims{1}},
		// What remains of the side is less than a step.
		{dims{7}, 3, 2, dims{3}}, {dims{8}, 3, 2, dims{3}}, {dims{9}, 3, 2, dims{4}}, {dims{7}, 2, 4, dims{2}}, {dims{7}, 2, 5, dims{2}}, {dims{7}, 2, 6, dims{1}}, {dims{7}, 2, 7, dims{1}}, {dims{7}, 2, 1024, dims{1}}, {dims{7}, 1, 6, dims{2}}, {dims{7}, 1, 7, dims{1}},
		// Only the last side is pooled.
		{dims{3, 7}, 3, 2, dims{3, 3}}, {dims{7, 3}, 3, 2, dims{7, 1}}, {dims{4, 1}, 1, 1, dims{4, 1}}, {dims{1, 4}, 1, 3, dims{1, 2}}, {dims{2, 4}, 2, 2, dims{2, 2}}, {dims{2, 3, 5}, 2, 1, dims{2, 3, 4}}, {dims{5, 3, 2}, 2, 1, dims{5, 3, 1}}, {dims{9, 9, 9}, 3, 3, dims{9, 9, 3}},
		{dims{2, 3, 4, 5}, 4, 1, dims{2, 3, 4, 2}}, {dims{5, 4, 3, 2}, 1, 1, dims{5, 4, 3, 2}}, {dims{5, 4, 3, 2}, 2, 2, dims{5, 4, 3, 1}}, {dims{1, 1, 1, 1}, 1, 1024, dims{1, 1, 1, 1}},
		// At the limits.
		{dims{1024}, 1, 1, dims{1024}}, {dims{1024}, 1024, 1, dims{1}}, {dims{1024}, 1024, 1024, dims{1}}, {dims{1024}, 1, 1023, dims{2}}, {dims{1024}, 1, 1024, dims{1}}, {dims{1024}, 1023, 1, dims{2}}, {dims{64, 1024}, 513, 1, dims{64, 512}}, {dims{1024, 64}, 2, 2, dims{1024, 32}}, {dims{64, 1, 1024}, 3, 3, dims{64, 1, 341}}, {dims{16, 16, 16, 16}, 4, 4, dims{16, 16, 16, 4}},
	} {
		got, err := pool.Shape(c.x, c.width, c.step)
		if err != api.OK || !slices.Equal(got, c.out) {
			t.Errorf("Shape of %v, width %d, step %d: %v, error %d, not %v", c.x, c.width, c.step, got, err, c.out)
		}
	}
}

// A width or a step that layer 3's Window refuses.
func TestWindowsThatAreRefused(t *testing.T) {
	for i, s := range []dims{{1}, {3}, {1023}, {1024}, {5, 3}, {3, 5}, {1024, 2}, {64, 1024}, {9, 9, 2}, {2, 3, 4}, {9, 9, 9, 1}, {1, 2, 3, 4}} {
		side := s[len(s)-1]
		x, g := mixed(i, s...), mixed(i+1, s...)
		for _, kind := range kinds() {
			for _, bad := range append(outOfRange(), side+1, side+2, max(side+1, 1024)) {
				for _, step := range []int{1, 2, side, 1024, 0, -1, 1025} {
					refusesShape(t, s, bad, step, api.ErrRange)
					refuses(t, kind, x, g, bad, step, api.ErrRange)
				}
			}
			for _, bad := range outOfRange() {
				for _, width := range []int{1, side, side + 1, 0, -1} {
					refusesShape(t, s, width, bad, api.ErrRange)
					refuses(t, kind, x, g, width, bad, api.ErrRange)
				}
			}
		}
	}
}

// A shape that is not valid is refused with any width and step.
func TestShapesThatAreNotValid(t *testing.T) {
	for _, bad := range wrongShapes() {
		for _, width := range []int{math.MinInt, -1, 0, 1, 2, 1024, 1025, math.MaxInt} {
			for _, step := range []int{math.MinInt, -1, 0, 1, 2, 1024, 1025, math.MaxInt} {
				refusesShape(t, bad, width, step, api.ErrShape)
			}
		}
	}
}

func TestBest(t *testing.T) {
	for _, c := range []struct {
		l    []fix.F
		want int
	}{
		{nil, -1}, {[]fix.F{}, -1}, {make([]fix.F, 0, 3), -1},
		{[]fix.F{0}, 0}, {[]fix.F{-5}, 0}, {[]fix.F{one}, 0}, {[]fix.F{last}, 0}, {[]fix.F{most}, 0},
		{[]fix.F{1, 2}, 1}, {[]fix.F{2, 1}, 0}, {[]fix.F{-1, -2}, 0}, {[]fix.F{-2, -1}, 1}, {[]fix.F{1, 3, 2}, 1}, {[]fix.F{1, 2, 3}, 2}, {[]fix.F{3, 2, 1}, 0}, {[]fix.F{-3, -1, -2}, 1}, {[]fix.F{0, -1, 0}, 0}, {[]fix.F{-1, 0, -1}, 1},
		// Equal elements.
		{[]fix.F{7, 7}, 0}, {[]fix.F{0, 0, 0}, 0}, {[]fix.F{-3, -1, -1}, 1}, {[]fix.F{1, 9, 2, 9, 9}, 1}, {[]fix.F{9, 1, 9}, 0}, {[]fix.F{1, 1, 2, 2}, 2}, {[]fix.F{-1, -1, -1, -1}, 0}, {[]fix.F{one, 2 * one, 2*one - 1, 2 * one}, 1},
		// Elements at the bounds.
		{[]fix.F{last, last}, 0}, {[]fix.F{most, most}, 0}, {[]fix.F{last, most}, 1}, {[]fix.F{most, last}, 0}, {[]fix.F{last, last + 1, last}, 1}, {[]fix.F{most - 1, most, most}, 1}, {[]fix.F{last, 0, last}, 1}, {[]fix.F{last, -1, most, 1, most}, 2},
	} {
		before := slices.Clone(c.l)
		if got := pool.Best(c.l); got != c.want {
			t.Errorf("Best of %d: %d, not %d", c.l, got, c.want)
		}
		if !slices.Equal(c.l, before) {
			t.Errorf("Best of %d changed its argument: %d", before, c.l)
		}
	}
	long := make([]fix.F, 5000)
	for i := range long {
		long[i] = 5
	}
	if got := pool.Best(long); got != 0 {
		t.Errorf("Best of equal elements: %d", got)
	}
	long[4998], long[4999] = 6, 6
	if got := pool.Best(long); got != 4998 {
		t.Errorf("Best of a long list: %d", got)
	}
}

// P8.2

func TestPooling(t *testing.T) {
	for _, c := range []struct {
		kind        int
		x           tensor.Tensor
		width, step int
		g           tensor.Tensor
		out, back   []fix.F
	}{
		// One side.
		{pool.Top, of(dims{3}, 1, 3, 2), 2, 1, of(dims{2}, 5, 7), []fix.F{3, 3}, []fix.F{0, 12, 0}},
		{pool.Mean, of(dims{3}, 1, 3, 2), 2, 1, of(dims{2}, 5, 7), []fix.F{2, 2}, []fix.F{2, 6, 4}},
		{pool.Top, of(dims{4}, 4, 9, 9, 2), 2, 2, of(dims{2}, 10, 20), []fix.F{9, 9}, []fix.F{0, 10, 20, 0}},
		{pool.Mean, of(dims{4}, 4, 9, 9, 2), 2, 2, of(dims{2}, 10, 20), []fix.F{6, 6}, []fix.F{5, 5, 10, 10}},
		{pool.Top, of(dims{5}, 6, 2, 8, 4, 10), 2, 1, of(dims{4}, 10, 20, 30, 40), []fix.F{6, 8, 8, 10}, []fix.F{10, 0, 50, 0, 40}},
		{pool.Mean, of(dims{5}, 6, 2, 8, 4, 10), 2, 1, of(dims{4}, 10, 20, 30, 40), []fix.F{4, 5, 6, 7}, []fix.F{5, 15, 25, 35, 20}},
		{pool.Top, of(dims{6}, one, 3*one, 2*one, 5*one, 4*one, 6*one), 3, 1, of(dims{4}, 3*one, 6*one, 9*one, 12*one), []fix.F{3 * one, 5 * one, 5 * one, 6 * one}, []fix.F{0, 3 * one, 0, 15 * one, 0, 12 * one}},
		{pool.Mean, of(dims{6}, one, 3*one, 2*one, 5*one, 4*one, 6*one), 3, 1, of(dims{4}, 3*one, 6*one, 9*one, 12*one), []fix.F{2 * one, 14316557653, 15748213419, 5 * one}, []fix.F{one, 3 * one, 6 * one, 9 * one, 7 * one, 4 * one}},
		{pool.Top, of(dims{1}, 7), 1, 1, of(dims{1}, -2*one), []fix.F{7}, []fix.F{-2 * one}},
		{pool.Mean, of(dims{1}, 7), 1, 1, of(dims{1}, -2*one), []fix.F{7}, []fix.F{-2 * one}},
		// Two, three and four sides, of which only the last is pooled.
		{pool.Top, of(dims{2, 4}, 4, 9, 9, 2, 1, 1, 1, 6), 2, 2, of(dims{2, 2}, 10, 20, 30, 40), []fix.F{9, 9, 1, 6}, []fix.F{0, 10, 20, 0, 30, 0, 0, 40}},
		{pool.Mean, of(dims{2, 4}, 4, 9, 9, 2, 1, 1, 1, 6), 2, 2, of(dims{2, 2}, 10, 20, 30, 40), []fix.F{6, 6, 1, 4}, []fix.F{5, 5, 10, 10, 15, 15, 20, 20}},
		{pool.Top, of(dims{2, 4}, 4, 9, 9, 2, 1, 1, 1, 6), 3, 1, of(dims{2, 2}, 3, 6, 9, 12), []fix.F{9, 9, 1, 6}, []fix.F{0, 9, 0, 0, 9, 0, 0, 12}},
		{pool.Mean, of(dims{2, 4}, 4, 9, 9, 2, 1, 1, 1, 6), 3, 1, of(dims{2, 2}, 3, 6, 9, 12), []fix.F{7, 7, 1, 3}, []fix.F{1, 3, 3, 2, 3, 7, 7, 4}},
		{pool.Top, of(dims{3, 2}, 1, 2, 4, 3, 5, 9), 2, 1, of(dims{3, 1}, 2, 4, 6), []fix.F{2, 4, 9}, []fix.F{0, 2, 4, 0, 0, 6}},
		{pool.Mean, of(dims{3, 2}, 1, 2, 4, 3, 5, 9), 2, 1, of(dims{3, 1}, 2, 4, 6), []fix.F{2, 4, 7}, []fix.F{1, 1, 2, 2, 3, 3}},
		{pool.Top, of(dims{4, 1}, 1, -2, 3, -4), 1, 1, of(dims{4, 1}, 5, 6, 7, 8), []fix.F{1, -2, 3, -4}, []fix.F{5, 6, 7, 8}},
		{pool.Mean, of(dims{4, 1}, 1, -2, 3, -4), 1, 1, of(dims{4, 1}, 5, 6, 7, 8), []fix.F{1, -2, 3, -4}, []fix.F{5, 6, 7, 8}},
		{pool.Top, of(dims{2, 1, 3}, 1, 3, 2, 9, 7, 8), 2, 1, of(dims{2, 1, 2}, 2, 4, 6, 8), []fix.F{3, 3, 9, 8}, []fix.F{0, 6, 0, 6, 0, 8}},
		{pool.Mean, of(dims{2, 1, 3}, 1, 3, 2, 9, 7, 8), 2, 1, of(dims{2, 1, 2}, 2, 4, 6, 8), []fix.F{2, 2, 8, 8}, []fix.F{1, 3, 2, 3, 7, 4}},
		{pool.Top, of(dims{2, 2, 3}, 1, 3, 2, 9, 7, 8, 6, 6, 4, 0, -2, -4), 2, 1, of(dims{2, 2, 2}, 2, 4, 6, 8, 10, 12, 14, 16), []fix.F{3, 3, 9, 8, 6, 6, 0, -2}, []fix.F{0, 6, 0, 6, 0, 8, 10, 12, 0, 14, 16, 0}},
		{pool.Mean, of(dims{2, 2, 3}, 1, 3, 2, 9, 7, 8, 6, 6, 4, 0, -2, -4), 2, 1, of(dims{2, 2, 2}, 2, 4, 6, 8, 10, 12, 14, 16), []fix.F{2, 2, 8, 8, 6, 5, -1, -3}, []fix.F{1, 3, 2, 3, 7, 4, 5, 11, 6, 7, 15, 8}},
		{pool.Top, of(dims{1, 3, 2}, 5, 1, 1, 5, -3, -5), 2, 1, of(dims{1, 3, 1}, 2, 4, 6), []fix.F{5, 5, -3}, []fix.F{2, 0, 0, 4, 6, 0}},
		{pool.Mean, of(dims{1, 3, 2}, 5, 1, 1, 5, -3, -5), 2, 1, of(dims{1, 3, 1}, 2, 4, 6), []fix.F{3, 3, -4}, []fix.F{1, 1, 2, 2, 3, 3}},
		{pool.Top, of(dims{2, 1, 2, 2}, 1, 2, 4, 3, -1, -2, 0, 8), 2, 1, of(dims{2, 1, 2, 1}, 2, 4, 6, 8), []fix.F{2, 4, -1, 8}, []fix.F{0, 2, 4, 0, 6, 0, 0, 8}},
		{pool.Mean, of(dims{2, 1, 2, 2}, 1, 2, 4, 3, -1, -2, 0, 8), 2, 1, of(dims{2, 1, 2, 1}, 2, 4, 6, 8), []fix.F{2, 4, -2, 4}, []fix.F{1, 1, 2, 2, 3, 3, 4, 4}},
		{pool.Top, of(dims{1, 2, 2, 3}, 1, 3, 2, 9, 7, 8, 6, 6, 4, 0, -2, -4), 2, 1, of(dims{1, 2, 2, 2}, 2, 4, 6, 8, 10, 12, 14, 16), []fix.F{3, 3, 9, 8, 6, 6, 0, -2}, []fix.F{0, 6, 0, 6, 0, 8, 10, 12, 0, 14, 16, 0}},
		{pool.Mean, of(dims{1, 2, 2, 3}, 1, 3, 2, 9, 7, 8, 6, 6, 4, 0, -2, -4), 2, 1, of(dims{1, 2, 2, 2}, 2, 4, 6, 8, 10, 12, 14, 16), []fix.F{2, 2, 8, 8, 6, 5, -1, -3}, []fix.F{1, 3, 2, 3, 7, 4, 5, 11, 6, 7, 15, 8}},
		// Windows of one cell, and as wide as the side.
		{pool.Top, of(dims{2, 3}, 1, -2, 3, -4, 5, -6), 1, 1, of(dims{2, 3}, 10, 20, 30, 40, 50, 60), []fix.F{1, -2, 3, -4, 5, -6}, []fix.F{10, 20, 30, 40, 50, 60}},
		{pool.Mean, of(dims{2, 3}, 1, -2, 3, -4, 5, -6), 1, 1, of(dims{2, 3}, 10, 20, 30, 40, 50, 60), []fix.F{1, -2, 3, -4, 5, -6}, []fix.F{10, 20, 30, 40, 50, 60}},
		{pool.Top, of(dims{2, 3}, 3, -2, 8, -4, 5, 5), 3, 1, of(dims{2, 1}, 30, 60), []fix.F{8, 5}, []fix.F{0, 0, 30, 0, 60, 0}},
		{pool.Mean, of(dims{2, 3}, 3, -2, 8, -4, 5, 5), 3, 1, of(dims{2, 1}, 30, 60), []fix.F{3, 2}, []fix.F{10, 10, 10, 20, 20, 20}},
		{pool.Top, of(dims{2, 3}, 3, -2, 8, -4, 5, 5), 3, 1024, of(dims{2, 1}, 30, 60), []fix.F{8, 5}, []fix.F{0, 0, 30, 0, 60, 0}},
		{pool.Mean, of(dims{2, 3}, 3, -2, 8, -4, 5, 5), 3, 1024, of(dims{2, 1}, 30, 60), []fix.F{3, 2}, []fix.F{10, 10, 10, 20, 20, 20}},
		// Steps up to the width and beyond it, and parts of the side that no window reaches.
		{pool.Top, of(dims{5}, 6, 2, 8, 4, 10), 2, 2, of(dims{2}, 10, 20), []fix.F{6, 8}, []fix.F{10, 0, 20, 0, 0}},
		{pool.Mean, of(dims{5}, 6, 2, 8, 4, 10), 2, 2, of(dims{2}, 10, 20), []fix.F{4, 6}, []fix.F{5, 5, 10, 10, 0}},
		{pool.Top, of(dims{7}, 1, 5, 3, 2, 8, 4, 9), 3, 2, of(dims{3}, 3, 6, 9), []fix.F{5, 8, 9}, []fix.F{0, 3, 0, 0, 6, 0, 9}},
		{pool.Mean, of(dims{7}, 1, 5, 3, 2, 8, 4, 9), 3, 2, of(dims{3}, 3, 6, 9), []fix.F{3, 4, 7}, []fix.F{1, 1, 3, 2, 5, 3, 3}},
		{pool.Top, of(dims{2, 5}, 2, 4, 6, 8, 99, 8, 6, 4, 2, 99), 2, 3, of(dims{2, 2}, 10, 20, 30, 40), []fix.F{4, 99, 8, 99}, []fix.F{0, 10, 0, 0, 20, 30, 0, 0, 0, 40}},
		{pool.Mean, of(dims{2, 5}, 2, 4, 6, 8, 99, 8, 6, 4, 2, 99), 2, 3, of(dims{2, 2}, 10, 20, 30, 40), []fix.F{3, 54, 7, 50}, []fix.F{5, 5, 0, 10, 10, 15, 15, 0, 20, 20}},
		{pool.Top, of(dims{2, 5}, 2, 4, 99, 99, 99, 8, 6, 99, 99, 99), 2, 4, of(dims{2, 1}, 10, 20), []fix.F{4, 8}, []fix.F{0, 10, 0, 0, 0, 20, 0, 0, 0, 0}},
		{pool.Mean, of(dims{2, 5}, 2, 4, 99, 99, 99, 8, 6, 99, 99, 99), 2, 4, of(dims{2, 1}, 10, 20), []fix.F{3, 7}, []fix.F{5, 5, 0, 0, 0, 10, 10, 0, 0, 0}},
		{pool.Top, of(dims{7}, 1, 4, 99, 99, 2, 8, 99), 2, 4, of(dims{2}, 10, 20), []fix.F{4, 8}, []fix.F{0, 10, 0, 0, 0, 20, 0}},
		{pool.Mean, of(dims{7}, 1, 4, 99, 99, 2, 8, 99), 2, 4, of(dims{2}, 10, 20), []fix.F{2, 5}, []fix.F{5, 5, 0, 0, 10, 10, 0}},
		{pool.Top, of(dims{6}, 1, 99, 99, 2, 99, 99), 1, 3, of(dims{2}, 10, 20), []fix.F{1, 2}, []fix.F{10, 0, 0, 20, 0, 0}},
		{pool.Mean, of(dims{6}, 1, 99, 99, 2, 99, 99), 1, 3, of(dims{2}, 10, 20), []fix.F{1, 2}, []fix.F{10, 0, 0, 20, 0, 0}},
		{pool.Top, of(dims{2, 4}, 2, 4, 99, 99, 6, 4, 99, 99), 2, 1024, of(dims{2, 1}, 10, 20), []fix.F{4, 6}, []fix.F{0, 10, 0, 0, 20, 0, 0, 0}},
		{pool.Mean, of(dims{2, 4}, 2, 4, 99, 99, 6, 4, 99, 99), 2, 1024, of(dims{2, 1}, 10, 20), []fix.F{3, 5}, []fix.F{5, 5, 0, 0, 10, 10, 0, 0}},
		// Several equal maxima in a window, and one cell as the maximum of several windows.
		{pool.Top, of(dims{4}, 5, 5, 5, 5), 4, 1, of(dims{1}, 7), []fix.F{5}, []fix.F{7, 0, 0, 0}},
		{pool.Top, of(dims{4}, 5, 5, 5, 5), 2, 1, of(dims{3}, 1, 20, 300), []fix.F{5, 5, 5}, []fix.F{1, 20, 300, 0}},
		{pool.Top, of(dims{4}, 0, 0, 0, 0), 3, 1, of(dims{2}, 1, 20), []fix.F{0, 0}, []fix.F{1, 20, 0, 0}},
		{pool.Top, of(dims{5}, 1, 9, 9, 1, 9), 3, 1, of(dims{3}, 1, 20, 300), []fix.F{9, 9, 9}, []fix.F{0, 21, 300, 0, 0}},
		{pool.Top, of(dims{5}, 1, 2, 9, 2, 1), 3, 1, of(dims{3}, 1, 20, 300), []fix.F{9, 9, 9}, []fix.F{0, 0, 321, 0, 0}},
		{pool.Top, of(dims{5}, 9, 2, 9, 2, 9), 3, 1, of(dims{3}, 1, 20, 300), []fix.F{9, 9, 9}, []fix.F{1, 0, 320, 0, 0}},
		{pool.Top, of(dims{2, 3}, -1, -1, -2, -2, -1, -1), 2, 1, of(dims{2, 2}, 1, 20, 300, 4000), []fix.F{-1, -1, -1, -1}, []fix.F{1, 20, 0, 0, 4300, 0}},
		{pool.Top, of(dims{6}, 3, 1, 3, 3, 1, 3), 4, 1, of(dims{3}, 1, 20, 300), []fix.F{3, 3, 3}, []fix.F{1, 0, 320, 0, 0, 0}},
		{pool.Top, of(dims{3}, -5, -7, -6), 2, 1, of(dims{2}, 1, 20), []fix.F{-5, -6}, []fix.F{1, 0, 20}},
		// Cells at the bounds.
		{pool.Top, of(dims{4}, most, most-1, last, last), 2, 1, of(dims{3}, 1, 20, 300), []fix.F{most, most - 1, last}, []fix.F{1, 20, 300, 0}},
		{pool.Top, of(dims{4}, last, last, last+1, last), 2, 1, of(dims{3}, 1, 20, 300), []fix.F{last, last + 1, last + 1}, []fix.F{1, 0, 320, 0}},
		{pool.Top, of(dims{4}, last, most, most, last), 3, 1, of(dims{2}, 1, 20), []fix.F{most, most}, []fix.F{0, 21, 0, 0}},
		{pool.Top, of(dims{3}, last, last, last), 3, 1, of(dims{1}, last), []fix.F{last}, []fix.F{last, 0, 0}},
		{pool.Mean, of(dims{4}, most, most, last, last), 1, 1, of(dims{4}, most, last, most-1, last+1), []fix.F{most, most, last, last}, []fix.F{most, last, most - 1, last + 1}},
		{pool.Mean, of(dims{4}, most, last, last, most), 2, 2, of(dims{2}, most, last), []fix.F{0, 0}, []fix.F{4611686018427387904, 4611686018427387904, -4611686018427387904, -4611686018427387904}},
		// Sums of a window saturate before they are divided, in the order of its cells.
		{pool.Mean, of(dims{2}, most, most), 2, 1, of(dims{1}, 0), []fix.F{4611686018427387904}, []fix.F{0, 0}},
		{pool.Mean, of(dims{3}, most, 7, -9), 3, 1, of(dims{1}, 0), []fix.F{3074457345618258599}, []fix.F{0, 0, 0}},
		{pool.Mean, of(dims{3}, -9, 7, most), 3, 1, of(dims{1}, 0), []fix.F{3074457345618258602}, []fix.F{0, 0, 0}},
		{pool.Mean, of(dims{3}, last, -7, 9), 3, 1, of(dims{1}, 0), []fix.F{-3074457345618258600}, []fix.F{0, 0, 0}},
		{pool.Mean, of(dims{3}, 9, -7, last), 3, 1, of(dims{1}, 0), []fix.F{-3074457345618258602}, []fix.F{0, 0, 0}},
		{pool.Mean, of(dims{4}, most, most, last, last), 4, 1, of(dims{1}, 0), []fix.F{-2305843009213693952}, []fix.F{0, 0, 0, 0}},
		{pool.Mean, of(dims{4}, most, last, most, last), 4, 1, of(dims{1}, 0), []fix.F{0}, []fix.F{0, 0, 0, 0}},
		{pool.Mean, of(dims{2, 3}, last, last, last, most, most, last), 3, 1, of(dims{2, 1}, 0, 0), []fix.F{-3074457345618258603, 0}, []fix.F{0, 0, 0, 0, 0, 0}},
		// Quotients are rounded, to the even one in case of a tie, after the sum and not before.
		{pool.Mean, of(dims{4}, 1, 0, 3, 0), 2, 2, of(dims{2}, 1, 3), []fix.F{0, 2}, []fix.F{0, 0, 2, 2}},
		{pool.Mean, of(dims{4}, -1, 0, -3, 0), 2, 2, of(dims{2}, -1, -3), []fix.F{0, -2}, []fix.F{0, 0, -2, -2}},
		{pool.Mean, of(dims{2}, 1, 1), 2, 1, of(dims{1}, 5), []fix.F{1}, []fix.F{2, 2}},
		{pool.Mean, of(dims{3}, 1, 1, 3), 2, 1, of(dims{2}, 1, 1), []fix.F{1, 2}, []fix.F{0, 0, 0}},
		{pool.Mean, of(dims{3}, 1, 1, 3), 2, 1, of(dims{2}, 3, 3), []fix.F{1, 2}, []fix.F{2, 4, 2}},
		{pool.Mean, of(dims{6}, 1, 0, 0, 1, 1, 0), 3, 3, of(dims{2}, 1, 2), []fix.F{0, 1}, []fix.F{0, 0, 0, 1, 1, 1}},
		{pool.Mean, of(dims{6}, -1, 0, 0, -1, -1, 0), 3, 3, of(dims{2}, -1, -2), []fix.F{0, -1}, []fix.F{0, 0, 0, -1, -1, -1}},
		{pool.Mean, of(dims{3}, one, one, 0), 3, 1, of(dims{1}, one), []fix.F{2863311531}, []fix.F{1431655765, 1431655765, 1431655765}},
		{pool.Mean, of(dims{4}, 1, 2, 3, 4), 4, 1, of(dims{1}, 2), []fix.F{2}, []fix.F{0, 0, 0, 0}},
		{pool.Mean, of(dims{4}, 1, 2, 3, 0), 4, 1, of(dims{1}, 6), []fix.F{2}, []fix.F{2, 2, 2, 2}},
		{pool.Mean, of(dims{5}, 0, 1, 0, 1, 0), 5, 1, of(dims{1}, 2), []fix.F{0}, []fix.F{0, 0, 0, 0, 0}},
		{pool.Mean, of(dims{5}, 1, 1, 0, 1, 0), 5, 1, of(dims{1}, 3), []fix.F{1}, []fix.F{1, 1, 1, 1, 1}},
		// What a cell gets is added in the order of the cells of g, where it saturates.
		{pool.Top, of(dims{5}, 1, 2, 9, 2, 1), 3, 1, of(dims{3}, most, 7, -9), []fix.F{9, 9, 9}, []fix.F{0, 0, most - 9, 0, 0}},
		{pool.Top, of(dims{5}, 1, 2, 9, 2, 1), 3, 1, of(dims{3}, -9, 7, most), []fix.F{9, 9, 9}, []fix.F{0, 0, most - 2, 0, 0}},
		{pool.Top, of(dims{5}, 1, 2, 9, 2, 1), 3, 1, of(dims{3}, last, -7, 9), []fix.F{9, 9, 9}, []fix.F{0, 0, last + 9, 0, 0}},
		{pool.Top, of(dims{5}, 1, 2, 9, 2, 1), 3, 1, of(dims{3}, 9, -7, last), []fix.F{9, 9, 9}, []fix.F{0, 0, last + 2, 0, 0}},
		{pool.Top, of(dims{3}, 1, 9, 1), 2, 1, of(dims{2}, most, most), []fix.F{9, 9}, []fix.F{0, most, 0}},
		{pool.Top, of(dims{3}, 1, 9, 1), 2, 1, of(dims{2}, last, last), []fix.F{9, 9}, []fix.F{0, last, 0}},
		{pool.Top, of(dims{2, 5}, 1, 2, 9, 2, 1, 1, 2, 9, 2, 1), 3, 1, of(dims{2, 3}, most, 7, -9, last, -7, 9), []fix.F{9, 9, 9, 9, 9, 9}, []fix.F{0, 0, most - 9, 0, 0, 0, 0, last + 9, 0, 0}},
		{pool.Mean, of(dims{7}, 0, 0, 0, 0, 0, 0, 0), 4, 1, of(dims{4}, most, most, most, last), []fix.F{0, 0, 0, 0}, []fix.F{2305843009213693952, 4611686018427387904, 6917529027641081856, 4611686018427387904, 2305843009213693952, 0, -2305843009213693952}},
		{pool.Mean, of(dims{7}, 0, 0, 0, 0, 0, 0, 0), 4, 1, of(dims{4}, last, last, most, most), []fix.F{0, 0, 0, 0}, []fix.F{-2305843009213693952, -4611686018427387904, -2305843009213693952, 0, 2305843009213693952, 4611686018427387904, 2305843009213693952}},
		{pool.Mean, of(dims{5}, 0, 0, 0, 0, 0), 3, 1, of(dims{3}, most, most, most), []fix.F{0, 0, 0}, []fix.F{3074457345618258602, 6148914691236517204, most - 1, 6148914691236517204, 3074457345618258602}},
		{pool.Mean, of(dims{4}, 0, 0, 0, 0), 2, 1, of(dims{3}, most, most, last), []fix.F{0, 0, 0}, []fix.F{4611686018427387904, most, 0, -4611686018427387904}},
		{pool.Mean, of(dims{4}, 0, 0, 0, 0), 2, 1, of(dims{3}, last, last, most), []fix.F{0, 0, 0}, []fix.F{-4611686018427387904, last, 0, 4611686018427387904}},
		{pool.Mean, of(dims{6}, 0, 0, 0, 0, 0, 0), 2, 1, of(dims{5}, last, last, last, most, most), []fix.F{0, 0, 0, 0, 0}, []fix.F{-4611686018427387904, last, last, 0, most, 4611686018427387904}},
		// A zero input, and a zero gradient.
		{pool.Top, of(dims{2, 3}, 0, 0, 0, 0, 0, 0), 2, 1, of(dims{2, 2}, 2, 4, 6, 8), []fix.F{0, 0, 0, 0}, []fix.F{2, 4, 0, 6, 8, 0}},
		{pool.Mean, of(dims{2, 3}, 0, 0, 0, 0, 0, 0), 2, 1, of(dims{2, 2}, 2, 4, 6, 8), []fix.F{0, 0, 0, 0}, []fix.F{1, 3, 2, 3, 7, 4}},
		{pool.Top, of(dims{2, 3}, most, last, most, 1, 2, 3), 2, 1, of(dims{2, 2}, 0, 0, 0, 0), []fix.F{most, most, 2, 3}, []fix.F{0, 0, 0, 0, 0, 0}},
		{pool.Mean, of(dims{2, 3}, most, last, most, 1, 2, 3), 2, 1, of(dims{2, 2}, 0, 0, 0, 0), []fix.F{0, 0, 2, 2}, []fix.F{0, 0, 0, 0, 0, 0}},
	} {
		check(t, c.kind, c.x, c.width, c.step, c.g, c.out, c.back)
	}
}

// All cells of the results are compared with what the chapter says of each, in shapes of many kinds, some at the limits.
func TestAllCells(t *testing.T) {
	for _, s := range []dims{
		{1}, {2}, {3}, {7}, {24}, {1024}, {1, 1}, {3, 5}, {5, 3}, {9, 1}, {1, 9}, {64, 1024}, {1024, 64}, {2, 3, 4}, {4, 3, 2}, {1, 1, 12}, {4, 3, 97}, {2, 2, 2, 5}, {3, 1, 2, 6}, {6, 2, 1, 3}, {16, 16, 16, 16}, {1, 5, 1, 200},
	} {
		side := s[len(s)-1]
		for _, width := range []int{1, 2, 3, 4, 5, 11, side - 1, side} {
			if width < 1 || width > side {
				continue
			}
			for _, step := range []int{1, 2, 3, 5, side, 1024} {
				compareAll(t, s, width, step)
			}
		}
	}
}

// compareAll compares Shape, and Go and Back of some tensors of this shape.
func compareAll(t *testing.T, s dims, width, step int) {
	t.Helper()
	out := wantShape(s, width, step)
	if got, err := pool.Shape(s, width, step); err != api.OK || !slices.Equal(got, out) {
		t.Errorf("Shape of %v, width %d, step %d: %v, error %d, not %v", s, width, step, got, err, out)
	}
	for seed, x := range []tensor.Tensor{mixed(1, s...), alike(2, s...)} {
		g := mixed(seed+3, out...)
		for _, kind := range kinds() {
			if got, err := pool.Go(kind, x, width, step); err != api.OK || !is(got, out, wantOut(kind, x, out, width, step)) {
				t.Errorf("Go of kind %d, shape %v, width %d, step %d, seed %d: shape %v, error %d, or wrong cells", kind, s, width, step, seed, got.S, err)
			}
			if got, err := pool.Back(kind, x, g, width, step); err != api.OK || !is(got, s, wantBack(kind, x, g, width, step)) {
				t.Errorf("Back of kind %d, shape %v, width %d, step %d, seed %d: shape %v, error %d, or wrong cells", kind, s, width, step, seed, got.S, err)
			}
		}
	}
}

// The cells that no window reaches have the gradient 0, and change nothing, whatever they are.
func TestCellsOutOfReach(t *testing.T) {
	for _, s := range []dims{{9}, {3, 10}, {2, 3, 7}} {
		for width := 1; width <= s[len(s)-1]; width++ {
			for step := 1; step <= s[len(s)-1]; step++ {
				checkReach(t, s, width, step)
			}
		}
	}
}

func checkReach(t *testing.T, s dims, width, step int) {
	t.Helper()
	out := wantShape(s, width, step)
	x, g := alike(1, s...), mixed(2, out...)
	reached := map[int]bool{}
	for place := range g.Cells {
		g.Cells[place] = fix.Int(3 * width)
		first := wantFirst(s, out, place, step)
		for at := first; at < first+width; at++ {
			reached[at] = true
		}
	}
	changed := x.Copy()
	for at := range changed.Cells {
		if !reached[at] {
			changed.Cells[at] = most
		}
	}
	for _, kind := range kinds() {
		before, _ := pool.Go(kind, x, width, step)
		if after, err := pool.Go(kind, changed, width, step); err != api.OK || !is(after, before.S, before.Cells) {
			t.Errorf("Go of kind %d, shape %v, width %d, step %d depends on cells out of reach", kind, s, width, step)
		}
		got, err := pool.Back(kind, changed, g, width, step)
		if err != api.OK || len(got.Cells) != len(x.Cells) {
			t.Fatalf("Back of kind %d, shape %v, width %d, step %d: error %d", kind, s, width, step, err)
		}
		for at, cell := range got.Cells {
			if cell != 0 && !reached[at] || cell == 0 && reached[at] && kind == pool.Mean {
				t.Errorf("Back of kind %d, shape %v, width %d, step %d: the gradient of the cell %d is %d", kind, s, width, step, at, cell)
			}
		}
	}
}

// One tensor is both the input and the output gradient.
func TestOneTensor(t *testing.T) {
	x := of(dims{2, 2}, one, -2*one, 3*one, 5)
	for _, kind := range kinds() {
		check(t, kind, x, 1, 1, x, []fix.F{one, -2 * one, 3 * one, 5}, []fix.F{one, -2 * one, 3 * one, 5})
		refusesBack(t, kind, x, x, 2, 1, api.ErrShape)
	}
	if !is(x, dims{2, 2}, []fix.F{one, -2 * one, 3 * one, 5}) {
		t.Errorf("the argument was changed: %v", x)
	}
}

// A number of no kind is refused before everything else.
func TestKindsThatThereAreNot(t *testing.T) {
	x, g := mixed(1, 2, 4), mixed(2, 2, 3)
	for _, kind := range noKinds() {
		for _, width := range []int{2, 0, 5, math.MaxInt} {
			for _, step := range []int{1, 0, 1025, math.MinInt} {
				refuses(t, kind, x, g, width, step, api.ErrOp)
				refuses(t, kind, x, x, width, step, api.ErrOp)
			}
		}
		for _, bad := range wrong() {
			refuses(t, kind, bad, g, 2, 1, api.ErrOp)
			refuses(t, kind, bad, bad, 0, 0, api.ErrOp)
			refuses(t, kind, x, bad, 2, 1, api.ErrOp)
			refuses(t, kind, x, bad, 5, 1, api.ErrOp)
		}
	}
}

// An input that is not valid is refused before the error of the window, and that is returned before the one of the output gradient.
func TestTensorsThatAreNotValid(t *testing.T) {
	for _, c := range []struct{ x, out dims }{{dims{2}, dims{1}}, {dims{3}, dims{2}}, {dims{2, 3}, dims{2, 2}}, {dims{1, 2, 3}, dims{1, 2, 2}}, {dims{2, 1, 2, 3}, dims{2, 1, 2, 2}}} {
		x, g := mixed(1, c.x...), mixed(2, c.out...)
		for _, kind := range kinds() {
			for _, bad := range wrong() {
				for _, window := range [][2]int{{2, 1}, {1, 1}, {0, 1}, {2, 0}, {1024, 1}, {1025, -1}} {
					refuses(t, kind, bad, g, window[0], window[1], api.ErrShape)
					refuses(t, kind, bad, bad, window[0], window[1], api.ErrShape)
				}
				refusesBack(t, kind, x, bad, 2, 1, api.ErrShape)
				for _, window := range [][2]int{{0, 1}, {4, 1}, {-1, 1}, {1025, 1}, {2, 0}, {2, -1}, {2, 1025}, {4, 0}} {
					refusesBack(t, kind, x, bad, window[0], window[1], api.ErrRange)
				}
			}
		}
	}
}

// A tensor whose number of cells is wrong is refused, also if its shape is the one that is needed.
func TestNumbersOfCells(t *testing.T) {
	for _, c := range []struct{ x, out dims }{{dims{3}, dims{2}}, {dims{2, 3}, dims{2, 2}}, {dims{2, 2, 3}, dims{2, 2, 2}}, {dims{1, 2, 2, 3}, dims{1, 2, 2, 2}}} {
		x, g := mixed(1, c.x...), mixed(2, c.out...)
		for _, kind := range kinds() {
			for _, change := range []func(tensor.Tensor) tensor.Tensor{
				func(v tensor.Tensor) tensor.Tensor { return of(v.S, v.Cells[:len(v.Cells)-1]...) },
				func(v tensor.Tensor) tensor.Tensor { return of(v.S, append(slices.Clone(v.Cells), 1)...) },
				func(v tensor.Tensor) tensor.Tensor { return of(v.S, slices.Repeat(v.Cells, 2)...) },
				func(v tensor.Tensor) tensor.Tensor { return of(v.S) },
				func(v tensor.Tensor) tensor.Tensor { return of(nil, v.Cells...) },
			} {
				refuses(t, kind, change(x), g, 2, 1, api.ErrShape)
				refusesBack(t, kind, x, change(g), 2, 1, api.ErrShape)
			}
		}
	}
}

// An output gradient that is valid is refused with any other shape, also with as many cells.
func TestShapeOfTheGradient(t *testing.T) {
	for _, c := range []struct{ x, out dims }{{dims{7}, dims{6}}, {dims{2, 4}, dims{2, 3}}, {dims{3, 3}, dims{3, 2}}, {dims{1, 2, 4}, dims{1, 2, 3}}, {dims{2, 1, 4}, dims{2, 1, 3}}, {dims{1, 1, 2, 4}, dims{1, 1, 2, 3}}, {dims{1, 2, 1, 4}, dims{1, 2, 1, 3}}} {
		for _, s := range []dims{
			{6}, {1, 6}, {6, 1}, {2, 3}, {3, 2}, {1, 1, 6}, {1, 6, 1}, {6, 1, 1}, {1, 2, 3}, {2, 1, 3}, {2, 3, 1}, {1, 3, 2}, {3, 2, 1}, {3, 1, 2}, {1, 1, 1, 6}, {1, 1, 2, 3}, {1, 2, 1, 3}, {2, 1, 1, 3}, {1, 1, 3, 2}, {1, 2, 3, 1}, {2, 3, 1, 1},
			{1}, {5}, {7}, {2, 2}, {2, 4}, {3, 3}, {1, 3}, {1, 2, 2}, {1, 2, 4}, {2, 2, 3}, {1, 1, 3}, {2, 1, 4}, {1, 1, 2, 4}, {1, 1, 1, 3}, {1, 2, 2, 3}, {1, 1, 2, 2}, {1024}, {64, 1024},
		} {
			for _, kind := range kinds() {
				if !slices.Equal(s, c.out) {
					refusesBack(t, kind, mixed(1, c.x...), mixed(2, s...), 2, 1, api.ErrShape)
				}
			}
		}
		for _, kind := range kinds() {
			g := mixed(2, c.out...)
			if _, err := pool.Back(kind, mixed(1, c.x...), g, 2, 1); err != api.OK {
				t.Errorf("Back of kind %d, shapes %v, %v: error %d", kind, c.x, c.out, err)
			}
			// Another width, or another step, gives an output of another shape.
			refusesBack(t, kind, mixed(1, c.x...), g, 1, 1, api.ErrShape)
			refusesBack(t, kind, mixed(1, c.x...), g, 3, 1, api.ErrShape)
			refusesBack(t, kind, mixed(1, c.x...), g, 2, 2, api.ErrShape)
		}
	}
}

// Memory

// spare returns a copy of a tensor that has spare capacity, filled with other values.
func spare(g tensor.Tensor) tensor.Tensor {
	s := append(g.S.Copy(), 98, 97)
	cells := append(slices.Clone(g.Cells), 95, 94, 93)
	return tensor.Tensor{S: s[:len(g.S)], Cells: cells[:len(g.Cells)]}
}

// whole reports whether what spare returned is as it was.
func whole(g, original tensor.Tensor) bool {
	return slices.Equal(g.S[:len(g.S)+2], append(original.S.Copy(), 98, 97)) && slices.Equal(g.Cells[:len(g.Cells)+3], append(slices.Clone(original.Cells), 95, 94, 93))
}

// results returns what all functions return; a shape is that of a tensor without cells.
func results(x, g tensor.Tensor, width, step int) []tensor.Tensor {
	s, _ := pool.Shape(x.S, width, step)
	list := []tensor.Tensor{{S: s}}
	for _, kind := range kinds() {
		out, _ := pool.Go(kind, x, width, step)
		back, _ := pool.Back(kind, x, g, width, step)
		list = append(list, out, back)
	}
	pool.Best(x.Cells)
	return list
}

// pooledShapes are shapes of an input and of its output, with the width and the step.
type pooledShapes struct {
	x, out      dims
	width, step int
}

func somePooled() []pooledShapes {
	return []pooledShapes{
		{dims{1}, dims{1}, 1, 1}, {dims{5}, dims{5}, 1, 1}, {dims{5}, dims{1}, 5, 1}, {dims{5}, dims{2}, 2, 2}, {dims{2, 4}, dims{2, 3}, 2, 1}, {dims{2, 2, 3}, dims{2, 2, 2}, 2, 1}, {dims{1, 2, 2, 7}, dims{1, 2, 2, 2}, 2, 4},
	}
}

// Neither the arguments nor their spare memory are changed, and no result shares it, or that of another result.
func TestArgumentsStayAsTheyAre(t *testing.T) {
	for _, c := range somePooled() {
		x, g := mixed(1, c.x...), mixed(2, c.out...)
		ofX, ofG := spare(x), spare(g)
		l := append(results(ofX, ofG, c.width, c.step), results(ofX, ofG, c.width, c.step)...)
		var kept []tensor.Tensor
		for i, r := range l {
			if len(r.S) == 0 || len(r.Cells) == 0 && i%5 != 0 {
				t.Fatalf("shape %v, width %d: result %d is missing: %v", c.x, c.width, i, r)
			}
			kept = append(kept, r.Copy())
		}
		for i, r := range l {
			overwrite(r)
			for j := i + 1; j < len(l); j++ {
				if !is(l[j], kept[j].S, kept[j].Cells) {
					t.Fatalf("shape %v, width %d: the results %d and %d share their memory", c.x, c.width, i, j)
				}
			}
		}
		if !whole(ofX, x) || !whole(ofG, g) {
			t.Errorf("shape %v, width %d: an argument was changed, or shares its memory: %v, %v", c.x, c.width, ofX, ofG)
		}
	}
}

// A later call, or a change of the arguments, leaves earlier results as they are.
func TestArgumentsAreNotRetained(t *testing.T) {
	for _, c := range somePooled() {
		x, g := mixed(1, c.x...).Copy(), mixed(2, c.out...).Copy()
		l := results(x, g, c.width, c.step)
		var kept []tensor.Tensor
		for _, r := range l {
			kept = append(kept, r.Copy())
		}
		overwrite(x)
		overwrite(g)
		results(mixed(5, c.x...), mixed(6, c.out...), c.width, c.step)
		for i := range l {
			if !is(l[i], kept[i].S, kept[i].Cells) {
				t.Errorf("shape %v, width %d: result %d retains an argument: %v", c.x, c.width, i, l[i])
			}
		}
	}
}

// A call that fails changes no argument.
func TestFailuresChangeNothing(t *testing.T) {
	x, g := mixed(1, 2, 3), mixed(2, 3, 2)
	ofX, ofG := spare(x), spare(g)
	for _, kind := range append(noKinds(), kinds()...) {
		for _, width := range []int{0, 2, 4} {
			for _, step := range []int{0, 1, 1025} {
				if _, err := pool.Back(kind, ofX, ofG, width, step); err == api.OK {
					t.Errorf("Back of kind %d, width %d, step %d: no error", kind, width, step)
				}
				pool.Go(kind, ofX, width, 0)
			}
		}
	}
	pool.Shape(ofX.S, 4, 1)
	if !whole(ofX, x) || !whole(ofG, g) {
		t.Errorf("an argument was changed: %v, %v", ofX, ofG)
	}
}

// P1 of DOC.md: no arguments make a function panic.
func TestAllArguments(t *testing.T) {
	list := wrong()
	for i, s := range []dims{{1}, {2}, {3}, {1024}, {1, 1}, {2, 3}, {64, 1024}, {1024, 64}, {2, 2, 3}, {64, 1, 1024}, {1, 1, 1, 1}, {2, 1, 2, 3}, {16, 16, 16, 16}} {
		list = append(list, mixed(i, s...))
	}
	numbers := []int{math.MinInt, -1, 0, 1, 2, 1023, 1024, 1025, math.MaxInt}
	for _, x := range list {
		pool.Best(x.Cells)
		for _, kind := range []int{math.MinInt, -1, 0, 1, 2, 3, math.MaxInt} {
			for _, width := range numbers {
				for _, step := range numbers {
					pool.Shape(x.S, width, step)
					out, _ := pool.Go(kind, x, width, step)
					pool.Back(kind, x, out, width, step)
					pool.Back(kind, x, x, width, step)
					pool.Back(kind, x, list[(width&1023)%len(list)], width, step)
				}
			}
		}
	}
}
