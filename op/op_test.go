package op_test

import (
	"math"
	"slices"
	"testing"

	"athanor/api"
	"athanor/conv"
	"athanor/dense"
	"athanor/fix"
	"athanor/move"
	"athanor/op"
	"athanor/point"
	"athanor/pool"
	"athanor/shape"
	"athanor/tensor"
)

const (
	one  = fix.One
	half = fix.One / 2
	most = fix.Max
	last = fix.Min
)

type (
	dims = shape.Shape
	list = []tensor.Tensor
)

// of is a tensor with this shape and these cells.
func of(s dims, cells ...fix.F) tensor.Tensor {
	return tensor.Tensor{S: s, Cells: cells}
}

// size is the product of the sides.
func size(sides ...int) int {
	n := 1
	for _, length := range sides {
		n *= length
	}
	return n
}

// whole is a tensor whose cells are these integers.
func whole(s dims, cells ...int) tensor.Tensor {
	var l []fix.F
	for _, n := range cells {
		l = append(l, fix.Int(n))
	}
	return of(s, l...)
}

// mixed is a tensor whose cells are numbers of all magnitudes, some at the bounds; another seed gives other cells.
func mixed(seed int, sides ...int) tensor.Tensor {
	numbers := []fix.F{one, most, -3, half, 0, last, 7*one/3 + 1, -one, 1 << 47, most / 2, 1, -1 << 47, last / 2, 6, -half, 3, 2 * one, -1, 5 * one, -3 * one}
	cells := make([]fix.F, size(sides...))
	state := uint32(seed)*2654435761 + 12345
	for i := range cells {
		state = state*1664525 + 1013904223
		cells[i] = numbers[int(state>>8)%len(numbers)]
	}
	return of(sides, cells...)
}

// filled are tensors of these shapes, the cells of each of which are others.
func filled(seed int, shapes []dims) list {
	var l list
	for i, s := range shapes {
		l = append(l, mixed(seed+i, s...))
	}
	return l
}

// wrongShapes are shapes that are not valid.
func wrongShapes() []dims {
	return []dims{
		nil, {}, {0}, {-1}, {-6}, {1025}, {65536}, {math.MaxInt}, {math.MinInt},
		{0, 2}, {2, 0}, {0, 0}, {-2, -3}, {1, 1025}, {1025, 1}, {65, 1024}, {257, 256}, {2, 1 << 62}, {1 << 32, 1 << 32}, {math.MinInt, 2},
		{1, 0, 2}, {1, 1, 0}, {1, -2, -3}, {64, 2, 513}, {math.MaxInt, math.MaxInt, math.MaxInt},
		{1, 1, -2, -3}, {1, 1, 1, 1025}, {16, 16, 16, 17}, {1, 1, 1, 1, 1}, {1, 1, 1, 1, 6}, {6, 1, 1, 1, 1}, {1, 1, 1, 1, 1, 6},
	}
}

// wrong are tensors that are not valid.
func wrong() list {
	l := list{{}, of(dims{2, 3}), whole(dims{2, 3}, 1, 2, 3, 4, 5), whole(dims{2, 3}, 1, 2, 3, 4, 5, 6, 7), whole(dims{3}, 1, 2), whole(dims{2}, 1, 2, 3), whole(dims{1})}
	for _, s := range wrongShapes() {
		l = append(l, of(s), whole(s, 1), whole(s, 1, 2, 3, 4, 5, 6))
	}
	return l
}

// someWrong are a few of them.
func someWrong() list {
	return list{{}, of(dims{2, 3}), whole(dims{2, 3}, 1, 2, 3, 4, 5), whole(dims{2, 3}, 1, 2, 3, 4, 5, 6, 7), whole(nil, 1, 2, 3, 4, 5, 6), whole(dims{-2, -3}, 1, 2, 3, 4, 5, 6), whole(dims{1, 1, 1, 1, 6}, 1, 2, 3, 4, 5, 6)}
}

// same reports whether two tensors have the same shape and the same cells.
func same(a, b tensor.Tensor) bool {
	return slices.Equal(a.S, b.S) && slices.Equal(a.Cells, b.Cells)
}

// none reports whether a tensor is its zero value.
func none(g tensor.Tensor) bool {
	return len(g.S) == 0 && len(g.Cells) == 0
}

// shapesOf are the shapes of tensors.
func shapesOf(l list) []dims {
	var shapes []dims
	for _, x := range l {
		shapes = append(shapes, x.S)
	}
	return shapes
}

// extremes are integers at which a number might be cut off, and some others.
func extremes() []int {
	return []int{1, -1, 2, 3, 1024, 1025, 1 << 31, 1 << 32, 1<<32 + 1, math.MaxInt, math.MinInt}
}

// noKinds are numbers of no kind.
func noKinds() []int {
	return []int{0, 16, 17, 18, -1, -2, -8, -15, 100, 255, 256 + 8, 1<<16 + 1, 1<<32 + 1, 1<<32 + 8, math.MaxInt, math.MinInt, math.MinInt + 13}
}

// uses are the names of the fields that each kind uses.
func uses() map[int][]string {
	return map[int][]string{
		1: nil, 2: {"K"}, 3: nil, 4: nil, 5: {"K"}, 6: nil, 7: nil,
		8: nil, 9: nil, 10: {"Step"}, 11: {"Width", "Step"}, 12: {"Width", "Step"}, 13: {"Side"}, 14: {"Side", "From", "To"}, 15: {"S"},
	}
}

// singles are ops without a kind in which a single field, that with this name, is not zero or empty.
func singles() map[string][]op.Op {
	l := map[string][]op.Op{"K": {{K: one}, {K: most}, {K: last}}}
	for _, n := range extremes() {
		l["K"] = append(l["K"], op.Op{K: fix.F(n)})
		l["Width"] = append(l["Width"], op.Op{Width: n})
		l["Step"] = append(l["Step"], op.Op{Step: n})
		l["Side"] = append(l["Side"], op.Op{Side: n})
		l["From"] = append(l["From"], op.Op{From: n})
		l["To"] = append(l["To"], op.Op{To: n})
	}
	for _, s := range append(wrongShapes(), dims{1}, dims{2, 3}, dims{1, 1, 1, 1}, dims{64, 1024}) {
		if len(s) > 0 {
			l["S"] = append(l["S"], op.Op{S: s})
		}
	}
	return l
}

// over is the op o with all fields of q that are not zero or empty.
func over(o, q op.Op) op.Op {
	for _, f := range []struct{ to, from *int }{{&o.Width, &q.Width}, {&o.Step, &q.Step}, {&o.Side, &q.Side}, {&o.From, &q.From}, {&o.To, &q.To}} {
		if *f.from != 0 {
			*f.to = *f.from
		}
	}
	if q.K != 0 {
		o.K = q.K
	}
	if len(q.S) > 0 {
		o.S = q.S
	}
	return o
}

// sample is a valid op, shapes of parameters and inputs that it takes, and the shape of its output and its cost by the chapter.
type sample struct {
	o    op.Op
	p, x []dims
	out  dims
	cost int
}

func samples() []sample {
	wide := slices.Repeat([]dims{{8, 1024}}, 8)
	return []sample{
		{op.Op{Kind: 1}, nil, []dims{{1}}, dims{1}, 1},
		{op.Op{Kind: 1}, nil, []dims{{2, 3}}, dims{2, 3}, 6},
		{op.Op{Kind: 1}, nil, []dims{{64, 1024}}, dims{64, 1024}, 65536},
		{op.Op{Kind: 2, K: half}, nil, []dims{{4}}, dims{4}, 4},
		{op.Op{Kind: 2}, nil, []dims{{2, 2, 2}}, dims{2, 2, 2}, 8},
		{op.Op{Kind: 2, K: last}, nil, []dims{{3, 1}}, dims{3, 1}, 3},
		{op.Op{Kind: 3}, nil, []dims{{2, 1, 3}}, dims{2, 1, 3}, 6},
		{op.Op{Kind: 4}, nil, []dims{{2, 1, 3, 2}}, dims{2, 1, 3, 2}, 12},
		{op.Op{Kind: 5, K: -one}, nil, []dims{{1024}}, dims{1024}, 1024},
		{op.Op{Kind: 5}, nil, []dims{{2, 5}}, dims{2, 5}, 10},
		{op.Op{Kind: 5, K: most}, nil, []dims{{9}}, dims{9}, 9},
		{op.Op{Kind: 6}, nil, []dims{{4}, {4}}, dims{4}, 4},
		{op.Op{Kind: 6}, nil, []dims{{2, 3, 2}, {2, 3, 2}}, dims{2, 3, 2}, 12},
		{op.Op{Kind: 7}, nil, []dims{{3, 1, 2}, {3, 1, 2}}, dims{3, 1, 2}, 6},
		{op.Op{Kind: 7}, nil, []dims{{64, 1024}, {64, 1024}}, dims{64, 1024}, 65536},

		{op.Op{Kind: 8}, []dims{{2, 3}, {2}}, []dims{{3}}, dims{2}, 6},
		{op.Op{Kind: 8}, []dims{{1, 1}, {1}}, []dims{{1}}, dims{1}, 1},
		{op.Op{Kind: 8}, []dims{{2, 6}, {2}}, []dims{{2, 3}}, dims{2}, 12},
		{op.Op{Kind: 8}, []dims{{3, 1}, {3}}, []dims{{1, 1, 1, 1}}, dims{3}, 3},
		{op.Op{Kind: 8}, []dims{{1, 12}, {1}}, []dims{{2, 1, 3, 2}}, dims{1}, 12},
		{op.Op{Kind: 8}, []dims{{64, 1024}, {64}}, []dims{{16, 64}}, dims{64}, 65536},

		{op.Op{Kind: 9}, []dims{{1}}, []dims{{1}}, dims{1}, 1},
		{op.Op{Kind: 9}, []dims{{2, 3}}, []dims{{2, 3}}, dims{2, 3}, 6},
		{op.Op{Kind: 9}, []dims{{2, 1, 3, 2}}, []dims{{2, 1, 3, 2}}, dims{2, 1, 3, 2}, 12},
		{op.Op{Kind: 9}, []dims{{64, 1024}}, []dims{{64, 1024}}, dims{64, 1024}, 65536},

		{op.Op{Kind: 10, Step: 1}, []dims{{1, 1, 2}}, []dims{{1, 3}}, dims{1, 2}, 4},
		{op.Op{Kind: 10, Step: 1}, []dims{{3, 2, 2}}, []dims{{2, 5}}, dims{3, 4}, 48},
		{op.Op{Kind: 10, Step: 2}, []dims{{3, 2, 2}}, []dims{{2, 5}}, dims{3, 2}, 24},
		{op.Op{Kind: 10, Step: 5}, []dims{{2, 1, 5}}, []dims{{1, 5}}, dims{2, 1}, 10},
		{op.Op{Kind: 10, Step: 1024}, []dims{{1, 2, 1}}, []dims{{2, 3}}, dims{1, 1}, 2},
		{op.Op{Kind: 10, Step: 1}, []dims{{4, 1, 1}}, []dims{{1, 1}}, dims{4, 1}, 4},
		{op.Op{Kind: 10, Step: 1}, []dims{{1, 1, 1, 1}}, []dims{{1, 1, 1}}, dims{1, 1, 1}, 1},
		{op.Op{Kind: 10, Step: 1}, []dims{{4, 3, 2, 5}}, []dims{{3, 4, 6}}, dims{4, 3, 2}, 720},
		{op.Op{Kind: 10, Step: 2}, []dims{{2, 2, 3, 2}}, []dims{{2, 5, 6}}, dims{2, 2, 3}, 144},
		{op.Op{Kind: 10, Step: 3}, []dims{{2, 1, 1, 2}}, []dims{{1, 4, 5}}, dims{2, 2, 2}, 16},
		{op.Op{Kind: 10, Step: 1}, []dims{{1, 1, 256, 256}}, []dims{{1, 256, 256}}, dims{1, 1, 1}, 65536},
		{op.Op{Kind: 10, Step: 1}, []dims{{1024, 64, 1}}, []dims{{64, 2}}, dims{1024, 2}, 131072},

		{op.Op{Kind: 11, Width: 2, Step: 1}, nil, []dims{{3}}, dims{2}, 4},
		{op.Op{Kind: 11, Width: 2, Step: 2}, nil, []dims{{3, 4}}, dims{3, 2}, 12},
		{op.Op{Kind: 11, Width: 1, Step: 1}, nil, []dims{{2, 3}}, dims{2, 3}, 6},
		{op.Op{Kind: 11, Width: 3, Step: 1024}, nil, []dims{{2, 2, 7}}, dims{2, 2, 1}, 12},
		{op.Op{Kind: 11, Width: 16, Step: 8}, nil, []dims{{64, 1024}}, dims{64, 127}, 130048},
		{op.Op{Kind: 12, Width: 4, Step: 1}, nil, []dims{{3, 4}}, dims{3, 1}, 12},
		{op.Op{Kind: 12, Width: 3, Step: 2}, nil, []dims{{2, 1, 2, 7}}, dims{2, 1, 2, 3}, 36},
		{op.Op{Kind: 12, Width: 2, Step: 5}, nil, []dims{{1, 1, 12}}, dims{1, 1, 3}, 6},
		{op.Op{Kind: 12, Width: 1024, Step: 1}, nil, []dims{{1024}}, dims{1}, 1024},

		{op.Op{Kind: 13}, nil, []dims{{3}}, dims{3}, 3},
		{op.Op{Kind: 13, Side: 3}, nil, []dims{{2, 1, 3, 2}}, dims{2, 1, 3, 2}, 12},
		{op.Op{Kind: 13, Side: 1}, nil, []dims{{2, 1}, {2, 3}}, dims{2, 4}, 8},
		{op.Op{Kind: 13}, nil, []dims{{2, 3}, {1, 3}}, dims{3, 3}, 9},
		{op.Op{Kind: 13, Side: 2}, nil, []dims{{2, 1, 1}, {2, 1, 2}, {2, 1, 1}}, dims{2, 1, 4}, 8},
		{op.Op{Kind: 13}, nil, []dims{{1}, {2}, {3}, {4}, {5}, {6}, {7}}, dims{28}, 28},
		{op.Op{Kind: 13}, nil, []dims{{1}, {2}, {3}, {4}, {5}, {6}, {7}, {8}}, dims{36}, 36},
		{op.Op{Kind: 13}, nil, wide, dims{64, 1024}, 65536},
		{op.Op{Kind: 13}, nil, []dims{{1023}, {1}}, dims{1024}, 1024},

		{op.Op{Kind: 14, To: 1}, nil, []dims{{1}}, dims{1}, 1},
		{op.Op{Kind: 14, Side: 1, From: 1, To: 3}, nil, []dims{{2, 3}}, dims{2, 2}, 4},
		{op.Op{Kind: 14, To: 2}, nil, []dims{{2, 3}}, dims{2, 3}, 6},
		{op.Op{Kind: 14, Side: 2, From: 3, To: 4}, nil, []dims{{2, 3, 4}}, dims{2, 3, 1}, 6},
		{op.Op{Kind: 14, Side: 3, From: 1, To: 2}, nil, []dims{{2, 1, 3, 2}}, dims{2, 1, 3, 1}, 6},
		{op.Op{Kind: 14, Side: 1, From: 1000, To: 1024}, nil, []dims{{64, 1024}}, dims{64, 24}, 1536},

		{op.Op{Kind: 15, S: dims{6}}, nil, []dims{{2, 3}}, dims{6}, 6},
		{op.Op{Kind: 15, S: dims{3, 2}}, nil, []dims{{2, 3}}, dims{3, 2}, 6},
		{op.Op{Kind: 15, S: dims{2, 3}}, nil, []dims{{2, 3}}, dims{2, 3}, 6},
		{op.Op{Kind: 15, S: dims{1, 2, 3, 1}}, nil, []dims{{6}}, dims{1, 2, 3, 1}, 6},
		{op.Op{Kind: 15, S: dims{1}}, nil, []dims{{1, 1, 1, 1}}, dims{1}, 1},
		{op.Op{Kind: 15, S: dims{256, 256}}, nil, []dims{{16, 16, 16, 16}}, dims{256, 256}, 65536},
	}
}

// layerGo is what the layer of a kind returns for the right number of parameters and inputs.
func layerGo(o op.Op, p, x list) (tensor.Tensor, api.Errno) {
	switch o.Kind {
	case 8:
		return dense.Go(p[0], p[1], x[0])
	case 9:
		return dense.Bias(p[0], x[0])
	case 10:
		return conv.Go(p[0], x[0], o.Step)
	case 11:
		return pool.Go(pool.Top, x[0], o.Width, o.Step)
	case 12:
		return pool.Go(pool.Mean, x[0], o.Width, o.Step)
	case 13:
		return move.Join(o.Side, x...)
	case 14:
		return move.Cut(x[0], o.Side, o.From, o.To)
	case 15:
		return move.Turn(x[0], o.S)
	}
	return point.Go(o.Kind, o.K, x...)
}

// layerBack are the gradients by the layer of a kind, where there is an output and g has its shape.
func layerBack(o op.Op, p, x list, g tensor.Tensor) (ofP, ofX list) {
	var only tensor.Tensor
	switch o.Kind {
	case 8:
		back, _ := dense.Back(p[0], p[1], x[0], g)
		return list{back.W, back.B}, list{back.X}
	case 9:
		return list{g}, list{g}
	case 10:
		back, _ := conv.Back(p[0], x[0], g, o.Step)
		return list{back.W}, list{back.X}
	case 11:
		only, _ = pool.Back(pool.Top, x[0], g, o.Width, o.Step)
	case 12:
		only, _ = pool.Back(pool.Mean, x[0], g, o.Width, o.Step)
	case 13:
		ofX, _ = move.JoinBack(o.Side, g, x...)
		return nil, ofX
	case 14:
		only, _ = move.CutBack(x[0], g, o.Side, o.From, o.To)
	case 15:
		only, _ = move.TurnBack(x[0], g)
	default:
		ofX, _ = point.Back(o.Kind, o.K, g, x...)
		return nil, ofX
	}
	return nil, list{only}
}

// tableCost is the cost by the chapter's table, for an output of this shape.
func tableCost(o op.Op, p []dims, out dims) int {
	switch o.Kind {
	case 8:
		return size(p[0]...)
	case 10:
		return size(out...) * size(p[0]...) / p[0][0]
	case 11, 12:
		return size(out...) * o.Width
	}
	return size(out...)
}

// The example of the chapter.
func TestExample(t *testing.T) {
	p, x := []dims{{2, 3}, {2}}, []dims{{3}}
	if s, err := (op.Op{Kind: op.Dense}).Shape(p, x); err != api.OK || !slices.Equal(s, dims{2}) {
		t.Errorf("Shape: %v, error %d", s, err)
	}
	if cost, err := (op.Op{Kind: op.Dense}).Cost(p, x); err != api.OK || cost != 6 {
		t.Errorf("Cost: %d, error %d", cost, err)
	}
}

// P10.1

// The numbers follow those of layer 5.
func TestNumbersOfTheKinds(t *testing.T) {
	got := []int{op.Dense, op.Bias, op.Conv, op.Top, op.Mean, op.Join, op.Cut, op.Turn}
	if want := []int{8, 9, 10, 11, 12, 13, 14, 15}; !slices.Equal(got, want) || op.Dense != point.Times+1 {
		t.Errorf("the kinds are %v, not %v", got, want)
	}
}

// checkRight checks Right, and that Ins and Params are 0 for an op that is not valid.
func checkRight(t *testing.T, o op.Op, want bool) {
	t.Helper()
	if o.Right() != want {
		t.Errorf("Right of %+v is not %v", o, want)
	}
	least, most := o.Ins()
	if !want && (least != 0 || most != 0 || o.Params() != 0) {
		t.Errorf("%+v is not valid, but has %d to %d inputs, and %d parameters", o, least, most, o.Params())
	}
}

// Each field alone, and each field that is not used beside those that are used.
func TestRight(t *testing.T) {
	for kind, used := range uses() {
		checkRight(t, op.Op{Kind: kind}, true)
		checkRight(t, op.Op{Kind: kind, S: dims{}}, true)
		full := op.Op{Kind: kind}
		for _, name := range used {
			full = over(full, singles()[name][1])
		}
		checkRight(t, full, true)
		for name, ops := range singles() {
			for _, single := range ops {
				want := slices.Contains(used, name)
				checkRight(t, over(op.Op{Kind: kind}, single), want)
				checkRight(t, over(full, single), want)
				single.S = append(dims{}, single.S...)
				checkRight(t, over(op.Op{Kind: kind}, single), want)
			}
		}
	}
	for _, s := range samples() {
		checkRight(t, s.o, true)
	}
}

// Fields that would cancel each other out in a sum are not zero either.
func TestRightOfSeveralFields(t *testing.T) {
	for kind := 1; kind <= 15; kind++ {
		checkRight(t, op.Op{Kind: kind, K: 1, Width: -1}, false)
		checkRight(t, op.Op{Kind: kind, Step: 1, From: -1}, false)
		checkRight(t, op.Op{Kind: kind, Side: 5, K: -5}, false)
		checkRight(t, op.Op{Kind: kind, K: 1, Width: 1, Step: 1, Side: 1, From: 1, To: 1, S: dims{1}}, false)
	}
}

func TestRightOfNoKind(t *testing.T) {
	for _, kind := range noKinds() {
		checkRight(t, op.Op{Kind: kind}, false)
		checkRight(t, op.Op{Kind: kind, S: dims{}}, false)
		for _, ops := range singles() {
			for _, single := range ops {
				checkRight(t, over(op.Op{Kind: kind}, single), false)
			}
		}
	}
}

func TestInsAndParams(t *testing.T) {
	want := map[int][3]int{
		1: {1, 1, 0}, 2: {1, 1, 0}, 3: {1, 1, 0}, 4: {1, 1, 0}, 5: {1, 1, 0}, 6: {2, 2, 0}, 7: {2, 2, 0},
		8: {1, 1, 2}, 9: {1, 1, 1}, 10: {1, 1, 1}, 11: {1, 1, 0}, 12: {1, 1, 0}, 13: {1, 8, 0}, 14: {1, 1, 0}, 15: {1, 1, 0},
	}
	check := func(o op.Op) {
		t.Helper()
		least, most := o.Ins()
		if got := [3]int{least, most, o.Params()}; got != want[o.Kind] {
			t.Errorf("%+v has %v inputs and parameters, not %v", o, got, want[o.Kind])
		}
	}
	for kind, used := range uses() {
		check(op.Op{Kind: kind})
		for _, name := range used {
			for _, single := range singles()[name] {
				check(over(op.Op{Kind: kind}, single))
			}
		}
	}
	for _, s := range samples() {
		check(s.o)
	}
}

// different are ops that all differ, many of them in one field alone, in one side, or in the number of sides; some are not valid.
func different() []op.Op {
	full := op.Op{Kind: 8, K: 7, Width: 3, Step: 4, Side: 1, From: 2, To: 5, S: dims{2, 3}}
	l := []op.Op{{}, full}
	for _, base := range []op.Op{{}, {Kind: 13}, full} {
		for _, ops := range singles() {
			for _, single := range ops {
				l = append(l, over(base, single))
			}
		}
	}
	for _, kind := range append(noKinds()[1:], 1, 2, 3, 4, 5, 6, 7, 8, 9, 10, 11, 12, 14, 15) {
		l = append(l, op.Op{Kind: kind})
	}
	for _, kind := range append(noKinds(), 1, 2, 7, 9, 15) {
		changed := full
		changed.Kind = kind
		l = append(l, changed)
	}
	// The same numbers in other fields.
	l = append(l, op.Op{Kind: 1, K: 2}, op.Op{Kind: 2, K: 1}, op.Op{Width: 2, Step: 3}, op.Op{Width: 3, Step: 2}, op.Op{From: 2, To: 3}, op.Op{From: 3, To: 2}, op.Op{Side: 2, From: 3}, op.Op{Side: 3, From: 2})
	for _, s := range []dims{{1, 2, 3, 4}, {9, 2, 3, 4}, {1, 9, 3, 4}, {1, 2, 9, 4}, {1, 2, 3, 9}, {1, 2, 3}, {2, 3, 4}, {4, 3, 2, 1}, {1, 2, 3, 4, 5}} {
		l = append(l, op.Op{Kind: 15, S: s})
	}
	// The singles give full again where they have its numbers.
	var once []op.Op
	for _, o := range l {
		if !slices.ContainsFunc(once, func(q op.Op) bool { return equal(o, q) }) {
			once = append(once, o)
		}
	}
	return once
}

// equal is what the chapter says of Equal, field by field.
func equal(o, q op.Op) bool {
	return o.Kind == q.Kind && o.K == q.K && o.Width == q.Width && o.Step == q.Step && o.Side == q.Side && o.From == q.From && o.To == q.To && slices.Equal(o.S, q.S)
}

func TestEqual(t *testing.T) {
	l := different()
	if len(l) < 200 {
		t.Fatalf("only %d ops", len(l))
	}
	for i, o := range l {
		again := o
		again.S = slices.Clone(o.S)
		if !o.Equal(again) || !again.Equal(o) || !o.Equal(o) {
			t.Errorf("%+v is not equal to its copy", o)
		}
		for j, q := range l {
			if i != j && o.Equal(q) {
				t.Errorf("%+v is equal to %+v", o, q)
			}
		}
	}
}

func TestEqualOfNilAndEmpty(t *testing.T) {
	for _, o := range []op.Op{{}, {Kind: 1}, {Kind: 15}, {Kind: 16, K: 3, To: 2}} {
		empty, spare := o, o
		empty.S, spare.S = dims{}, dims{5, 6}[:0]
		if !o.Equal(empty) || !empty.Equal(o) || !empty.Equal(spare) || !spare.Equal(o) {
			t.Errorf("%+v: nil and empty sides are not equal", o)
		}
		other := o
		other.S = dims{0}
		if o.Equal(other) || empty.Equal(other) || other.Equal(empty) {
			t.Errorf("%+v: no sides are equal to one", o)
		}
	}
}

// P10.2

func TestShapeAndCost(t *testing.T) {
	heavy := []sample{
		{op.Op{Kind: 10, Step: 1}, []dims{{4, 1, 128, 128}}, []dims{{1, 255, 255}}, dims{4, 128, 128}, 1 << 30},
		{op.Op{Kind: 10, Step: 1}, []dims{{64, 64, 16}}, []dims{{64, 1024}}, dims{64, 1009}, 66125824},
		{op.Op{Kind: 11, Width: 512, Step: 1}, nil, []dims{{64, 1024}}, dims{64, 513}, 16809984},
		{op.Op{Kind: 12, Width: 513, Step: 1}, nil, []dims{{64, 1024}}, dims{64, 512}, 16809984},
	}
	for _, s := range append(samples(), heavy...) {
		if got, err := s.o.Shape(s.p, s.x); err != api.OK || !slices.Equal(got, s.out) {
			t.Errorf("Shape of %+v for %v, %v: %v, error %d, not %v", s.o, s.p, s.x, got, err, s.out)
		}
		if got, err := s.o.Cost(s.p, s.x); err != api.OK || got != s.cost {
			t.Errorf("Cost of %+v for %v, %v: %d, error %d, not %d", s.o, s.p, s.x, got, err, s.cost)
		}
	}
}

// refusesShapes checks that Shape and Cost return this error and nothing else.
func refusesShapes(t *testing.T, o op.Op, p, x []dims, want api.Errno) {
	t.Helper()
	if got, err := o.Shape(p, x); err != want || len(got) != 0 {
		t.Errorf("Shape of %+v for %v, %v: %v, error %d, not %d", o, p, x, got, err, want)
	}
	if got, err := o.Cost(p, x); err != want || got != 0 {
		t.Errorf("Cost of %+v for %v, %v: %d, error %d, not %d", o, p, x, got, err, want)
	}
}

// refusesTensors checks that Go and Back return this error and nothing else, whatever g is.
func refusesTensors(t *testing.T, o op.Op, p, x list, want api.Errno) {
	t.Helper()
	if got, err := o.Go(p, x); err != want || !none(got) {
		t.Errorf("Go of %+v for %v, %v: %v, error %d, not %d", o, shapesOf(p), shapesOf(x), got.S, err, want)
	}
	for _, g := range append(someWrong(), whole(dims{1}, 1), whole(dims{2}, 1, 2), mixed(1, 2, 3), mixed(1, 2, 2, 2)) {
		refusesBack(t, o, p, x, g, want)
	}
	for _, g := range slices.Concat(p, x) {
		refusesBack(t, o, p, x, g, want)
	}
}

func refusesBack(t *testing.T, o op.Op, p, x list, g tensor.Tensor, want api.Errno) {
	t.Helper()
	if got, err := o.Back(p, x, g); err != want || len(got.P) != 0 || len(got.X) != 0 {
		t.Errorf("Back of %+v for %v, %v, g %v: %d and %d gradients, error %d, not %d", o, shapesOf(p), shapesOf(x), g.S, len(got.P), len(got.X), err, want)
	}
}

// refuses checks that all functions return this error, and nothing else, for shapes and for tensors with these shapes.
func refuses(t *testing.T, o op.Op, p, x []dims, want api.Errno) {
	t.Helper()
	refusesShapes(t, o, p, x, want)
	refusesTensors(t, o, filled(1, p), filled(5, x), want)
}

// Shapes that do not go together, and numbers of the op that do not fit: the error of the layer.
func TestErrorsOfTheLayers(t *testing.T) {
	for _, c := range []struct {
		o    op.Op
		p, x []dims
		want api.Errno
	}{
		{op.Op{Kind: 6}, nil, []dims{{4}, {5}}, api.ErrShape},
		{op.Op{Kind: 6}, nil, []dims{{2, 3}, {3, 2}}, api.ErrShape},
		{op.Op{Kind: 7}, nil, []dims{{6}, {2, 3}}, api.ErrShape},
		{op.Op{Kind: 7}, nil, []dims{{2, 3}, {2, 3, 1}}, api.ErrShape},

		{op.Op{Kind: 8}, []dims{{2}, {2}}, []dims{{3}}, api.ErrShape},
		{op.Op{Kind: 8}, []dims{{2, 3, 1}, {2}}, []dims{{3}}, api.ErrShape},
		{op.Op{Kind: 8}, []dims{{6}, {6}}, []dims{{1}}, api.ErrShape},
		{op.Op{Kind: 8}, []dims{{2, 3}, {3}}, []dims{{3}}, api.ErrShape},
		{op.Op{Kind: 8}, []dims{{2, 3}, {1}}, []dims{{3}}, api.ErrShape},
		{op.Op{Kind: 8}, []dims{{2, 3}, {2, 1}}, []dims{{3}}, api.ErrShape},
		{op.Op{Kind: 8}, []dims{{2, 3}, {1, 2}}, []dims{{3}}, api.ErrShape},
		{op.Op{Kind: 8}, []dims{{2, 3}, {2, 3}}, []dims{{3}}, api.ErrShape},
		{op.Op{Kind: 8}, []dims{{2, 3}, {2}}, []dims{{2}}, api.ErrShape},
		{op.Op{Kind: 8}, []dims{{2, 3}, {2}}, []dims{{4}}, api.ErrShape},
		{op.Op{Kind: 8}, []dims{{2, 3}, {2}}, []dims{{2, 3}}, api.ErrShape},
		{op.Op{Kind: 8}, []dims{{2}, {2, 3}}, []dims{{3}}, api.ErrShape},

		{op.Op{Kind: 9}, []dims{{2, 3}}, []dims{{3, 2}}, api.ErrShape},
		{op.Op{Kind: 9}, []dims{{3}}, []dims{{2, 3}}, api.ErrShape},
		{op.Op{Kind: 9}, []dims{{2, 3}}, []dims{{6}}, api.ErrShape},
		{op.Op{Kind: 9}, []dims{{4}}, []dims{{5}}, api.ErrShape},

		{op.Op{Kind: 10, Step: 1}, []dims{{3, 2}}, []dims{{2, 5}}, api.ErrShape},
		{op.Op{Kind: 10, Step: 1}, []dims{{3, 2, 2}}, []dims{{2}}, api.ErrShape},
		{op.Op{Kind: 10, Step: 1}, []dims{{3, 2, 2}}, []dims{{2, 5, 5}}, api.ErrShape},
		{op.Op{Kind: 10, Step: 1}, []dims{{3, 2, 2, 2}}, []dims{{2, 5}}, api.ErrShape},
		{op.Op{Kind: 10, Step: 1}, []dims{{3, 2, 2}}, []dims{{3, 5}}, api.ErrShape},
		{op.Op{Kind: 10, Step: 0}, []dims{{3, 2, 2}}, []dims{{3, 5}}, api.ErrShape},
		{op.Op{Kind: 10, Step: 0}, []dims{{3, 2, 2}}, []dims{{2, 5}}, api.ErrRange},
		{op.Op{Kind: 10, Step: -1}, []dims{{3, 2, 2}}, []dims{{2, 5}}, api.ErrRange},
		{op.Op{Kind: 10, Step: 1025}, []dims{{3, 2, 2}}, []dims{{2, 5}}, api.ErrRange},
		{op.Op{Kind: 10, Step: 1}, []dims{{3, 2, 6}}, []dims{{2, 5}}, api.ErrRange},
		{op.Op{Kind: 10, Step: 1}, []dims{{3, 2, 2, 6}}, []dims{{2, 5, 5}}, api.ErrRange},
		{op.Op{Kind: 10, Step: 1}, []dims{{3, 2, 6, 2}}, []dims{{2, 5, 5}}, api.ErrRange},
		{op.Op{Kind: 10, Step: 1}, []dims{{65, 1, 1}}, []dims{{1, 1024}}, api.ErrShape},
		{op.Op{Kind: 10, Step: 1}, []dims{{2, 1, 1, 1}}, []dims{{1, 256, 256}}, api.ErrShape},

		{op.Op{Kind: 11, Width: 0, Step: 1}, nil, []dims{{3, 4}}, api.ErrRange},
		{op.Op{Kind: 11, Width: 1, Step: 0}, nil, []dims{{3, 4}}, api.ErrRange},
		{op.Op{Kind: 11, Width: 5, Step: 1}, nil, []dims{{3, 4}}, api.ErrRange},
		{op.Op{Kind: 11}, nil, []dims{{3, 4}}, api.ErrRange},
		{op.Op{Kind: 12, Width: -1, Step: 1}, nil, []dims{{4}}, api.ErrRange},
		{op.Op{Kind: 12, Width: 1, Step: 1025}, nil, []dims{{4}}, api.ErrRange},
		{op.Op{Kind: 12, Width: 5, Step: 1}, nil, []dims{{5, 4}}, api.ErrRange},
		{op.Op{Kind: 12, Width: math.MaxInt, Step: math.MinInt}, nil, []dims{{4}}, api.ErrRange},

		{op.Op{Kind: 14}, nil, []dims{{4}}, api.ErrRange},
		{op.Op{Kind: 14, Side: 1, To: 1}, nil, []dims{{4}}, api.ErrRange},
		{op.Op{Kind: 14, Side: -1, To: 1}, nil, []dims{{4}}, api.ErrRange},
		{op.Op{Kind: 14, From: -1, To: 1}, nil, []dims{{4}}, api.ErrRange},
		{op.Op{Kind: 14, From: 1, To: 5}, nil, []dims{{4}}, api.ErrRange},
		{op.Op{Kind: 14, From: 2, To: 2}, nil, []dims{{4}}, api.ErrRange},
		{op.Op{Kind: 14, From: 2, To: 1}, nil, []dims{{4}}, api.ErrRange},
		{op.Op{Kind: 14, Side: 1, From: 1, To: 4}, nil, []dims{{4, 3}}, api.ErrRange},

		{op.Op{Kind: 15}, nil, []dims{{1}}, api.ErrShape},
		{op.Op{Kind: 15, S: dims{}}, nil, []dims{{2, 3}}, api.ErrShape},
		{op.Op{Kind: 15, S: dims{5}}, nil, []dims{{2, 3}}, api.ErrShape},
		{op.Op{Kind: 15, S: dims{7}}, nil, []dims{{2, 3}}, api.ErrShape},
		{op.Op{Kind: 15, S: dims{2, 2}}, nil, []dims{{2, 3}}, api.ErrShape},
		{op.Op{Kind: 15, S: dims{-2, -3}}, nil, []dims{{2, 3}}, api.ErrShape},
		{op.Op{Kind: 15, S: dims{1, 1, 1, 1, 6}}, nil, []dims{{2, 3}}, api.ErrShape},
		{op.Op{Kind: 15, S: dims{65536}}, nil, []dims{{64, 1024}}, api.ErrShape},
		{op.Op{Kind: 15, S: dims{1250}}, nil, []dims{{25, 50}}, api.ErrShape},
	} {
		refuses(t, c.o, c.p, c.x, c.want)
	}
	for _, s := range wrongShapes() {
		refuses(t, op.Op{Kind: 15, S: s}, nil, []dims{{2, 3}}, api.ErrShape)
		refuses(t, op.Op{Kind: 15, S: s}, nil, []dims{{1}}, api.ErrShape)
	}
}

// The first error of joining one after the other, from the first shape on.
func TestErrorsOfJoin(t *testing.T) {
	for _, c := range []struct {
		side int
		x    []dims
		want api.Errno
	}{
		{1, []dims{{3}}, api.ErrRange},
		{-1, []dims{{3}}, api.ErrRange},
		{4, []dims{{2, 1, 3, 2}}, api.ErrRange},
		{math.MaxInt, []dims{{2, 3}}, api.ErrRange},
		{math.MinInt, []dims{{2, 3}}, api.ErrRange},
		{1, []dims{{3}, {3}}, api.ErrRange},
		{-1, []dims{{3}, {3}}, api.ErrRange},
		{0, []dims{{3}, {3, 1}}, api.ErrShape},
		{0, []dims{{2, 3}, {2, 4}}, api.ErrShape},
		{1, []dims{{2, 3}, {3, 3}}, api.ErrShape},
		// Numbers of sides come before the dimension, and this before the other sides.
		{9, []dims{{3}, {3, 1}}, api.ErrShape},
		{9, []dims{{2, 3}, {3, 2}}, api.ErrRange},
		{1, []dims{{3}, {3}, {3, 1}}, api.ErrRange},
		{1, []dims{{2, 3}, {2, 3}, {2}}, api.ErrShape},
		{1, []dims{{2, 3}, {2, 3}, {2, 1}, {1, 3}}, api.ErrShape},
		// The output would be too large, at once or in the end, or in between.
		{0, []dims{{1024}, {1}}, api.ErrShape},
		{0, []dims{{512}, {511}, {1}, {1}}, api.ErrShape},
		{0, []dims{{64, 1024}, {1, 1024}}, api.ErrShape},
		{1, []dims{{1024, 64}, {1024, 1}}, api.ErrShape},
		{0, []dims{{8, 1024}, {8, 1024}, {8, 1024}, {8, 1024}, {8, 1024}, {8, 1024}, {8, 1024}, {9, 1024}}, api.ErrShape},
	} {
		refuses(t, op.Op{Kind: 13, Side: c.side}, nil, c.x, c.want)
	}
}

// A shape that is not valid, among the parameters and among the inputs, comes before an error of the layer.
func TestShapesThatAreNotValid(t *testing.T) {
	for _, s := range samples() {
		if size(s.out...) > 100 {
			continue
		}
		for _, bad := range wrongShapes() {
			for i := range len(s.p) + len(s.x) {
				l := slices.Concat(s.p, s.x)
				l[i] = bad
				refusesShapes(t, s.o, l[:len(s.p)], l[len(s.p):], api.ErrShape)
			}
		}
	}
	for _, bad := range wrongShapes() {
		for _, step := range []int{0, -1, 1025} {
			refusesShapes(t, op.Op{Kind: 10, Step: step}, []dims{bad}, []dims{{2, 5}}, api.ErrShape)
			refusesShapes(t, op.Op{Kind: 10, Step: step}, []dims{{3, 2, 2}}, []dims{bad}, api.ErrShape)
			refusesShapes(t, op.Op{Kind: 11, Width: step, Step: 1}, nil, []dims{bad}, api.ErrShape)
			refusesShapes(t, op.Op{Kind: 12, Width: 1, Step: step}, nil, []dims{bad}, api.ErrShape)
			refusesShapes(t, op.Op{Kind: 14, Side: step, To: 1}, nil, []dims{bad}, api.ErrShape)
		}
		// The first ones alone cannot be joined along this dimension, which layer 9 would report.
		for _, x := range [][]dims{{bad}, {bad, {2}}, {{2}, bad}, {{2}, {2}, bad}, {{2}, {2}, bad, {2}}, {{2}, {2}, {2}, {2}, {2}, {2}, {2}, bad}} {
			refusesShapes(t, op.Op{Kind: 13, Side: 9}, nil, x, api.ErrShape)
			refusesShapes(t, op.Op{Kind: 13, Side: -1}, nil, x, api.ErrShape)
		}
		refusesShapes(t, op.Op{Kind: 15, S: bad}, nil, []dims{bad}, api.ErrShape)
	}
}

// Shapes that would go together if they were valid.
func TestShapesThatOnlyGoTogether(t *testing.T) {
	for _, c := range []struct {
		o    op.Op
		p, x []dims
	}{
		{op.Op{Kind: 1}, nil, []dims{{1025}}},
		{op.Op{Kind: 6}, nil, []dims{{0}, {0}}},
		{op.Op{Kind: 7}, nil, []dims{{1, 1, 1, 1, 1}, {1, 1, 1, 1, 1}}},
		{op.Op{Kind: 8}, []dims{{0, 3}, {0}}, []dims{{3}}},
		{op.Op{Kind: 8}, []dims{{-2, 3}, {-2}}, []dims{{3}}},
		{op.Op{Kind: 8}, []dims{{1025, 3}, {1025}}, []dims{{3}}},
		{op.Op{Kind: 8}, []dims{{65, 1024}, {65}}, []dims{{1024}}},
		{op.Op{Kind: 8}, []dims{{2, 1025}, {2}}, []dims{{1025}}},
		{op.Op{Kind: 8}, []dims{{2, 1250}, {2}}, []dims{{25, 50}}},
		{op.Op{Kind: 9}, []dims{{65, 1024}}, []dims{{65, 1024}}},
		{op.Op{Kind: 10, Step: 1}, []dims{{0, 2, 2}}, []dims{{2, 5}}},
		{op.Op{Kind: 10, Step: 1}, []dims{{3, 2, 1}}, []dims{{2, 1025}}},
		{op.Op{Kind: 11, Width: 1, Step: 1}, nil, []dims{{1025, 1}}},
		{op.Op{Kind: 12, Width: 1, Step: 1}, nil, []dims{{-2, 3}}},
		{op.Op{Kind: 13}, nil, []dims{{0}}},
		{op.Op{Kind: 13}, nil, []dims{{0}, {0}}},
		{op.Op{Kind: 13}, nil, []dims{{-1}, {3}}},
		{op.Op{Kind: 14, To: 1}, nil, []dims{{1025}}},
		{op.Op{Kind: 15, S: dims{1}}, nil, []dims{{-1, -1}}},
		{op.Op{Kind: 15, S: dims{0}}, nil, []dims{{0}}},
		{op.Op{Kind: 15, S: dims{1025}}, nil, []dims{{1025}}},
	} {
		refusesShapes(t, c.o, c.p, c.x, api.ErrShape)
	}
}

// Of tensors that are not valid the layer tells, also behind tensors with another error.
func TestTensorsThatAreNotValid(t *testing.T) {
	for _, s := range samples() {
		if size(s.out...) > 100 {
			continue
		}
		for _, bad := range wrong() {
			for i := range len(s.p) + len(s.x) {
				l := append(filled(1, s.p), filled(5, s.x)...)
				l[i] = bad
				refusesTensors(t, s.o, l[:len(s.p)], l[len(s.p):], api.ErrShape)
			}
		}
	}
	x := whole(dims{2}, 1, 2)
	for _, bad := range wrong() {
		refusesTensors(t, op.Op{Kind: 13, Side: 9}, nil, list{x, x, bad}, api.ErrRange)
		refusesTensors(t, op.Op{Kind: 13, Side: 9}, nil, list{x, bad, x}, api.ErrShape)
		refusesTensors(t, op.Op{Kind: 13, Side: 9}, nil, list{bad}, api.ErrShape)
		refusesTensors(t, op.Op{Kind: 10}, list{bad}, list{mixed(1, 2, 5)}, api.ErrShape)
		refusesTensors(t, op.Op{Kind: 10}, list{mixed(1, 3, 2, 2)}, list{bad}, api.ErrShape)
		refusesTensors(t, op.Op{Kind: 12}, nil, list{bad}, api.ErrShape)
		refusesTensors(t, op.Op{Kind: 14, Side: 9}, nil, list{bad}, api.ErrShape)
	}
}

// times are n of these shapes, one after the other, and from the first on again.
func times(n int, l []dims) []dims {
	if len(l) == 0 {
		l = []dims{{2, 3}}
	}
	return slices.Repeat(l, n/len(l)+1)[:n]
}

// The number of parameters and that of inputs, also where the layer would report another error.
func TestNumbersOfParametersAndInputs(t *testing.T) {
	l := samples()
	for _, o := range []op.Op{{Kind: 10}, {Kind: 11}, {Kind: 12, Width: 9}, {Kind: 13, Side: 9}, {Kind: 14}, {Kind: 14, Side: 9}, {Kind: 15}} {
		l = append(l, sample{o: o, p: []dims{{3, 2, 2}}[:o.Params()], x: []dims{{2, 5}}, out: dims{1}})
	}
	for _, s := range l {
		if size(s.out...) > 100 {
			continue
		}
		least, most := 1, 1
		switch s.o.Kind {
		case 6, 7:
			least, most = 2, 2
		case 13:
			most = 8
		}
		for params := range 5 {
			for ins := range 18 {
				if params == len(s.p) && least <= ins && ins <= most {
					continue
				}
				refuses(t, s.o, times(params, s.p), times(ins, s.x), api.ErrShape)
				refusesShapes(t, s.o, make([]dims, params), make([]dims, ins), api.ErrShape)
				refusesTensors(t, s.o, make(list, params), make(list, ins), api.ErrShape)
			}
		}
	}
	ones := slices.Repeat([]dims{{1}}, 1000)
	for n := 1; n <= api.MaxIns; n++ {
		if s, err := (op.Op{Kind: 13}).Shape(nil, ones[:n]); err != api.OK || !slices.Equal(s, dims{n}) {
			t.Errorf("Shape of joining %d: %v, error %d", n, s, err)
		}
		if out, err := (op.Op{Kind: 13}).Go(nil, filled(1, ones[:n])); err != api.OK || !slices.Equal(out.S, dims{n}) {
			t.Errorf("joining %d: %v, error %d", n, out.S, err)
		}
	}
	for _, n := range []int{0, api.MaxIns + 1, 100, 1000} {
		refuses(t, op.Op{Kind: 13}, nil, ones[:n], api.ErrShape)
	}
}

// An op that is not valid, whatever it is given.
func TestOpsThatAreNotValid(t *testing.T) {
	refusesAll := func(o op.Op, s sample) {
		t.Helper()
		refuses(t, o, s.p, s.x, api.ErrOp)
		refuses(t, o, nil, nil, api.ErrOp)
		refusesShapes(t, o, times(3, s.p), times(9, s.x), api.ErrOp)
		refusesShapes(t, o, make([]dims, len(s.p)), make([]dims, len(s.x)), api.ErrOp)
		refusesTensors(t, o, make(list, len(s.p)), make(list, len(s.x)), api.ErrOp)
	}
	for _, s := range samples() {
		if size(s.out...) > 100 {
			continue
		}
		for name, ops := range singles() {
			if slices.Contains(uses()[s.o.Kind], name) {
				continue
			}
			for _, single := range ops[:3] {
				refusesAll(over(s.o, single), s)
			}
		}
		for _, kind := range noKinds() {
			o := s.o
			o.Kind = kind
			refusesAll(o, s)
			refusesAll(op.Op{Kind: kind}, s)
		}
	}
}

// P10.3

// Literal outputs and gradients of each kind.
func TestGoAndBack(t *testing.T) {
	x3 := whole(dims{3}, 1, 3, 2)
	for _, c := range []struct {
		o        op.Op
		p, x     list
		out, g   tensor.Tensor
		ofP, ofX list
	}{
		{op.Op{Kind: 1}, nil, list{whole(dims{2}, -1, 2)}, whole(dims{2}, 0, 2), whole(dims{2}, 5, 7), nil, list{whole(dims{2}, 0, 7)}},
		{op.Op{Kind: 2, K: half}, nil, list{whole(dims{2}, -2, 4)}, whole(dims{2}, -1, 4), whole(dims{2}, 6, 8), nil, list{whole(dims{2}, 3, 8)}},
		{op.Op{Kind: 2}, nil, list{whole(dims{2}, -2, 4)}, whole(dims{2}, 0, 4), whole(dims{2}, 6, 8), nil, list{whole(dims{2}, 0, 8)}},
		{op.Op{Kind: 3}, nil, list{of(dims{3}, -2*one, half, 7*one)}, of(dims{3}, -one, half, one), whole(dims{3}, 5, 7, 9), nil, list{whole(dims{3}, 0, 7, 0)}},
		{op.Op{Kind: 4}, nil, list{whole(dims{1, 2}, 1, 3)}, of(dims{1, 2}, 3*one/4, one), whole(dims{1, 2}, 8, 8), nil, list{whole(dims{1, 2}, 2, 0)}},
		{op.Op{Kind: 5, K: -2 * one}, nil, list{whole(dims{2}, 1, -3)}, whole(dims{2}, -2, 6), whole(dims{2}, 4, 5), nil, list{whole(dims{2}, -8, -10)}},
		{op.Op{Kind: 6}, nil, list{whole(dims{2}, 1, 2), whole(dims{2}, 10, 20)}, whole(dims{2}, 11, 22), whole(dims{2}, 3, 4), nil, list{whole(dims{2}, 3, 4), whole(dims{2}, 3, 4)}},
		{op.Op{Kind: 7}, nil, list{whole(dims{2}, 2, 3), whole(dims{2}, 5, -7)}, whole(dims{2}, 10, -21), whole(dims{2}, 1, 2), nil, list{whole(dims{2}, 5, -14), whole(dims{2}, 2, 6)}},
		{op.Op{Kind: 7}, nil, list{x3, x3}, whole(dims{3}, 1, 9, 4), whole(dims{3}, 1, 1, 1), nil, list{x3, x3}},
		{op.Op{Kind: 8}, list{whole(dims{2, 2}, 1, 2, 3, 4), whole(dims{2}, 0, 1)}, list{whole(dims{1, 2}, 1, 1)}, whole(dims{2}, 3, 8), whole(dims{2}, 5, 7), list{whole(dims{2, 2}, 5, 5, 7, 7), whole(dims{2}, 5, 7)}, list{whole(dims{1, 2}, 26, 38)}},
		{op.Op{Kind: 9}, list{whole(dims{2}, 1, 2)}, list{whole(dims{2}, 10, 20)}, whole(dims{2}, 11, 22), whole(dims{2}, 3, 4), list{whole(dims{2}, 3, 4)}, list{whole(dims{2}, 3, 4)}},
		{op.Op{Kind: 10, Step: 1}, list{whole(dims{1, 1, 2}, 1, 2)}, list{whole(dims{1, 3}, 1, 1, 3)}, whole(dims{1, 2}, 3, 7), whole(dims{1, 2}, 1, 10), list{whole(dims{1, 1, 2}, 11, 31)}, list{whole(dims{1, 3}, 1, 12, 20)}},
		{op.Op{Kind: 10, Step: 2}, list{whole(dims{1, 1, 1}, 3)}, list{whole(dims{1, 3}, 1, 1, 3)}, whole(dims{1, 2}, 3, 9), whole(dims{1, 2}, 1, 10), list{whole(dims{1, 1, 1}, 31)}, list{whole(dims{1, 3}, 3, 0, 30)}},
		{op.Op{Kind: 11, Width: 2, Step: 1}, nil, list{x3}, whole(dims{2}, 3, 3), whole(dims{2}, 5, 7), nil, list{whole(dims{3}, 0, 12, 0)}},
		{op.Op{Kind: 11, Width: 1, Step: 2}, nil, list{x3}, whole(dims{2}, 1, 2), whole(dims{2}, 5, 7), nil, list{whole(dims{3}, 5, 0, 7)}},
		{op.Op{Kind: 12, Width: 2, Step: 1}, nil, list{whole(dims{3}, 1, 3, 5)}, whole(dims{2}, 2, 4), whole(dims{2}, 4, 8), nil, list{whole(dims{3}, 2, 6, 4)}},
		{op.Op{Kind: 13}, nil, list{whole(dims{1}, 1), whole(dims{1}, 2), whole(dims{1}, 3)}, whole(dims{3}, 1, 2, 3), whole(dims{3}, 4, 5, 6), nil, list{whole(dims{1}, 4), whole(dims{1}, 5), whole(dims{1}, 6)}},
		{op.Op{Kind: 13, Side: 1}, nil, list{whole(dims{2, 1}, 1, 2), whole(dims{2, 1}, 3, 4)}, whole(dims{2, 2}, 1, 3, 2, 4), whole(dims{2, 2}, 5, 6, 7, 8), nil, list{whole(dims{2, 1}, 5, 7), whole(dims{2, 1}, 6, 8)}},
		{op.Op{Kind: 13}, nil, list{x3}, x3, whole(dims{3}, 4, 5, 6), nil, list{whole(dims{3}, 4, 5, 6)}},
		{op.Op{Kind: 14, From: 1, To: 3}, nil, list{whole(dims{4}, 1, 2, 3, 4)}, whole(dims{2}, 2, 3), whole(dims{2}, 5, 7), nil, list{whole(dims{4}, 0, 5, 7, 0)}},
		{op.Op{Kind: 14, Side: 1, To: 1}, nil, list{whole(dims{2, 2}, 1, 2, 3, 4)}, whole(dims{2, 1}, 1, 3), whole(dims{2, 1}, 5, 7), nil, list{whole(dims{2, 2}, 5, 0, 7, 0)}},
		{op.Op{Kind: 15, S: dims{3, 1}}, nil, list{x3}, whole(dims{3, 1}, 1, 3, 2), whole(dims{3, 1}, 4, 5, 6), nil, list{whole(dims{3}, 4, 5, 6)}},
		{op.Op{Kind: 15, S: dims{4}}, nil, list{whole(dims{2, 2}, 1, 2, 3, 4)}, whole(dims{4}, 1, 2, 3, 4), whole(dims{4}, 5, 6, 7, 8), nil, list{whole(dims{2, 2}, 5, 6, 7, 8)}},
	} {
		if got, err := c.o.Go(c.p, c.x); err != api.OK || !same(got, c.out) {
			t.Errorf("Go of %+v for %v, %v: %v, error %d, not %v", c.o, c.p, c.x, got, err, c.out)
		}
		got, err := c.o.Back(c.p, c.x, c.g)
		if err != api.OK || !slices.EqualFunc(got.P, c.ofP, same) || !slices.EqualFunc(got.X, c.ofX, same) {
			t.Errorf("Back of %+v for %v, %v, g %v: %v, error %d, not %v, %v", c.o, c.p, c.x, c.g, got, err, c.ofP, c.ofX)
		}
	}
}

// The same as the layer's own functions, for cells of all magnitudes; the output has the shape that Shape returns.
func TestGoAndBackOfTheLayers(t *testing.T) {
	for i, s := range samples() {
		p, x := filled(i, s.p), filled(i+40, s.x)
		want, err := layerGo(s.o, p, x)
		if err != api.OK || !slices.Equal(want.S, s.out) {
			t.Fatalf("%+v for %v, %v: the layer returns %v, error %d", s.o, s.p, s.x, want.S, err)
		}
		if got, err := s.o.Go(p, x); err != api.OK || !same(got, want) {
			t.Errorf("Go of %+v for %v, %v: %v, error %d, or wrong cells", s.o, s.p, s.x, got.S, err)
		}
		g := mixed(i+80, s.out...)
		ofP, ofX := layerBack(s.o, p, x, g)
		got, err := s.o.Back(p, x, g)
		if err != api.OK || !slices.EqualFunc(got.P, ofP, same) || !slices.EqualFunc(got.X, ofX, same) {
			t.Errorf("Back of %+v for %v, %v: %d and %d gradients, error %d, or wrong cells", s.o, s.p, s.x, len(got.P), len(got.X), err)
		}
		if len(got.P) != len(p) || len(got.X) != len(x) {
			t.Errorf("Back of %+v for %v, %v: %d and %d gradients", s.o, s.p, s.x, len(got.P), len(got.X))
		}
	}
}

// A g that is not valid, or that has another shape than the output, also with as many cells.
func TestBackOfAnotherGradient(t *testing.T) {
	for _, s := range samples() {
		if size(s.out...) > 100 {
			continue
		}
		p, x, n := filled(1, s.p), filled(5, s.x), size(s.out...)
		for _, bad := range wrong() {
			refusesBack(t, s.o, p, x, bad, api.ErrShape)
		}
		for _, cells := range []int{0, n - 1, n + 1, 2 * n} {
			refusesBack(t, s.o, p, x, of(s.out, make([]fix.F, cells)...), api.ErrShape)
		}
		turned := slices.Clone(s.out)
		slices.Reverse(turned)
		for _, other := range append(slices.Concat(s.p, s.x), turned, s.out[:len(s.out)-1], append(slices.Clone(s.out), 1), append(dims{1}, s.out...), append(slices.Clone(s.out), 2), dims{n}, dims{1, n}, dims{n, 1}, dims{1, 1, n}, dims{1, 1, 1, n}, dims{n + 1}, dims{1, 2 * n}, dims{7, 7}) {
			if !slices.Equal(other, s.out) {
				refusesBack(t, s.o, p, x, mixed(3, other...), api.ErrShape)
			}
		}
		if _, err := s.o.Back(p, x, mixed(3, s.out...)); err != api.OK {
			t.Errorf("Back of %+v for %v, %v: error %d", s.o, s.p, s.x, err)
		}
	}
}

// someOps are valid ops of all kinds, with numbers that fit into small shapes, and others.
func someOps() []op.Op {
	l := []op.Op{{Kind: 1}, {Kind: 2, K: half}, {Kind: 3}, {Kind: 4}, {Kind: 5, K: -one}, {Kind: 6}, {Kind: 7}, {Kind: 8}, {Kind: 9}, {Kind: 15}}
	for _, n := range []int{-1, 0, 1, 2, 3} {
		l = append(l, op.Op{Kind: 10, Step: n}, op.Op{Kind: 11, Width: n, Step: 1}, op.Op{Kind: 11, Width: 1, Step: n}, op.Op{Kind: 12, Width: n, Step: 2}, op.Op{Kind: 12, Width: 2, Step: n})
		l = append(l, op.Op{Kind: 14, Side: n, To: 1}, op.Op{Kind: 14, Side: 1, From: n, To: 2}, op.Op{Kind: 14, Side: 1, From: 1, To: n})
	}
	for side := -1; side < 4; side++ {
		l = append(l, op.Op{Kind: 13, Side: side})
	}
	for _, s := range someShapes() {
		l = append(l, op.Op{Kind: 15, S: s})
	}
	return l
}

// someShapes are small shapes, valid and not valid.
func someShapes() []dims {
	return []dims{{1}, {2}, {3}, {1, 2}, {2, 1}, {2, 3}, {2, 2}, {1, 2, 2}, {2, 2, 1}, {2, 1, 2, 2}, {0}, {2, 0}, nil}
}

// tuples are all lists of n of these shapes.
func tuples(n int, l []dims) [][]dims {
	if n == 0 {
		return [][]dims{nil}
	}
	var all [][]dims
	for _, rest := range tuples(n-1, l) {
		for _, s := range l {
			all = append(all, append(slices.Clone(rest), s))
		}
	}
	return all
}

// compare compares all functions with the layer of the kind, the errors too, for the right number of shapes.
func compare(t *testing.T, o op.Op, shapes []dims, params int) {
	t.Helper()
	l := filled(len(shapes), shapes)
	p, x := l[:params], l[params:]
	out, wantErr := layerGo(o, p, x)
	if got, err := o.Go(p, x); err != wantErr || !same(got, out) {
		t.Errorf("Go of %+v for %v: %v, error %d, not %v, error %d", o, shapes, got, err, out, wantErr)
	}
	var want op.Back
	if wantErr == api.OK {
		want.P, want.X = layerBack(o, p, x, mixed(3, out.S...))
	}
	got, err := o.Back(p, x, mixed(3, out.S...))
	if err != wantErr || !slices.EqualFunc(got.P, want.P, same) || !slices.EqualFunc(got.X, want.X, same) {
		t.Errorf("Back of %+v for %v: %v, error %d, not %v, error %d", o, shapes, got, err, want, wantErr)
	}
	for _, g := range append(l, whole(dims{2, 2}, 1, 2, 3, 4), whole(dims{2}, 1, 2), tensor.Tensor{}) {
		if wantErr != api.OK {
			refusesBack(t, o, p, x, g, wantErr)
		} else if !g.Right() || !slices.Equal(g.S, out.S) {
			refusesBack(t, o, p, x, g, api.ErrShape)
		}
	}
	if slices.ContainsFunc(shapes, func(s dims) bool { return !s.Right() }) {
		refusesShapes(t, o, shapes[:params], shapes[params:], api.ErrShape)
		return
	}
	if wantErr != api.OK {
		refusesShapes(t, o, shapes[:params], shapes[params:], wantErr)
		return
	}
	if s, err := o.Shape(shapes[:params], shapes[params:]); err != api.OK || !slices.Equal(s, out.S) {
		t.Errorf("Shape of %+v for %v: %v, error %d, not %v", o, shapes, s, err, out.S)
	}
	if cost, err := o.Cost(shapes[:params], shapes[params:]); err != api.OK || cost != tableCost(o, shapes[:params], out.S) {
		t.Errorf("Cost of %+v for %v: %d, error %d", o, shapes, cost, err)
	}
}

// All ops of someOps, with all lists of small shapes.
func TestAllKindsAreThoseOfTheLayers(t *testing.T) {
	for _, o := range someOps() {
		counts := []int{1}
		params := 0
		switch o.Kind {
		case 6, 7, 9, 10:
			counts = []int{2}
		case 8:
			counts = []int{3}
		case 13:
			counts = []int{1, 2, 3}
		}
		switch o.Kind {
		case 8:
			params = 2
		case 9, 10:
			params = 1
		}
		for _, n := range counts {
			for _, shapes := range tuples(n, someShapes()) {
				compare(t, o, shapes, params)
			}
		}
	}
}

// Memory

// overwrite changes all the memory of a tensor, to the capacities.
func overwrite(g tensor.Tensor) {
	s, cells := g.S[:cap(g.S)], g.Cells[:cap(g.Cells)]
	for i := range s {
		s[i] = -77
	}
	for i := range cells {
		cells[i] = -99
	}
}

// spare returns a copy of a tensor that has spare capacity, filled with other values.
func spare(g tensor.Tensor) tensor.Tensor {
	s := append(g.S.Copy(), 98, 97)
	cells := append(slices.Clone(g.Cells), 95, 94, 93)
	return tensor.Tensor{S: s[:len(g.S)], Cells: cells[:len(g.Cells)]}
}

// intact reports whether what spare returned is as it was; without cells, only its shape is looked at.
func intact(g, original tensor.Tensor) bool {
	if len(original.Cells) > 0 && !slices.Equal(g.Cells[:len(g.Cells)+3], append(slices.Clone(original.Cells), 95, 94, 93)) {
		return false
	}
	return slices.Equal(g.S[:len(g.S)+2], append(original.S.Copy(), 98, 97))
}

// arguments are an op and what its functions take. The lists have spare capacity.
type arguments struct {
	o      op.Op
	p, x   list
	sp, sx []dims
	g      tensor.Tensor
}

// argumentsOf are arguments for a sample. The lists hold two more elements behind their ends.
func argumentsOf(seed int, s sample) arguments {
	a := arguments{o: s.o, p: filled(seed, s.p), x: filled(seed+20, s.x), g: mixed(seed+40, s.out...)}
	more := list{whole(dims{2}, 5, 6), whole(dims{1, 1}, 7)}
	a.p, a.x = append(a.p, more...), append(a.x, more...)
	a.sp, a.sx = shapesOf(a.p), shapesOf(a.x)
	p, x := len(s.p), len(s.x)
	a.p, a.x, a.sp, a.sx = a.p[:p], a.x[:x], a.sp[:p], a.sx[:x]
	return a
}

// each calls a function for each tensor and each shape of the arguments, also for those behind the ends of the lists, in an order that is always the same.
func (a *arguments) each(do func(tensor.Tensor) tensor.Tensor) {
	for _, l := range []list{a.p[:len(a.p)+2], a.x[:len(a.x)+2]} {
		for i := range l {
			l[i] = do(l[i])
		}
	}
	for _, l := range [][]dims{a.sp[:len(a.sp)+2], a.sx[:len(a.sx)+2]} {
		for i := range l {
			l[i] = do(tensor.Tensor{S: l[i]}).S
		}
	}
	a.o.S = do(tensor.Tensor{S: a.o.S}).S
	a.g = do(a.g)
}

// all are all tensors and shapes of the arguments; a shape is one of a tensor without cells.
func (a *arguments) all() list {
	var l list
	a.each(func(x tensor.Tensor) tensor.Tensor {
		l = append(l, x)
		return x
	})
	return l
}

// results returns what all functions return; a shape is one of a tensor without cells.
func (a *arguments) results(t *testing.T) list {
	t.Helper()
	s, shapeErr := a.o.Shape(a.sp, a.sx)
	_, costErr := a.o.Cost(a.sp, a.sx)
	out, outErr := a.o.Go(a.p, a.x)
	back, backErr := a.o.Back(a.p, a.x, a.g)
	if shapeErr != api.OK || costErr != api.OK || outErr != api.OK || backErr != api.OK || !a.o.Equal(a.o) || !a.o.Right() {
		t.Fatalf("%+v: errors %d, %d, %d, %d", a.o, shapeErr, costErr, outErr, backErr)
	}
	l := slices.Concat(list{of(s), out}, back.P, back.X)
	if len(l) != 2+len(a.p)+len(a.x) {
		t.Fatalf("%+v: %d results", a.o, len(l))
	}
	return l
}

// Neither the arguments nor their spare memory are changed, and no result shares it, or that of another result.
func TestArgumentsStayAsTheyAre(t *testing.T) {
	for i, s := range samples() {
		if size(s.out...) > 1000 {
			continue
		}
		original, a := argumentsOf(i, s), argumentsOf(i, s)
		a.each(func(x tensor.Tensor) tensor.Tensor { return spare(x) })
		l := append(a.results(t), a.results(t)...)
		var kept list
		for _, x := range l {
			kept = append(kept, x.Copy())
		}
		for i, r := range l {
			overwrite(r)
			for j := i + 1; j < len(l); j++ {
				if !same(l[j], kept[j]) {
					t.Fatalf("%+v: the results %d and %d share their memory", s.o, i, j)
				}
			}
		}
		want := original.all()
		for i, x := range a.all() {
			if !intact(x, want[i]) {
				t.Errorf("%+v: argument %d was changed, or shares its memory: %v", s.o, i, x)
			}
		}
	}
}

// A later call, or a change of the arguments, leaves earlier results as they are.
func TestArgumentsAreNotRetained(t *testing.T) {
	for i, s := range samples() {
		if size(s.out...) > 1000 {
			continue
		}
		a := argumentsOf(i, s)
		a.each(tensor.Tensor.Copy)
		l := a.results(t)
		var kept list
		for _, x := range l {
			kept = append(kept, x.Copy())
		}
		a.each(func(x tensor.Tensor) tensor.Tensor {
			overwrite(x)
			return x
		})
		other := argumentsOf(i+1, s)
		other.results(t)
		for j := range l {
			if !same(l[j], kept[j]) {
				t.Errorf("%+v: result %d retains an argument: %v", s.o, j, l[j])
			}
		}
	}
}

// The lists of the gradients are new memory.
func TestListsOfGradients(t *testing.T) {
	for i, s := range samples() {
		if size(s.out...) > 1000 {
			continue
		}
		a := argumentsOf(i, s)
		first, _ := a.o.Back(a.p, a.x, a.g)
		second, _ := a.o.Back(a.p, a.x, a.g)
		clear(first.P[:cap(first.P)])
		if slices.ContainsFunc(slices.Concat(first.X, second.P, second.X), none) {
			t.Errorf("%+v: a list shares the memory of the first gradients of parameters", s.o)
		}
		clear(first.X[:cap(first.X)])
		if slices.ContainsFunc(slices.Concat(second.P, second.X), none) {
			t.Errorf("%+v: a list shares the memory of the first gradients of inputs", s.o)
		}
		if slices.ContainsFunc(slices.Concat(a.p[:len(a.p)+2], a.x[:len(a.x)+2]), none) {
			t.Errorf("%+v: a list shares the memory of an argument", s.o)
		}
	}
}

// A call that fails changes no argument.
func TestFailuresChangeNothing(t *testing.T) {
	for i, s := range samples() {
		if size(s.out...) > 100 {
			continue
		}
		original, a := argumentsOf(i, s), argumentsOf(i, s)
		a.each(func(x tensor.Tensor) tensor.Tensor { return spare(x) })
		for _, o := range append(someOps(), op.Op{}, op.Op{Kind: 16}, op.Op{Kind: 1, S: a.o.S}, op.Op{Kind: 15, S: a.o.S}) {
			o.Shape(a.sp, a.sx)
			o.Cost(a.sp, a.sx)
			o.Go(a.p, a.x)
			o.Back(a.p, a.x, a.g)
		}
		for _, bad := range someWrong() {
			a.o.Back(a.p, a.x, bad)
			a.o.Go(a.p, list{bad})
			a.o.Go(list{bad}, a.x)
		}
		want := original.all()
		for j, x := range a.all() {
			if !intact(x, want[j]) {
				t.Errorf("%+v: argument %d was changed: %v", s.o, j, x)
			}
		}
	}
}

// P1 of DOC.md: no arguments make a function panic.
func TestAllArguments(t *testing.T) {
	ops := append(someOps(), different()...)
	for kind := -1; kind <= 17; kind++ {
		for name, singles := range singles() {
			for _, single := range singles {
				o := over(op.Op{Kind: kind}, single)
				ops = append(ops, o)
				if name == "Width" || name == "Side" {
					o.Step, o.To = 1, 1
					ops = append(ops, o)
				}
			}
		}
	}
	tensors := append(someWrong(), mixed(1, 2, 3), mixed(2, 2), mixed(3, 3, 2, 2), mixed(4, 1024), mixed(5, 1, 1, 1, 1), mixed(6, 2, 1, 3, 2), whole(dims{math.MaxInt, math.MaxInt}, 1), whole(dims{1025}, 1), whole(dims{0, 0}))
	for i, o := range ops {
		o.Ins()
		o.Params()
		o.Equal(ops[(i*7+3)%len(ops)])
		for j := range tensors {
			shifted := append(slices.Clone(tensors[j:]), tensors[:j]...)
			for params := range 4 {
				for _, ins := range []int{0, 1, 2, 3, 9} {
					p, x := shifted[:params], shifted[params:params+ins]
					o.Shape(shapesOf(p), shapesOf(x))
					o.Cost(shapesOf(p), shapesOf(x))
					out, _ := o.Go(p, x)
					o.Back(p, x, out)
					o.Back(p, x, shifted[0])
				}
			}
		}
	}
}
