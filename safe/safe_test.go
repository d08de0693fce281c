package safe_test

import (
	"math"
	"math/big"
	"math/rand/v2"
	"slices"
	"testing"

	"athanor/api"
	"athanor/safe"
)

const most = 1 << 40 // MaxCost, as the document gives it

// edges are the integers around each place where a computation changes its way: 0, the limit, its root, the ends of int.
func edges() []int {
	l := []int{0, 1, 2, 3, 10, 15, 1023, 1024, 46340, 46341, 3037000499, 3037000500}
	for _, bit := range []int{20, 21, 31, 32, 39, 40, 41, 53, 62} {
		p := 1 << bit
		l = append(l, p-1, p, p+1)
	}
	l = append(l, math.MaxInt, math.MaxInt-1)
	for _, n := range l[:len(l):len(l)] {
		l = append(l, -n)
	}
	return append(l, math.MinInt)
}

// lists are all lists of at most three edges, and pseudorandom longer ones, mostly of numbers.
func lists() [][]int {
	l := [][]int{nil}
	for _, a := range edges() {
		l = append(l, []int{a})
		for _, b := range edges() {
			l = append(l, []int{a, b})
			for _, c := range edges() {
				l = append(l, []int{a, b, c})
			}
		}
	}
	r := rand.New(rand.NewPCG(1, 2))
	for range 20000 {
		list := make([]int, r.IntN(12))
		widest := 1 + r.IntN(42)
		for i := range list {
			list[i] = int(r.Uint64() >> (64 - r.IntN(widest)))
		}
		l = append(l, list)
	}
	return l
}

// expected is what the document says of a result that is computed from l.
func expected(l []int, result *big.Int) (int, api.Errno) {
	for _, n := range l {
		if n < 0 || n > most {
			return 0, api.ErrRange
		}
	}
	if result.Cmp(big.NewInt(most)) > 0 {
		return 0, api.ErrBig
	}
	return int(result.Int64()), api.OK
}

// folded is the result of an operation on all elements, one after the other, with exact arithmetic.
func folded(first int64, l []int, step func(z, x, y *big.Int) *big.Int) *big.Int {
	result := big.NewInt(first)
	for _, n := range l {
		step(result, result, big.NewInt(int64(n)))
	}
	return result
}

type listCase struct {
	l    []int
	want int
	err  api.Errno
}

func checkLists(t *testing.T, name string, f func(l ...int) (int, api.Errno), cases []listCase) {
	t.Helper()
	for _, c := range cases {
		if got, err := f(c.l...); got != c.want || err != c.err {
			t.Errorf("%s(%v): %d, error %d, not %d, error %d", name, c.l, got, err, c.want, c.err)
		}
	}
}

// P2.1

func TestRight(t *testing.T) {
	for _, c := range []struct {
		n    int
		want bool
	}{
		{0, true}, {1, true}, {1024, true}, {most - 1, true}, {most, true},
		{-1, false}, {-1024, false}, {-most, false}, {math.MinInt, false},
		{most + 1, false}, {2 * most, false}, {math.MaxInt, false},
	} {
		if got := safe.Right(c.n); got != c.want {
			t.Errorf("Right(%d): %t", c.n, got)
		}
	}
}

func TestAdd(t *testing.T) {
	checkLists(t, "Add", safe.Add, []listCase{
		{nil, 0, api.OK}, {[]int{}, 0, api.OK}, {[]int{0}, 0, api.OK}, {[]int{7}, 7, api.OK}, {[]int{1, 2, 3}, 6, api.OK}, {[]int{0, 5, 0}, 5, api.OK},
		// At the limit, and one beyond it.
		{[]int{most}, most, api.OK}, {[]int{most, 0}, most, api.OK}, {[]int{0, most}, most, api.OK}, {[]int{most - 1, 1}, most, api.OK}, {[]int{most / 2, most / 2}, most, api.OK},
		{[]int{most, 1}, 0, api.ErrBig}, {[]int{1, most}, 0, api.ErrBig}, {[]int{most - 1, 1, 1}, 0, api.ErrBig}, {[]int{most, most}, 0, api.ErrBig}, {[]int{most, 1, 0}, 0, api.ErrBig},
		// Not a number, wherever it stands.
		{[]int{-1}, 0, api.ErrRange}, {[]int{most + 1}, 0, api.ErrRange}, {[]int{1, -1}, 0, api.ErrRange}, {[]int{-1, 1}, 0, api.ErrRange}, {[]int{5, -3, 2}, 0, api.ErrRange},
		{[]int{math.MaxInt}, 0, api.ErrRange}, {[]int{math.MinInt}, 0, api.ErrRange}, {[]int{math.MaxInt, math.MaxInt, 2}, 0, api.ErrRange}, {[]int{math.MinInt, math.MinInt}, 0, api.ErrRange},
		// ErrRange before ErrBig.
		{[]int{most, most, -1}, 0, api.ErrRange}, {[]int{most, most + 1}, 0, api.ErrRange}, {[]int{-1, most, most}, 0, api.ErrRange},
	})
	for _, l := range lists() {
		want, wantErr := expected(l, folded(0, l, (*big.Int).Add))
		if got, err := safe.Add(l...); got != want || err != wantErr {
			t.Fatalf("Add(%v): %d, error %d, not %d, error %d", l, got, err, want, wantErr)
		}
	}
}

// 2^24 elements of 2^40 have the sum 2^64, which an int would take for 0.
func TestAddOfManyElements(t *testing.T) {
	l := slices.Repeat([]int{most}, 1<<24)
	if got, err := safe.Add(l...); got != 0 || err != api.ErrBig {
		t.Errorf("Add of 2^24 limits: %d, error %d", got, err)
	}
}

func TestMul(t *testing.T) {
	checkLists(t, "Mul", safe.Mul, []listCase{
		{nil, 1, api.OK}, {[]int{}, 1, api.OK}, {[]int{1}, 1, api.OK}, {[]int{7}, 7, api.OK}, {[]int{3, 4}, 12, api.OK}, {[]int{2, 3, 5, 7}, 210, api.OK},
		// At the limit, and beyond it.
		{[]int{most}, most, api.OK}, {[]int{most, 1}, most, api.OK}, {[]int{1, most}, most, api.OK}, {[]int{1 << 20, 1 << 20}, most, api.OK}, {[]int{1024, 1024, 1024, 1024}, most, api.OK},
		{[]int{1 << 20, 1<<20 + 1}, 0, api.ErrBig}, {[]int{most, 2}, 0, api.ErrBig}, {[]int{2, most}, 0, api.ErrBig}, {[]int{most, most}, 0, api.ErrBig}, {[]int{1 << 20, 1 << 20, 2, 1}, 0, api.ErrBig},
		{[]int{1 << 20, 1<<20 - 1}, most - 1<<20, api.OK},
		// 2^40 + 1 is the least product beyond the limit.
		{[]int{257, 4278255361}, 0, api.ErrBig}, {[]int{4278255361, 257}, 0, api.ErrBig}, {[]int{257, 4278255360}, most - 256, api.OK},
		// Products that an int would take for 0, for 1, or for something negative.
		{[]int{1 << 32, 1 << 32}, 0, api.ErrBig}, {[]int{most, 1 << 24}, 0, api.ErrBig}, {[]int{1 << 32, 1 << 31}, 0, api.ErrBig}, {[]int{641, 6700417, 4294967295}, 0, api.ErrBig},
		// A factor 0, wherever it stands.
		{[]int{0}, 0, api.OK}, {[]int{0, 0}, 0, api.OK}, {[]int{0, most}, 0, api.OK}, {[]int{most, 0}, 0, api.OK}, {[]int{most, most, 0}, 0, api.OK}, {[]int{0, most, most}, 0, api.OK}, {[]int{most, 0, most}, 0, api.OK},
		// Not a number, wherever it stands.
		{[]int{-1}, 0, api.ErrRange}, {[]int{most + 1}, 0, api.ErrRange}, {[]int{-2, -3}, 0, api.ErrRange}, {[]int{math.MaxInt}, 0, api.ErrRange}, {[]int{math.MinInt}, 0, api.ErrRange}, {[]int{1, -1, 1}, 0, api.ErrRange},
		// ErrRange before ErrBig, and in spite of a factor 0.
		{[]int{most, most, -1}, 0, api.ErrRange}, {[]int{-1, most, most}, 0, api.ErrRange}, {[]int{0, -1}, 0, api.ErrRange}, {[]int{-1, 0}, 0, api.ErrRange}, {[]int{0, most + 1}, 0, api.ErrRange},
	})
	for _, l := range lists() {
		want, wantErr := expected(l, folded(1, l, (*big.Int).Mul))
		if got, err := safe.Mul(l...); got != want || err != wantErr {
			t.Fatalf("Mul(%v): %d, error %d, not %d, error %d", l, got, err, want, wantErr)
		}
	}
}

// P2.2

func TestMax(t *testing.T) {
	for _, c := range []struct {
		l    []int
		want int
	}{
		{nil, 0}, {[]int{}, 0}, {[]int{0}, 0}, {[]int{7}, 7}, {[]int{3, 5, 4}, 5}, {[]int{5, 3, 4}, 5}, {[]int{3, 4, 5}, 5}, {[]int{5, 5}, 5},
		{[]int{-1}, 0}, {[]int{-3, -5, -4}, 0}, {[]int{math.MinInt}, 0}, {[]int{-3, 0}, 0}, {[]int{-3, 2, -1}, 2}, {[]int{1, math.MinInt}, 1},
		// The elements need not be numbers.
		{[]int{most}, most}, {[]int{most, most + 1}, most + 1}, {[]int{math.MaxInt, most}, math.MaxInt}, {[]int{math.MinInt, math.MaxInt}, math.MaxInt},
	} {
		if got := safe.Max(c.l...); got != c.want {
			t.Errorf("Max(%v): %d, not %d", c.l, got, c.want)
		}
	}
}

func TestSub(t *testing.T) {
	for _, c := range []struct {
		a, b, want int
		err        api.Errno
	}{
		{5, 3, 2, api.OK}, {3, 3, 0, api.OK}, {0, 0, 0, api.OK}, {3, 0, 3, api.OK}, {1, 0, 1, api.OK},
		{most, 0, most, api.OK}, {most, most, 0, api.OK}, {most, 1, most - 1, api.OK}, {most, most - 1, 1, api.OK},
		{3, 4, 0, api.ErrBig}, {0, 1, 0, api.ErrBig}, {0, most, 0, api.ErrBig}, {most - 1, most, 0, api.ErrBig},
		{-1, 0, 0, api.ErrRange}, {0, -1, 0, api.ErrRange}, {3, -5, 0, api.ErrRange}, {-3, -5, 0, api.ErrRange}, {-1, -1, 0, api.ErrRange},
		{most + 1, 0, 0, api.ErrRange}, {most + 1, most + 1, 0, api.ErrRange}, {most + 1, 1, 0, api.ErrRange},
		{math.MinInt, math.MaxInt, 0, api.ErrRange}, {math.MaxInt, math.MinInt, 0, api.ErrRange}, {math.MaxInt, math.MaxInt, 0, api.ErrRange},
		// ErrRange before ErrBig.
		{-5, 3, 0, api.ErrRange}, {0, most + 1, 0, api.ErrRange}, {most, most + 1, 0, api.ErrRange}, {5, math.MaxInt, 0, api.ErrRange},
	} {
		if got, err := safe.Sub(c.a, c.b); got != c.want || err != c.err {
			t.Errorf("Sub(%d, %d): %d, error %d, not %d, error %d", c.a, c.b, got, err, c.want, c.err)
		}
	}
}

func TestShare(t *testing.T) {
	for _, c := range []struct {
		total, parts, each, rest int
		err                      api.Errno
	}{
		{17, 5, 3, 2, api.OK}, {15, 5, 3, 0, api.OK}, {4, 5, 0, 4, api.OK}, {5, 5, 1, 0, api.OK}, {19, 5, 3, 4, api.OK}, {7, 1, 7, 0, api.OK},
		{0, 1, 0, 0, api.OK}, {0, 5, 0, 0, api.OK}, {0, most, 0, 0, api.OK}, {1, most, 0, 1, api.OK},
		{most, 1, most, 0, api.OK}, {most, most, 1, 0, api.OK}, {most, most - 1, 1, 1, api.OK}, {most - 1, most, 0, most - 1, api.OK}, {most, 3, 366503875925, 1, api.OK},
		{17, 0, 0, 0, api.ErrRange}, {0, 0, 0, 0, api.ErrRange}, {17, -1, 0, 0, api.ErrRange}, {17, most + 1, 0, 0, api.ErrRange}, {17, math.MinInt, 0, 0, api.ErrRange}, {17, math.MaxInt, 0, 0, api.ErrRange},
		{-1, 5, 0, 0, api.ErrRange}, {most + 1, 5, 0, 0, api.ErrRange}, {math.MinInt, -1, 0, 0, api.ErrRange}, {math.MaxInt, 1, 0, 0, api.ErrRange},
		{-1, 0, 0, 0, api.ErrRange}, {most + 1, most + 1, 0, 0, api.ErrRange},
	} {
		if each, rest, err := safe.Share(c.total, c.parts); each != c.each || rest != c.rest || err != c.err {
			t.Errorf("Share(%d, %d): %d, %d, error %d, not %d, %d, error %d", c.total, c.parts, each, rest, err, c.each, c.rest, c.err)
		}
	}
}

func TestIsqrt(t *testing.T) {
	for _, c := range []struct{ n, want int }{
		{0, 0}, {1, 1}, {2, 1}, {3, 1}, {4, 2}, {8, 2}, {9, 3}, {15, 3}, {16, 4}, {99, 9}, {100, 10},
		{most - 1, 1<<20 - 1}, {most, 1 << 20}, {most + 1, 1 << 20},
		// The greatest square of an int is that of 3037000499.
		{3037000499*3037000499 - 1, 3037000498}, {3037000499 * 3037000499, 3037000499}, {math.MaxInt, 3037000499}, {1 << 62, 1 << 31}, {1<<62 - 1, 1<<31 - 1},
		{-1, 0}, {-5, 0}, {-16, 0}, {-most, 0}, {math.MinInt, 0}, {math.MinInt + 1, 0},
	} {
		if got := safe.Isqrt(c.n); got != c.want {
			t.Errorf("Isqrt(%d): %d, not %d", c.n, got, c.want)
		}
	}
	for n := range 1 << 16 {
		checkRoot(t, n)
	}
	r := rand.New(rand.NewPCG(3, 4))
	for range 20000 {
		root := 1 + r.IntN(3037000499)
		checkRoot(t, root*root-1)
		checkRoot(t, root*root)
		checkRoot(t, int(r.Uint64()>>(1+r.IntN(63))))
	}
}

// checkRoot compares the root of an integer from 0 on with the exact one.
func checkRoot(t *testing.T, n int) {
	t.Helper()
	want := new(big.Int).Sqrt(big.NewInt(int64(n))).Int64()
	if got := safe.Isqrt(n); int64(got) != want {
		t.Fatalf("Isqrt(%d): %d, not %d", n, got, want)
	}
}

func TestArgumentsStayAsTheyAre(t *testing.T) {
	for _, l := range [][]int{{3, 0, 2, 9, 7}, {2, 5, 3, 9, 7}, {most, most, 5, 9, 7}, {-1, 4, most, 9, 7}} {
		was := slices.Clone(l)
		safe.Add(l[:3]...)
		safe.Mul(l[:3]...)
		safe.Max(l[:3]...)
		if !slices.Equal(l, was) {
			t.Errorf("%v, not %v", l, was)
		}
	}
}

// The examples of the chapter.
func TestExamples(t *testing.T) {
	if got, err := safe.Add(1, 2, 3); got != 6 || err != api.OK {
		t.Errorf("1 + 2 + 3: %d, error %d", got, err)
	}
	if got, err := safe.Mul(1024, 1024, 1024, 1024); got != 1<<40 || err != api.OK {
		t.Errorf("1024 to the 4th: %d, error %d", got, err)
	}
	if got := safe.Isqrt(15); got != 3 {
		t.Errorf("the root of 15: %d", got)
	}
}

// P1 of DOC.md: no arguments make a function panic.
func TestAllArguments(t *testing.T) {
	for _, a := range edges() {
		safe.Right(a)
		safe.Isqrt(a)
		for _, b := range edges() {
			safe.Add(a, b)
			safe.Mul(a, b)
			safe.Max(a, b)
			safe.Sub(a, b)
			safe.Share(a, b)
		}
	}
}
