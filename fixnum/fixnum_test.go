package fixnum_test

import (
	"math"
	"math/big"
	"slices"
	"testing"

	"lombard/api"
	"lombard/fixnum"
)

type wide = fixnum.Wide

// words are numbers around the places where halves, words and signs end.
var words = []uint64{
	0, 1, 2, 3, 7, 10, 1<<31 - 1, 1 << 31, 1<<32 - 1, 1 << 32, 1<<32 + 1, 0x123456789abcdef0,
	1<<62 - 1, 1 << 62, 1<<63 - 1, 1 << 63, 1<<63 + 1, 0xfffffffe00000001, 0xffffffff00000000, math.MaxUint64 - 1, math.MaxUint64,
}

// ints are words with both signs.
var ints = []int{
	math.MinInt, math.MinInt + 1, -1 << 62, -1<<62 + 1, -1<<32 - 1, -1 << 32, -1 << 31, -1000003, -10, -7, -3, -2, -1,
	0, 1, 2, 3, 7, 10, 1000003, 1 << 31, 1<<32 - 1, 1 << 32, 1<<32 + 1, 1<<62 - 1, 1 << 62, math.MaxInt - 1, math.MaxInt,
}

// ways are all ways to round.
var ways = []int{api.Floor, api.Ceil, api.Zero, api.Even}

func wides() []wide {
	var l []wide
	for _, hi := range words {
		for _, lo := range words {
			l = append(l, wide{Hi: hi, Lo: lo})
		}
	}
	return l
}

func bigWord(n uint64) *big.Int { return new(big.Int).SetUint64(n) }

func bigInt(n int) *big.Int { return big.NewInt(int64(n)) }

func bigWide(w wide) *big.Int {
	n := new(big.Int).Lsh(bigWord(w.Hi), 64)
	return n.Add(n, bigWord(w.Lo))
}

// fitted tells a number as an int, or that it has no place there.
func fitted(n *big.Int) (int, api.Errno) {
	if !n.IsInt64() {
		return 0, api.ErrOver
	}
	return int(n.Int64()), api.OK
}

// rounded tells a divided by b, taken of the two whole numbers beside it by the document's words.
func rounded(a, b *big.Int, how int) *big.Int {
	exact := new(big.Rat).SetFrac(a, b)
	// The divisor of a Rat is above 0, so that Div rounds down.
	floor := new(big.Int).Div(exact.Num(), exact.Denom())
	if exact.IsInt() {
		return floor
	}
	ceil := new(big.Int).Add(floor, big.NewInt(1))
	up := false
	switch how {
	case api.Ceil:
		up = true
	case api.Zero:
		up = exact.Sign() < 0
	case api.Even:
		part := new(big.Rat).Sub(exact, new(big.Rat).SetInt(floor))
		c := part.Cmp(big.NewRat(1, 2))
		up = c > 0 || c == 0 && floor.Bit(0) == 1
	}
	if up {
		return ceil
	}
	return floor
}

// P1.1

func TestMul(t *testing.T) {
	for _, x := range []struct {
		a, b uint64
		want wide
	}{
		{0, math.MaxUint64, wide{}},
		{7, 3, wide{Lo: 21}},
		{1 << 32, 1 << 32, wide{Hi: 1}},
		{1<<32 - 1, 1<<32 - 1, wide{Lo: 0xfffffffe00000001}},
		{math.MaxUint64, math.MaxUint64, wide{Hi: math.MaxUint64 - 1, Lo: 1}},
	} {
		if w := fixnum.Mul(x.a, x.b); w != x.want {
			t.Errorf("Mul(%d, %d) = %v, want %v", x.a, x.b, w, x.want)
		}
	}
	for _, a := range words {
		for _, b := range words {
			want := new(big.Int).Mul(bigWord(a), bigWord(b))
			if w := fixnum.Mul(a, b); bigWide(w).Cmp(want) != 0 {
				t.Errorf("Mul(%d, %d) = %v, want %v", a, b, w, want)
			}
		}
	}
}

func TestLess(t *testing.T) {
	for _, x := range []struct {
		w, x wide
		want bool
	}{
		{wide{}, wide{}, false},
		{wide{Lo: 1}, wide{Lo: 2}, true},
		{wide{Lo: 2}, wide{Lo: 1}, false},
		{wide{Lo: math.MaxUint64}, wide{Hi: 1}, true},
		{wide{Hi: 1}, wide{Lo: math.MaxUint64}, false},
		{wide{Hi: 3, Lo: 3}, wide{Hi: 3, Lo: 3}, false},
	} {
		if got := x.w.Less(x.x); got != x.want {
			t.Errorf("%v.Less(%v) = %v", x.w, x.x, got)
		}
	}
	for _, w := range wides() {
		for _, x := range wides() {
			if got, want := w.Less(x), bigWide(w).Cmp(bigWide(x)) < 0; got != want {
				t.Fatalf("%v.Less(%v) = %v", w, x, got)
			}
		}
	}
}

func TestAdd(t *testing.T) {
	most := wide{Hi: math.MaxUint64, Lo: math.MaxUint64}
	for _, x := range []struct {
		w, x, want wide
		ok         bool
	}{
		{wide{Lo: 2}, wide{Lo: 3}, wide{Lo: 5}, true},
		{wide{Lo: math.MaxUint64}, wide{Lo: 1}, wide{Hi: 1}, true},
		{most, wide{}, most, true},
		{most, wide{Lo: 1}, wide{}, false},
		{wide{Hi: math.MaxUint64, Lo: 5}, wide{Lo: math.MaxUint64 - 5}, most, true},
		{wide{Hi: math.MaxUint64, Lo: 5}, wide{Lo: math.MaxUint64 - 4}, wide{}, false},
		{wide{Hi: 1 << 63, Lo: 9}, wide{Hi: 1 << 63, Lo: 9}, wide{}, false},
		{most, most, wide{}, false},
	} {
		if got, ok := x.w.Add(x.x); got != x.want || ok != x.ok {
			t.Errorf("%v.Add(%v) = %v, %v", x.w, x.x, got, ok)
		}
	}
	end := new(big.Int).Lsh(big.NewInt(1), 128)
	for _, w := range wides() {
		for _, x := range wides() {
			sum := new(big.Int).Add(bigWide(w), bigWide(x))
			fits := sum.Cmp(end) < 0
			if !fits {
				sum.SetInt64(0)
			}
			if got, ok := w.Add(x); ok != fits || bigWide(got).Cmp(sum) != 0 {
				t.Fatalf("%v.Add(%v) = %v, %v", w, x, got, ok)
			}
		}
	}
}

func TestSub(t *testing.T) {
	for _, x := range []struct {
		w, x, want wide
		ok         bool
	}{
		{wide{Lo: 5}, wide{Lo: 3}, wide{Lo: 2}, true},
		{wide{Lo: 3}, wide{Lo: 3}, wide{}, true},
		{wide{Lo: 3}, wide{Lo: 4}, wide{}, false},
		{wide{Hi: 1}, wide{Lo: 1}, wide{Lo: math.MaxUint64}, true},
		{wide{Lo: math.MaxUint64}, wide{Hi: 1}, wide{}, false},
		{wide{Hi: 7, Lo: 1}, wide{Hi: 7, Lo: 2}, wide{}, false},
	} {
		if got, ok := x.w.Sub(x.x); got != x.want || ok != x.ok {
			t.Errorf("%v.Sub(%v) = %v, %v", x.w, x.x, got, ok)
		}
	}
	for _, w := range wides() {
		for _, x := range wides() {
			rest := new(big.Int).Sub(bigWide(w), bigWide(x))
			fits := rest.Sign() >= 0
			if !fits {
				rest.SetInt64(0)
			}
			if got, ok := w.Sub(x); ok != fits || bigWide(got).Cmp(rest) != 0 {
				t.Fatalf("%v.Sub(%v) = %v, %v", w, x, got, ok)
			}
		}
	}
}

func TestDiv(t *testing.T) {
	most := wide{Hi: math.MaxUint64, Lo: math.MaxUint64}
	for _, x := range []struct {
		w    wide
		d    uint64
		want wide
		rest uint64
	}{
		{wide{Lo: 22}, 7, wide{Lo: 3}, 1},
		{wide{Hi: 1}, 2, wide{Lo: 1 << 63}, 0},
		{wide{}, 9, wide{}, 0},
		{most, 1, most, 0},
		{most, math.MaxUint64, wide{Hi: 1, Lo: 1}, 0},
		{wide{Hi: math.MaxUint64 - 1, Lo: math.MaxUint64}, math.MaxUint64, wide{Lo: math.MaxUint64}, math.MaxUint64 - 1},
		{most, 0, wide{}, 0},
		{wide{}, 0, wide{}, 0},
	} {
		if got, rest := x.w.Div(x.d); got != x.want || rest != x.rest {
			t.Errorf("%v.Div(%d) = %v, %d", x.w, x.d, got, rest)
		}
	}
}

// P1.2

func TestMulDiv(t *testing.T) {
	for _, x := range []struct {
		a, b, c, how, want int
		e                  api.Errno
	}{
		{7, 3, 2, api.Floor, 10, api.OK}, {7, 3, 2, api.Ceil, 11, api.OK}, {7, 3, 2, api.Zero, 10, api.OK}, {7, 3, 2, api.Even, 10, api.OK},
		{-7, 3, 2, api.Floor, -11, api.OK}, {-7, 3, 2, api.Ceil, -10, api.OK}, {-7, 3, 2, api.Zero, -10, api.OK}, {-7, 3, 2, api.Even, -10, api.OK},
		{7, -3, 2, api.Floor, -11, api.OK}, {7, 3, -2, api.Floor, -11, api.OK}, {-7, -3, 2, api.Floor, 10, api.OK}, {-7, -3, -2, api.Floor, -11, api.OK},
		{9, 3, 2, api.Even, 14, api.OK}, {-9, 3, 2, api.Even, -14, api.OK}, {23, 1, 2, api.Even, 12, api.OK}, {10, 1, 3, api.Even, 3, api.OK}, {11, 1, 3, api.Even, 4, api.OK},
		{1, 1, 2, api.Even, 0, api.OK}, {-1, 1, 2, api.Even, 0, api.OK}, {3, 1, 2, api.Even, 2, api.OK}, {-1, 1, 3, api.Ceil, 0, api.OK},
		{0, -5, 3, api.Floor, 0, api.OK}, {0, -5, 3, api.Ceil, 0, api.OK},
		{math.MaxInt, math.MaxInt, math.MaxInt, api.Floor, math.MaxInt, api.OK},
		{math.MinInt, math.MinInt, math.MinInt, api.Even, math.MinInt, api.OK},
		{math.MinInt, math.MaxInt, math.MaxInt, api.Zero, math.MinInt, api.OK},
		{math.MinInt, -1, 1, api.Floor, 0, api.ErrOver}, {math.MinInt, 1, -1, api.Floor, 0, api.ErrOver}, {math.MinInt, -1, -1, api.Floor, math.MinInt, api.OK},
		{math.MaxInt, 2, 1, api.Zero, 0, api.ErrOver}, {math.MaxInt, math.MaxInt, 1, api.Floor, 0, api.ErrOver},
		{math.MaxInt, math.MaxInt, math.MaxInt - 1, api.Floor, 0, api.ErrOver},
	} {
		if n, e := fixnum.MulDiv(x.a, x.b, x.c, x.how); n != x.want || e != x.e {
			t.Errorf("MulDiv(%d, %d, %d, %d) = %d, %d", x.a, x.b, x.c, x.how, n, e)
		}
	}
}

// The way to round alone decides here whether a number has its place: each lies between the greatest int, or the least one, and the next number outside.
func TestMulDivAtTheEnds(t *testing.T) {
	for _, x := range []struct {
		a, b, c, how, want int
		e                  api.Errno
	}{
		// 2^63 - 1 and a half: the even one is outside.
		{6148914691236517205, 3, 2, api.Floor, math.MaxInt, api.OK},
		{6148914691236517205, 3, 2, api.Zero, math.MaxInt, api.OK},
		{6148914691236517205, 3, 2, api.Ceil, 0, api.ErrOver},
		{6148914691236517205, 3, 2, api.Even, 0, api.ErrOver},
		// 2^63 - 1 and a third.
		{2515465100960393402, 11, 3, api.Even, math.MaxInt, api.OK},
		{2515465100960393402, 11, 3, api.Ceil, 0, api.ErrOver},
		// -2^63 and a half below it: the even one is inside.
		{67280421310721, -274177, 2, api.Floor, 0, api.ErrOver},
		{67280421310721, -274177, 2, api.Zero, math.MinInt, api.OK},
		{67280421310721, -274177, 2, api.Ceil, math.MinInt, api.OK},
		{67280421310721, -274177, 2, api.Even, math.MinInt, api.OK},
		// -2^63 and two thirds below it.
		{2128470470043409802, 13, -3, api.Even, 0, api.ErrOver},
		{2128470470043409802, 13, -3, api.Ceil, math.MinInt, api.OK},
	} {
		if n, e := fixnum.MulDiv(x.a, x.b, x.c, x.how); n != x.want || e != x.e {
			t.Errorf("MulDiv(%d, %d, %d, %d) = %d, %d", x.a, x.b, x.c, x.how, n, e)
		}
	}
}

func TestMulDivWrongInputs(t *testing.T) {
	for _, how := range []int{math.MinInt, -1, 0, 5, 6, math.MaxInt} {
		if n, e := fixnum.MulDiv(7, 3, 2, how); n != 0 || e != api.ErrArg {
			t.Errorf("way %d: %d, %d", how, n, e)
		}
		if n, e := fixnum.MulDiv(math.MaxInt, math.MaxInt, 1, how); n != 0 || e != api.ErrArg {
			t.Errorf("way %d, too great: %d, %d", how, n, e)
		}
	}
	for _, how := range ways {
		if n, e := fixnum.MulDiv(math.MaxInt, math.MaxInt, 0, how); n != 0 || e != api.ErrArg {
			t.Errorf("by 0, way %d: %d, %d", how, n, e)
		}
	}
}

func TestMulDivAgainstBig(t *testing.T) {
	for _, a := range ints {
		for _, b := range ints {
			product := new(big.Int).Mul(bigInt(a), bigInt(b))
			for _, c := range ints {
				if c == 0 {
					continue
				}
				for _, how := range ways {
					want, wantE := fitted(rounded(product, bigInt(c), how))
					if n, e := fixnum.MulDiv(a, b, c, how); n != want || e != wantE {
						t.Fatalf("MulDiv(%d, %d, %d, %d) = %d, %d, want %d, %d", a, b, c, how, n, e, want, wantE)
					}
				}
			}
		}
	}
}

// P1.3

func TestPlusMinus(t *testing.T) {
	for _, x := range []struct {
		a, b, plus int
		plusE      api.Errno
		minus      int
		minusE     api.Errno
	}{
		{5, 3, 8, api.OK, 2, api.OK},
		{3, 5, 8, api.OK, -2, api.OK},
		{math.MaxInt, 1, 0, api.ErrOver, math.MaxInt - 1, api.OK},
		{math.MinInt, 1, math.MinInt + 1, api.OK, 0, api.ErrOver},
		{math.MaxInt, math.MinInt, -1, api.OK, 0, api.ErrOver},
		{-1, math.MinInt, 0, api.ErrOver, math.MaxInt, api.OK},
		{0, math.MinInt, math.MinInt, api.OK, 0, api.ErrOver},
		{math.MinInt, math.MinInt, 0, api.ErrOver, 0, api.OK},
		{math.MinInt, 0, math.MinInt, api.OK, math.MinInt, api.OK},
	} {
		if n, e := fixnum.Plus(x.a, x.b); n != x.plus || e != x.plusE {
			t.Errorf("Plus(%d, %d) = %d, %d", x.a, x.b, n, e)
		}
		if n, e := fixnum.Minus(x.a, x.b); n != x.minus || e != x.minusE {
			t.Errorf("Minus(%d, %d) = %d, %d", x.a, x.b, n, e)
		}
	}
	for _, a := range ints {
		for _, b := range ints {
			want, wantE := fitted(new(big.Int).Add(bigInt(a), bigInt(b)))
			if n, e := fixnum.Plus(a, b); n != want || e != wantE {
				t.Errorf("Plus(%d, %d) = %d, %d", a, b, n, e)
			}
			want, wantE = fitted(new(big.Int).Sub(bigInt(a), bigInt(b)))
			if n, e := fixnum.Minus(a, b); n != want || e != wantE {
				t.Errorf("Minus(%d, %d) = %d, %d", a, b, n, e)
			}
		}
	}
}

func TestSum(t *testing.T) {
	for _, x := range []struct {
		l    []int
		want int
		e    api.Errno
	}{
		{nil, 0, api.OK},
		{[]int{}, 0, api.OK},
		{[]int{math.MinInt}, math.MinInt, api.OK},
		{[]int{4, -7, 5}, 2, api.OK},
		{[]int{math.MaxInt, -1, 1}, math.MaxInt, api.OK},
		// All together have their place, but not what there is on the way.
		{[]int{math.MaxInt, 1, -1}, 0, api.ErrOver},
		{[]int{math.MinInt, -1, 1}, 0, api.ErrOver},
		{[]int{1, 2, math.MaxInt}, 0, api.ErrOver},
		{make([]int, 1000), 0, api.OK},
	} {
		if n, e := fixnum.Sum(x.l); n != x.want || e != x.e {
			t.Errorf("Sum(%v) = %d, %d", x.l, n, e)
		}
	}
}

// P1.4

// repeat tells a list of n alike numbers.
func repeat(x, n int) []int { return slices.Repeat([]int{x}, n) }

func TestShare(t *testing.T) {
	for _, x := range []struct {
		amount  int
		weights []int
		want    []int
	}{
		{10, []int{1, 1, 1}, []int{4, 3, 3}},
		{11, []int{1, 1, 1}, []int{4, 4, 3}},
		{12, []int{1, 1, 1}, []int{4, 4, 4}},
		{11, []int{0, 2, 1, 2}, []int{0, 5, 2, 4}},
		{7, []int{5}, []int{7}},
		{0, []int{3, 0, 4}, []int{0, 0, 0}},
		{2, []int{0, 1, 0, 1, 1}, []int{0, 1, 0, 1, 0}},
		// The first one gets what is left though its own part is whole.
		{6, []int{2, 1, 1}, []int{4, 1, 1}},
		{math.MaxInt, []int{math.MaxInt}, []int{math.MaxInt}},
		{math.MaxInt, []int{0, math.MaxInt - 1, 1}, []int{0, math.MaxInt - 1, 1}},
		{math.MaxInt, []int{1 << 62, 1<<62 - 1}, []int{1 << 62, 1<<62 - 1}},
		{63, repeat(9, api.MaxList), append(repeat(1, 63), 0)},
	} {
		if l, e := fixnum.Share(x.amount, x.weights); e != api.OK || !slices.Equal(l, x.want) {
			t.Errorf("Share(%d, %v) = %v, %d", x.amount, x.weights, l, e)
		}
	}
}

func TestShareWrongInputs(t *testing.T) {
	for _, x := range []struct {
		amount  int
		weights []int
		e       api.Errno
	}{
		{-1, []int{1}, api.ErrArg},
		{math.MinInt, []int{1}, api.ErrArg},
		{1, []int{1, -1, 3}, api.ErrArg},
		{1, []int{1, 3, math.MinInt}, api.ErrArg},
		{1, repeat(1, api.MaxList+1), api.ErrArg},
		{1, []int{math.MaxInt, 1}, api.ErrOver},
		{1, nil, api.ErrNone},
		{1, []int{}, api.ErrNone},
		{0, []int{0, 0}, api.ErrNone},
		// The first error that the chapter names is told.
		{-1, nil, api.ErrArg},
		{-1, []int{math.MaxInt, 1}, api.ErrArg},
		{1, []int{math.MaxInt, 1, -1}, api.ErrArg},
		{1, repeat(0, api.MaxList+1), api.ErrArg},
		{1, repeat(math.MaxInt, api.MaxList+1), api.ErrArg},
	} {
		if l, e := fixnum.Share(x.amount, x.weights); len(l) != 0 || e != x.e {
			t.Errorf("Share(%d, %v) = %v, %d, want %d", x.amount, x.weights, l, e, x.e)
		}
	}
}

// What is handed in stays as it is, its spare room included, and an answer shares no memory with it or with another one.
func TestShareMemory(t *testing.T) {
	room := []int{3, 2, 2, 77, 88}
	weights := room[:3]
	first, _ := fixnum.Share(10, weights)
	second, _ := fixnum.Share(10, weights)
	if !slices.Equal(room, []int{3, 2, 2, 77, 88}) {
		t.Error("changed", room)
	}
	want := slices.Clone(second)
	for i := range first {
		first[i] = -1
	}
	if !slices.Equal(second, want) || !slices.Equal(weights, []int{3, 2, 2}) {
		t.Error("shared", second, weights)
	}
}

func TestSumMemory(t *testing.T) {
	room := []int{3, 2, 2, 77, 88}
	if n, e := fixnum.Sum(room[:3]); n != 7 || e != api.OK || !slices.Equal(room, []int{3, 2, 2, 77, 88}) {
		t.Error(n, e, room)
	}
}

// P1.5

func TestDivComesBack(t *testing.T) {
	for _, w := range wides() {
		for _, d := range words {
			if d == 0 {
				continue
			}
			quotient, rest := w.Div(d)
			if rest >= d {
				t.Fatalf("%v.Div(%d): the rest is %d", w, d, rest)
			}
			back := new(big.Int).Mul(bigWide(quotient), bigWord(d))
			if back.Add(back, bigWord(rest)).Cmp(bigWide(w)) != 0 {
				t.Fatalf("%v.Div(%d) = %v, %d", w, d, quotient, rest)
			}
		}
	}
}

func TestSharesAreTheAmount(t *testing.T) {
	lists := [][]int{
		{1}, {0, 1}, {1, 0, 0}, {1, 2, 3, 4, 5}, {0, 7, 0, 7, 7}, {1, 1 << 50}, {1 << 61, 1 << 61, 1 << 61, 1<<61 - 1}, {math.MaxInt - 1, 0, 1},
		repeat(1, api.MaxList), append(repeat(0, 63), 1), append(repeat(1<<56, 32), repeat(1, 32)...),
	}
	for _, weights := range lists {
		total, _ := fixnum.Sum(weights)
		for _, amount := range []int{0, 1, 2, 3, 63, 64, 65, 1000003, 1 << 50, math.MaxInt - 1, math.MaxInt} {
			shares, e := fixnum.Share(amount, weights)
			if sum, e2 := fixnum.Sum(shares); e != api.OK || e2 != api.OK || sum != amount || len(shares) != len(weights) {
				t.Fatalf("Share(%d, %v) = %v, %d", amount, weights, shares, e)
			}
			for i, share := range shares {
				floor := rounded(new(big.Int).Mul(bigInt(amount), bigInt(weights[i])), bigInt(total), api.Floor)
				more := new(big.Int).Sub(bigInt(share), floor)
				if more.Sign() < 0 || more.Cmp(big.NewInt(1)) > 0 || weights[i] == 0 && share != 0 {
					t.Fatalf("Share(%d, %v) = %v at %d", amount, weights, shares, i)
				}
			}
		}
	}
}

func TestFloorAndCeil(t *testing.T) {
	for _, a := range ints {
		for _, b := range ints {
			for _, c := range ints {
				floor, e := fixnum.MulDiv(a, b, c, api.Floor)
				ceil, e2 := fixnum.MulDiv(a, b, c, api.Ceil)
				if e != api.OK || e2 != api.OK {
					continue
				}
				product := new(big.Int).Mul(bigInt(a), bigInt(b))
				want := 1
				if new(big.Int).Rem(product, bigInt(c)).Sign() == 0 {
					want = 0
				}
				if ceil-floor != want {
					t.Fatalf("MulDiv(%d, %d, %d): %d and %d", a, b, c, floor, ceil)
				}
			}
		}
	}
}
