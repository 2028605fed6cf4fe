// Package fixnum is a layer: see its chapter in shared/doc.
package fixnum

import (
	"math"
	"math/bits"

	"lombard/api"
)

// Wide is a whole number of 128 bits, not below 0.
type Wide struct {
	Hi uint64
	Lo uint64
}

const (
	half = 32
	low  = 1<<half - 1
)

// Mul multiplies two numbers.
func Mul(a, b uint64) Wide {
	aHi, aLo := a>>half, a&low
	bHi, bLo := b>>half, b&low
	// A product of halves leaves room for one more half, so neither left nor right wraps round.
	least := aLo * bLo
	left := aHi*bLo + least>>half
	right := aLo*bHi + left&low
	return Wide{
		Hi: aHi*bHi + left>>half + right>>half,
		Lo: right<<half | least&low,
	}
}

// Less tells whether a number is below another one.
func (w Wide) Less(x Wide) bool {
	return w.Hi < x.Hi || w.Hi == x.Hi && w.Lo < x.Lo
}

// Add adds two numbers; false: they are too great.
func (w Wide) Add(x Wide) (Wide, bool) {
	sum := Wide{Hi: w.Hi + x.Hi, Lo: w.Lo + x.Lo}
	if sum.Lo < w.Lo {
		sum.Hi++
	}
	// What wrapped round is 2^128 short of the sum, and so below each of the two.
	if sum.Less(w) {
		return Wide{}, false
	}
	return sum, true
}

// Sub takes a number away; false: it is the greater one.
func (w Wide) Sub(x Wide) (Wide, bool) {
	if w.Less(x) {
		return Wide{}, false
	}
	rest := Wide{Hi: w.Hi - x.Hi, Lo: w.Lo - x.Lo}
	if w.Lo < x.Lo {
		rest.Hi--
	}
	return rest, true
}

// Div divides a number: it tells the quotient, and the rest; zero, if there is nothing to divide by.
func (w Wide) Div(d uint64) (Wide, uint64) {
	if d == 0 {
		return Wide{}, 0
	}
	// Div64 panics unless its upper word is below d: the rest of Hi is.
	lo, rest := bits.Div64(w.Hi%d, w.Lo, d)
	return Wide{Hi: w.Hi / d, Lo: lo}, rest
}

// MulDiv multiplies two numbers, and divides that by a third one, rounded.
func MulDiv(a, b, c, how int) (int, api.Errno) {
	if c == 0 || how < api.Floor || how > api.Even {
		return 0, api.ErrArg
	}
	d := size(c)
	quotient, rest := Mul(size(a), size(b)).Div(d)
	negative := (a < 0) != (b < 0) != (c < 0)
	if awayFromZero(quotient, rest, d, negative, how) {
		// A quotient of such sizes is at most 2^126: one more always has its place.
		quotient, _ = quotient.Add(Wide{Lo: 1})
	}
	return signed(quotient, negative)
}

// size tells a number without its sign.
func size(n int) uint64 {
	if n < 0 {
		// Turned as an unsigned number, for the least int has no opposite.
		return -uint64(n)
	}
	return uint64(n)
}

// awayFromZero tells whether a quotient, cut towards 0, is to be rounded the other way.
func awayFromZero(quotient Wide, rest, d uint64, negative bool, how int) bool {
	switch how {
	case api.Floor:
		return negative && rest != 0
	case api.Ceil:
		return !negative && rest != 0
	case api.Even:
		// Held against what lacks to d, for twice the rest might wrap round.
		lacking := d - rest
		return rest > lacking || rest == lacking && quotient.Lo&1 == 1
	}
	return false
}

// signed gives a number its sign back.
func signed(w Wide, negative bool) (int, api.Errno) {
	most := uint64(math.MaxInt64)
	if negative {
		most++
	}
	if w.Hi != 0 || w.Lo > most {
		return 0, api.ErrOver
	}
	if negative {
		return int(-w.Lo), api.OK
	}
	return int(w.Lo), api.OK
}

// Plus adds two numbers.
func Plus(a, b int) (int, api.Errno) {
	sum := a + b
	if (sum < a) != (b < 0) {
		return 0, api.ErrOver
	}
	return sum, api.OK
}

// Minus takes a number away.
func Minus(a, b int) (int, api.Errno) {
	rest := a - b
	if (rest < a) != (b > 0) {
		return 0, api.ErrOver
	}
	return rest, api.OK
}

// Sum adds numbers, one behind the other.
func Sum(l []int) (int, api.Errno) {
	sum := 0
	for _, n := range l {
		next, e := Plus(sum, n)
		if e != api.OK {
			return 0, e
		}
		sum = next
	}
	return sum, api.OK
}

// Share cuts an amount by weights: each gets its part, rounded down, and what is left goes, one by one, to the first ones with a weight.
func Share(amount int, weights []int) ([]int, api.Errno) {
	if amount < 0 || !goodWeights(weights) {
		return nil, api.ErrArg
	}
	total, e := Sum(weights)
	if e != api.OK {
		return nil, e
	}
	if total == 0 {
		return nil, api.ErrNone
	}
	shares := make([]int, len(weights))
	left := amount
	for i, weight := range weights {
		// No weight is above the total, so no part is above the amount: MulDiv has no error here.
		shares[i], _ = MulDiv(amount, weight, total, api.Floor)
		left -= shares[i]
	}
	giveOut(shares, weights, left)
	return shares, api.OK
}

// goodWeights tells whether there are not too many weights, and none is below 0.
func goodWeights(weights []int) bool {
	if len(weights) > api.MaxList {
		return false
	}
	for _, weight := range weights {
		if weight < 0 {
			return false
		}
	}
	return true
}

// giveOut adds 1 to the shares of the first ones with a weight, till nothing is left.
func giveOut(shares, weights []int, left int) {
	// Each part lost less than 1, and only those with a weight lost any: one round is enough.
	for i, weight := range weights {
		if left == 0 {
			return
		}
		if weight > 0 {
			shares[i]++
			left--
		}
	}
}
