// Package interval: sums of 64 bits that tell when they overflow; worst cases. Chapter 1.
package interval

import (
	"math/bits"

	"quota/api"
)

// Add, Sub, Neg: ErrOverflow, if the result is beyond 64 bits.
func Add(a, b int64) (int64, api.Errno) { return widen(a).plus(b).narrow() }

// Sub: see Add.
func Sub(a, b int64) (int64, api.Errno) { return widen(a).minus(b).narrow() }

// Neg: see Add.
func Neg(a int64) (int64, api.Errno) { return widen(0).minus(a).narrow() }

// Sum: of all; only the whole sum must fit.
func Sum(list ...int64) (int64, api.Errno) {
	total := widen(0)
	for _, n := range list {
		total = total.plus(n)
	}
	return total.narrow()
}

// Worst: the base and all nets below 0, and the base and all above 0; ErrOverflow, if one of them doesn't fit.
func Worst(base int64, nets ...int64) (api.Range, api.Errno) {
	low, high := widen(base), widen(base)
	for _, n := range nets {
		if n < 0 {
			low = low.plus(n)
		} else {
			high = high.plus(n)
		}
	}
	lo, e := low.narrow()
	if e != api.OK {
		return api.Range{}, e
	}
	hi, e := high.narrow()
	if e != api.OK {
		return api.Range{}, e
	}
	return api.Range{Lo: lo, Hi: hi}, api.OK
}

// Check: ErrRange, if Lo is above Hi.
func Check(r api.Range) api.Errno {
	if empty(r) {
		return api.ErrRange
	}
	return api.OK
}

// Has: does v lie in it?
func Has(r api.Range, v int64) bool { return r.Lo <= v && v <= r.Hi }

// Within: does all of a lie in b?
func Within(a, b api.Range) bool {
	return empty(a) || Has(b, a.Lo) && Has(b, a.Hi)
}

func empty(r api.Range) bool { return r.Lo > r.Hi }

// wide is a whole number of 128 bits in two's complement, kept in two halves: as many numbers of 64 bits as a list can hold never leave it, so what stands in between needs no look.
type wide struct {
	high, low uint64
}

// widen spreads the sign of n over the upper half.
func widen(n int64) wide { return wide{high: uint64(n >> 63), low: uint64(n)} }

func (w wide) plus(n int64) wide {
	x := widen(n)
	low, carry := bits.Add64(w.low, x.low, 0)
	high, _ := bits.Add64(w.high, x.high, carry)
	return wide{high: high, low: low}
}

// minus is no plus of -n, since the least number's opposite is no int64.
func (w wide) minus(n int64) wide {
	x := widen(n)
	low, borrow := bits.Sub64(w.low, x.low, 0)
	high, _ := bits.Sub64(w.high, x.high, borrow)
	return wide{high: high, low: low}
}

// narrow: w fits if the upper half is nothing but the sign of the lower one.
func (w wide) narrow() (int64, api.Errno) {
	n := int64(w.low)
	if widen(n) != w {
		return 0, api.ErrOverflow
	}
	return n, api.OK
}
