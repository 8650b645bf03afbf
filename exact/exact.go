// Package exact has quotients of whole numbers: rounded, and as fractions.
package exact

import (
	"beadlayer/api"
)

// Floor is a quotient, rounded down; den is above 0.
func Floor(num, den int) int {
	quotient := num / den
	if num%den < 0 {
		quotient--
	}
	return quotient
}

// Ceil is a quotient, rounded up; den is above 0.
func Ceil(num, den int) int {
	quotient := num / den
	if num%den > 0 {
		quotient++
	}
	return quotient
}

// Rounded is the nearest integer to a fraction, half up.
func Rounded(f api.Fraction) int {
	down := Floor(f.Num, f.Den)
	rest := f.Num - down*f.Den
	if rest >= f.Den-rest {
		return down + 1
	}
	return down
}

// Lowest is a quotient as a fraction in lowest terms; den is above 0.
func Lowest(num, den int) api.Fraction {
	a, b := den, num
	for b != 0 {
		a, b = b, a%b
	}
	if a < 0 {
		a = -a
	}
	return api.Fraction{Num: num / a, Den: den / a}
}
