// Package kit has the small functions that the layers share.
package kit

import (
	"slices"

	"tinker/api"
)

// FirstError returns the first one of the codes that is an error, or OK if none is.
func FirstError(codes ...api.Errno) api.Errno {
	for _, e := range codes {
		if e != api.OK {
			return e
		}
	}
	return api.OK
}

// IsSet reports whether the numbers are strictly ascending.
func IsSet(numbers []int) bool {
	for i := 1; i < len(numbers); i++ {
		if numbers[i-1] >= numbers[i] {
			return false
		}
	}
	return true
}

// IsOrder reports whether a list has each number below n once.
func IsOrder(order []int, n int) bool {
	return len(order) == n && AreBetween(order, 0, n-1) && IsSet(slices.Sorted(slices.Values(order)))
}

// IsBetween reports whether n is from low to high.
func IsBetween(n, low, high int) bool {
	return low <= n && n <= high
}

// AreBetween reports whether all numbers are from low to high.
func AreBetween(numbers []int, low, high int) bool {
	for _, n := range numbers {
		if !IsBetween(n, low, high) {
			return false
		}
	}
	return true
}

// IsRegister reports whether n is a register.
func IsRegister(n int) bool {
	return IsBetween(n, 0, api.Registers-1)
}

// IsValue reports whether a register may be n.
func IsValue(n int) bool {
	return IsBetween(n, -api.MaxValue, api.MaxValue)
}

// Cut returns the number that is nearest to n of those that a register may be.
func Cut(n int) int {
	return max(-api.MaxValue, min(n, api.MaxValue))
}

// Places returns the set of the places of a list that are true.
func Places(list []bool) []int {
	var set []int
	for i, is := range list {
		if is {
			set = append(set, i)
		}
	}
	return set
}

// Fraction returns num divided by den in lowest terms; num is not below 0, and den is above 0.
func Fraction(num, den int) api.Rat {
	a, b := num, den
	for b > 0 {
		a, b = b, a%b
	}
	return api.Rat{Num: num / a, Den: den / a}
}
