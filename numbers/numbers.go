// Package numbers has what all layers ask of numbers: whether they are in a range, whether they rise, and quotients in lowest terms.
package numbers

import "thatch/api"

// IsFrom reports whether a number is from low to high.
func IsFrom[N ~int](n, low, high N) bool { return low <= n && n <= high }

// IsSpan reports whether s is a span of numbers from low to high.
func IsSpan(s api.Span, low, high int) bool {
	return low <= s.Low && s.Low <= s.High && s.High <= high
}

// Rise reports whether each number of a list is greater than the one ahead of it.
func Rise(list []int) bool {
	for i := 1; i < len(list); i++ {
		if list[i-1] >= list[i] {
			return false
		}
	}
	return true
}

// LowestTerms returns num divided by den. It wants a den above 0, and a num that has an opposite.
func LowestTerms(num, den int) api.Ratio {
	a, b := max(num, -num), den
	for b != 0 {
		a, b = b, a%b
	}
	return api.Ratio{Num: num / a, Den: den / a}
}
