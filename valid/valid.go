// Package valid has what the layers share to tell whether arguments are as defined.
package valid

import "saltdome/api"

// Argument returns the error of an argument that is as defined, or is not.
func Argument(ok bool) api.Errno {
	if !ok {
		return api.ErrArg
	}
	return api.OK
}

// Within reports whether a number lies from low to high.
func Within(n, low, high int) bool { return low <= n && n <= high }

// Span reports whether a span holds a number, and only numbers from 0 to most.
func Span(s api.Span, most int) bool {
	return Within(s.Low, 0, s.High) && s.High <= most
}

// All reports whether each item of a list is valid.
func All[T any](l []T, valid func(T) bool) bool {
	for _, x := range l {
		if !valid(x) {
			return false
		}
	}
	return true
}
