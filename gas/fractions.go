package gas

// integer is a type of whole numbers of which fractions are made.
type integer interface {
	~int | ~int64
}

// fraction is a fraction that need not be in lowest terms, and whose den is not less than 0.
type fraction[N integer] struct {
	num, den N
}

// whole returns a whole number as a fraction.
func whole[N integer](n N) fraction[N] { return fraction[N]{n, 1} }

// less reports whether a fraction is less than another one. The share of nothing, 0 / 0, is neither less nor more than any other.
func less[N integer](a, b fraction[N]) bool { return a.num*b.den < b.num*a.den }

// reduced returns a fraction whose den is not 0 in lowest terms.
func reduced[N integer](f fraction[N]) fraction[N] {
	common, rest := f.den, f.num
	for rest != 0 {
		common, rest = rest, common%rest
	}
	return fraction[N]{f.num / common, f.den / common}
}
