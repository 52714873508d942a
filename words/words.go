// Package words has what the layers share to read the words of a text.
package words

// Number returns the number that a word is, in decimal digits without a sign and without leading zeros; false, if it is none, or has more than so many digits (at most 18).
func Number(word string, digits int) (int, bool) {
	if word == "" || len(word) > digits || word[0] == '0' && word != "0" {
		return 0, false
	}
	n := 0
	for _, digit := range word {
		if digit < '0' || digit > '9' {
			return 0, false
		}
		n = 10*n + int(digit-'0')
	}
	return n, true
}

// Numbers reads words into as many numbers of at most so many digits each; false, if there are more words or fewer, or one is no number.
func Numbers(list []string, digits int, numbers ...*int) bool {
	if len(list) != len(numbers) {
		return false
	}
	for i, word := range list {
		n, ok := Number(word, digits)
		if !ok {
			return false
		}
		*numbers[i] = n
	}
	return true
}
