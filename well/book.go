package well

import (
	"strconv"
	"strings"

	"saltdome/api"
	"saltdome/words"
)

// The form of books: the words for what a part is, what is ahead of a check digit, and how many digits a number can have.
const (
	valveWord    = "valve"
	wallWord     = "wall"
	openWord     = "open"
	shutWord     = "shut"
	badWord      = "bad"
	fairWord     = "fair"
	checkMark    = " /"
	numberDigits = 10
	partWords    = 10
)

// checkDigit returns the check digit of what is ahead of it in a line.
func checkDigit(line string) string {
	sum, weight := 0, 3
	for _, digit := range line {
		if digit < '0' || digit > '9' {
			continue
		}
		sum += weight * int(digit-'0')
		weight = 4 - weight
	}
	return strconv.Itoa((10 - sum%10) % 10)
}

// bookLine returns the line of some words.
func bookLine(list ...string) string {
	line := strings.Join(list, " ")
	return line + checkMark + checkDigit(line) + "\n"
}

// either returns the one word or the other one.
func either(is bool, word, otherwise string) string {
	if is {
		return word
	}
	return otherwise
}

// writeBook returns the book of a well that is as defined.
func writeBook(w api.Well) string {
	text := bookLine("well", strconv.Itoa(w.Rooms), strconv.Itoa(w.Need))
	for _, p := range w.Parts {
		text += bookLine("part", strconv.Itoa(p.One), strconv.Itoa(p.Other),
			either(p.Valve, valveWord, wallWord), either(p.Open, openWord, shutWord), either(p.Bad, badWord, fairWord),
			strconv.Itoa(p.Tested), strconv.Itoa(p.Valid), strconv.Itoa(p.Test), strconv.Itoa(p.Change))
	}
	return text + bookLine("end", strconv.Itoa(len(w.Parts)))
}

// noBook is what a reader gives up with.
type noBook struct{}

// insist gives up if something is not so.
func insist(so bool) {
	if !so {
		panic(noBook{})
	}
}

// takeLine returns the words of the first line of a text, and what is left of it.
func takeLine(text string) ([]string, string) {
	line, rest, ended := strings.Cut(text, "\n")
	line, digit, _ := strings.Cut(line, checkMark)
	insist(ended && digit == checkDigit(line))
	return strings.Split(line, " "), rest
}

// readNumbers reads words into as many numbers.
func readNumbers(list []string, numbers ...*int) {
	insist(words.Numbers(list, numberDigits, numbers...))
}

// readEither reports whether a word is the one or the other one.
func readEither(word, yes, no string) bool {
	insist(word == yes || word == no)
	return word == yes
}

// readPart returns the part of the words of a line.
func readPart(line []string) api.WellPart {
	var p api.WellPart
	insist(len(line) == partWords)
	readNumbers(line[1:3], &p.One, &p.Other)
	p.Valve = readEither(line[3], valveWord, wallWord)
	p.Open = readEither(line[4], openWord, shutWord)
	p.Bad = readEither(line[5], badWord, fairWord)
	readNumbers(line[6:], &p.Tested, &p.Valid, &p.Test, &p.Change)
	return p
}

// readBook returns the well of a book, which need not be as defined; false, if the text is no book.
func readBook(text string) (w api.Well, ok bool) {
	defer func() {
		if recover() != nil {
			w, ok = api.Well{}, false
		}
	}()
	line, rest := takeLine(text)
	insist(line[0] == "well")
	readNumbers(line[1:], &w.Rooms, &w.Need)
	for line, rest = takeLine(rest); line[0] == "part"; line, rest = takeLine(rest) {
		w.Parts = append(w.Parts, readPart(line))
	}
	var count int
	insist(line[0] == "end" && rest == "")
	readNumbers(line[1:], &count)
	insist(count == len(w.Parts))
	return w, true
}
