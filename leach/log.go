package leach

import (
	"strconv"
	"strings"

	"saltdome/api"
	"saltdome/words"
)

// The form of logs: their check is a sum modulo checkModulus, and their numbers have at most numberDigits digits.
const (
	checkModulus = 97
	numberDigits = 14
)

// checkLine returns the last line of a log whose numbers have some sum.
func checkLine(sum int) string {
	check := sum % checkModulus
	return "end " + strconv.Itoa(check/10) + strconv.Itoa(check%10) + "\n"
}

// logWriter is the text of a log so far, and the sum of its numbers.
type logWriter struct {
	text strings.Builder
	sum  int
}

// line writes a line.
func (w *logWriter) line(word string, numbers ...int) {
	w.text.WriteString(word)
	for _, n := range numbers {
		w.text.WriteString(" " + strconv.Itoa(n))
		w.sum += n
	}
	w.text.WriteString("\n")
}

// writeLog returns the log of a cavern that is as defined.
func writeLog(c api.LeachCavern) string {
	var w logWriter
	w.line("sonar", len(c.Slices), c.Hold, c.Oil)
	for _, s := range c.Slices {
		w.line("slice", s.Volume.Low, s.Volume.High, s.Open, s.Fall, s.Rate.Low, s.Rate.High, s.Most)
	}
	w.text.WriteString(checkLine(w.sum))
	return w.text.String()
}

// logReader is what is left of a log, and the sum of the numbers that were read.
type logReader struct {
	rest string
	sum  int
}

// noLog is what a reader gives up with.
type noLog struct{}

// line reads a line into numbers.
func (r *logReader) line(word string, numbers ...*int) {
	line, rest, ended := strings.Cut(r.rest, "\n")
	split := strings.Split(line, " ")
	if !ended || split[0] != word || len(split) != 1+len(numbers) {
		panic(noLog{})
	}
	for i, n := range numbers {
		*n = readNumber(split[1+i])
		r.sum += *n
	}
	r.rest = rest
}

// readNumber returns the number that a word is.
func readNumber(word string) int {
	n, ok := words.Number(word, numberDigits)
	if !ok {
		panic(noLog{})
	}
	return n
}

// readLog returns the cavern of a log, which need not be as defined; false, if the text is no log.
func readLog(text string) (c api.LeachCavern, ok bool) {
	defer func() {
		if recover() != nil {
			c, ok = api.LeachCavern{}, false
		}
	}()
	r := logReader{rest: text}
	var count int
	r.line("sonar", &count, &c.Hold, &c.Oil)
	for range count {
		var s api.LeachSlice
		r.line("slice", &s.Volume.Low, &s.Volume.High, &s.Open, &s.Fall, &s.Rate.Low, &s.Rate.High, &s.Most)
		c.Slices = append(c.Slices, s)
	}
	if r.rest != checkLine(r.sum) {
		panic(noLog{})
	}
	return c, true
}
