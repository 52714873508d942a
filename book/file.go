package book

import (
	"strconv"
	"strings"

	"saltdome/api"
	"saltdome/words"
)

// The form of files: the first words of lines, the words for the ways of a nomination, and how many digits a number can have.
const (
	dayWord      = "day"
	hourWord     = "hour"
	nomWord      = "nom"
	tradeWord    = "trade"
	loanWord     = "loan"
	endWord      = "end"
	inWord       = "in"
	outWord      = "out"
	numberDigits = 15
)

// fileLine returns the line of some words.
func fileLine(list ...string) string { return strings.Join(list, " ") + "\n" }

// decimals returns the words of some numbers.
func decimals(numbers ...int) string {
	list := make([]string, len(numbers))
	for i, n := range numbers {
		list[i] = strconv.Itoa(n)
	}
	return strings.Join(list, " ")
}

// nomLine returns the line of a nomination.
func nomLine(n api.BookNom) string {
	word, w := inWord, inward
	if n.Amount < 0 {
		word, w = outWord, outward
	}
	return fileLine(nomWord, decimals(n.Contract, n.Hour, n.Sent), word, decimals(w.kilos(n.Amount)))
}

// tradeLine returns the line of a trade or a loan.
func tradeLine(t api.BookTrade) string {
	if isLoan(t) {
		return fileLine(loanWord, decimals(t.Hour, t.Back, t.From, t.To, t.Amount))
	}
	return fileLine(tradeWord, decimals(t.Hour, t.From, t.To, t.Amount))
}

// endLine returns the last line of a file behind all others.
func endLine(lines string) string {
	sum := 0
	for _, word := range strings.Fields(lines) {
		if n, ok := words.Number(word, numberDigits); ok {
			sum += n
		}
	}
	return fileLine(endWord, decimals(strings.Count(lines, "\n"), sum))
}

// writeFile returns the file of a day. That need not be as defined, as long as no number has a sign or too many digits.
func writeFile(d api.BookDay) string {
	var lines strings.Builder
	lines.WriteString(fileLine(dayWord, decimals(len(d.Hours))))
	for _, h := range d.Hours {
		lines.WriteString(fileLine(hourWord, decimals(h.In, h.Out, h.FlowIn, h.FlowOut)))
	}
	for _, n := range d.Noms {
		lines.WriteString(nomLine(n))
	}
	for _, t := range d.Trades {
		lines.WriteString(tradeLine(t))
	}
	return lines.String() + endLine(lines.String())
}

// noFile is what a reader gives up with.
type noFile struct{}

// insist gives up if something is not so.
func insist(so bool) {
	if !so {
		panic(noFile{})
	}
}

// readNumbers reads words into as many numbers.
func readNumbers(list []string, numbers ...*int) {
	insist(words.Numbers(list, numberDigits, numbers...))
}

// fileReader is the day of the lines that were read.
type fileReader struct {
	api.BookDay
}

// lineReaders returns what reads the words behind the first one of a line.
func lineReaders() map[string]func(*fileReader, []string) {
	return map[string]func(*fileReader, []string){
		dayWord:   (*fileReader).readDay,
		hourWord:  (*fileReader).readHour,
		nomWord:   (*fileReader).readNom,
		tradeWord: (*fileReader).readTrade,
		loanWord:  (*fileReader).readLoan,
		endWord:   (*fileReader).readEnd,
	}
}

// readDay reads how many hours there should be; whether there are as many is seen when all is written again.
func (r *fileReader) readDay(list []string) {
	var hours int
	readNumbers(list, &hours)
}

func (r *fileReader) readHour(list []string) {
	var h api.BookHour
	readNumbers(list, &h.In, &h.Out, &h.FlowIn, &h.FlowOut)
	r.Hours = append(r.Hours, h)
}

func (r *fileReader) readNom(list []string) {
	const wordAt = 3
	var n api.BookNom
	insist(len(list) > wordAt)
	readNumbers(list[:wordAt], &n.Contract, &n.Hour, &n.Sent)
	readNumbers(list[wordAt+1:], &n.Amount)
	if list[wordAt] == outWord {
		n.Amount = -n.Amount
	}
	r.Noms = append(r.Noms, n)
}

func (r *fileReader) readTrade(list []string) {
	t := api.BookTrade{Back: none}
	readNumbers(list, &t.Hour, &t.From, &t.To, &t.Amount)
	r.Trades = append(r.Trades, t)
}

func (r *fileReader) readLoan(list []string) {
	var t api.BookTrade
	readNumbers(list, &t.Hour, &t.Back, &t.From, &t.To, &t.Amount)
	r.Trades = append(r.Trades, t)
}

// readEnd reads how many lines there should be and their sum, as readDay does.
func (r *fileReader) readEnd(list []string) {
	var lines, sum int
	readNumbers(list, &lines, &sum)
}

// readFile returns the day of a file, which need not be as defined; false, if the text is no file. A day has but one file, so that a text is one if its day is written the same: that tells whether all lines are there, in order, with the right numbers at the end.
func readFile(text string) (d api.BookDay, ok bool) {
	defer func() {
		if recover() != nil {
			d, ok = api.BookDay{}, false
		}
	}()
	var r fileReader
	readers := lineReaders()
	for _, line := range strings.Split(strings.TrimSuffix(text, "\n"), "\n") {
		list := strings.Split(line, " ")
		read, known := readers[list[0]]
		insist(known)
		read(&r, list[1:])
	}
	insist(writeFile(r.BookDay) == text)
	return r.BookDay, true
}
