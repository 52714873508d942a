package book_test

import (
	"math/rand"
	"slices"
	"strconv"
	"strings"
	"testing"

	"saltdome/api"
	"saltdome/book"
)

const exampleFile = "day 1\n" +
	"hour 120 100 110 0\n" +
	"nom 0 0 0 in 80\n" +
	"nom 1 0 0 in 90\n" +
	"nom 2 0 0 in 40\n" +
	"end 5 544\n"

const mixedFile = "day 2\n" +
	"hour 0 0 0 0\n" +
	"hour 800000000 800000000 800000000 800000000\n" +
	"nom 7 47 47 out 100000000\n" +
	"nom 0 0 0 in 0\n" +
	"loan 0 47 7 0 1\n" +
	"trade 47 0 7 100000000\n" +
	"loan 46 47 1 2 30\n" +
	"end 8 3400000338\n"

func mixedDay() api.BookDay {
	return api.BookDay{
		Hours:  []api.BookHour{{}, hour(mostFlow, mostFlow, mostFlow, mostFlow)},
		Noms:   []api.BookNom{nom(7, 47, 47, -api.BookKilos), nom(0, 0, 0, 0)},
		Trades: []api.BookTrade{loan(0, 47, 7, 0, 1), trade(47, 0, 7, api.BookKilos), loan(46, 47, 1, 2, 30)},
	}
}

// P6.6
func TestPrint(t *testing.T) {
	for i, x := range []struct {
		d    api.BookDay
		want string
	}{
		{exampleDay(), exampleFile},
		{mixedDay(), mixedFile},
		{api.BookDay{}, "day 0\nend 1 0\n"},
		{open(2), "day 2\nhour 0 0 0 0\nhour 0 0 0 0\nend 3 2\n"},
		{api.BookDay{Noms: []api.BookNom{nom(3, 2, 1, -1)}}, "day 0\nnom 3 2 1 out 1\nend 2 7\n"},
		{api.BookDay{Trades: []api.BookTrade{trade(3, 2, 1, 5)}}, "day 0\ntrade 3 2 1 5\nend 2 11\n"},
	} {
		if s, e := book.Print(x.d); e != api.OK || s != x.want {
			t.Errorf("%d %q %v", i, s, e)
		}
		if d, e := book.Read(x.want); e != api.OK || !same(d, x.d) {
			t.Error(i, d, e)
		}
	}
	for _, b := range badDays() {
		d := exampleDay()
		b.change(&d)
		if s, e := book.Print(d); e != api.ErrArg || s != "" {
			t.Error(b.name, s, e)
		}
	}
}

// fileOf returns a file of some lines, with the right numbers at its end.
func fileOf(lines ...string) string {
	sum := 0
	for _, line := range lines {
		for _, word := range strings.Split(line, " ") {
			n, _ := strconv.Atoi(word)
			sum += n
		}
	}
	return strings.Join(append(slices.Clone(lines), "end "+strconv.Itoa(len(lines))+" "+strconv.Itoa(sum)), "\n") + "\n"
}

const (
	dayLine   = "day 1"
	hourLine  = "hour 120 100 110 0"
	nomLine   = "nom 0 5 3 in 80"
	tradeLine = "trade 4 0 1 10"
	loanLine  = "loan 4 5 0 1 10"
)

// lineOf returns a file with something changed in one of its lines.
func lineOf(line, old, new string) string {
	lines := []string{dayLine, hourLine, nomLine, tradeLine, loanLine}
	for i := range lines {
		if lines[i] == line {
			lines[i] = strings.Replace(line, old, new, 1)
		}
	}
	return fileOf(lines...)
}

// P6.6: what does not have the form is no file, though the numbers at its end are right.
func TestReadOfNoFile(t *testing.T) {
	if _, e := book.Read(lineOf("", "", "")); e != api.OK {
		t.Fatal(e)
	}
	change := func(old, new string) string {
		s := strings.Replace(exampleFile, old, new, 1)
		if s == exampleFile {
			t.Fatal("no such text:", old)
		}
		return s
	}
	for i, bad := range []string{
		"", "\n", "day", "day 0", "day 0\n", "end 0 0\n", "end 1 0\n", "day 0\nend 1 0", exampleFile[:len(exampleFile)-1], exampleFile + "\n", exampleFile + exampleFile, exampleFile + "x", exampleFile + "end 6 1093\n", "\n" + exampleFile, " " + exampleFile, strings.ToUpper(exampleFile), strings.ReplaceAll(exampleFile, "\n", "\r\n"), strings.ReplaceAll(exampleFile, " ", "\t"), strings.ReplaceAll(exampleFile, " ", "  "), strings.ReplaceAll(exampleFile, "\n", " \n"), strings.ReplaceAll(exampleFile, "\n", "\n\n"),
		change("end 5 544", "end 5 545"), change("end 5 544", "end 4 544"), change("end 5 544", "end 6 544"), change("end 5 544", "end 05 544"), change("end 5 544", "end 5 0544"), change("end 5 544", "end 544 5"), change("end 5 544", "end 5"), change("end 5 544", "end 5 544 0"), change("end 5 544", "end"), change("end 5 544", "end 5 -544"), change("end 5 544", "ends 5 544"), change("end 5 544\n", ""), change("end 5 544", "end 5 544 "), change("end 5 544", "end 5 x"), change("end 5 544", "end 5 18446744073709552160"),
		change("80", "81"), change("120 100", "100 120x"), change("nom 1", "nom 2"), change("in 80", "out 80x"),
		fileOf(hourLine), fileOf(dayLine), fileOf("day 0", hourLine), fileOf("day 2", hourLine), fileOf(dayLine, hourLine, hourLine), fileOf(dayLine, dayLine, hourLine), fileOf(hourLine, dayLine), fileOf(dayLine, nomLine, hourLine), fileOf(dayLine, hourLine, tradeLine, nomLine), fileOf(dayLine, hourLine, loanLine, nomLine), fileOf(dayLine, hourLine, dayLine), fileOf(nomLine, dayLine, hourLine), fileOf(dayLine, "", hourLine), fileOf(dayLine, hourLine, ""), fileOf(dayLine, hourLine, "end 2 331"), fileOf("day 999999999999999"), fileOf("day 48"),
		fileOf(), fileOf("days 0"), fileOf("Day 0"), fileOf("day"), fileOf("day 0 0"), fileOf("day 00"), fileOf("day  0"), fileOf(" day 0"), fileOf("day 0 "), fileOf("day -0"), fileOf("day x"), fileOf("day 0 # nothing"),
		lineOf(hourLine, "hour", "hours"), lineOf(hourLine, "hour", ""), lineOf(hourLine, " 0", ""), lineOf(hourLine, " 0", " 0 0"), lineOf(hourLine, " 0", " -0"), lineOf(hourLine, " 0", " 00"), lineOf(hourLine, "120", "0120"), lineOf(hourLine, "120", "+120"), lineOf(hourLine, "120", "1_20"), lineOf(hourLine, "120", "-120"), lineOf(hourLine, "120", "1e2"), lineOf(hourLine, "120", "0x78"), lineOf(hourLine, "120", "120.0"), lineOf(hourLine, "120", "١٢٠"), lineOf(hourLine, "120", "1000000000000000"), lineOf(hourLine, "120", ""), lineOf(hourLine, "100", " 100"), lineOf(hourLine, "100", "100\t"),
		lineOf(nomLine, "in 80", "out 0"), lineOf(nomLine, "in 80", "in -80"), lineOf(nomLine, "in 80", "out -80"), lineOf(nomLine, "in 80", "in"), lineOf(nomLine, "in 80", "80"), lineOf(nomLine, "in 80", "in in 80"), lineOf(nomLine, "in 80", "in 80 80"), lineOf(nomLine, "in 80", "up 80"), lineOf(nomLine, "in 80", "IN 80"), lineOf(nomLine, "in 80", "0 80"), lineOf(nomLine, "in 80", "80 in"), lineOf(nomLine, "in 80", "in 1000000000000080"), lineOf(nomLine, " 3", ""), lineOf(nomLine, " 3", " 3 3"), lineOf(nomLine, "nom", "in"), lineOf(nomLine, "nom 0 5 3 in 80", "nom"), lineOf(nomLine, "nom 0 5 3 in 80", "nom in"), lineOf(nomLine, "nom 0 5 3 in 80", "nom in 0 5 3 80"), lineOf(nomLine, "0 5 3", "-0 5 3"),
		lineOf(tradeLine, "trade", "trades"), lineOf(tradeLine, " 10", ""), lineOf(tradeLine, " 10", " 10 10"), lineOf(tradeLine, "4 0", "4 -1 0"), lineOf(tradeLine, "trade", "loan"), lineOf(tradeLine, "10", "-10"), lineOf(tradeLine, "4", "04"),
		lineOf(loanLine, "loan", "lone"), lineOf(loanLine, "loan", "trade"), lineOf(loanLine, " 10", ""), lineOf(loanLine, " 10", " 10 10"), lineOf(loanLine, " 5", " -1"), lineOf(loanLine, "4", "04"),
		fileOf(strings.Split("day 0"+strings.Repeat("\nnom 0 0 0 in 999999999999999", 2), "\n")...), fileOf(strings.Split("day 0"+strings.Repeat("\ntrade 999999999999999 999999999999999 999999999999999 999999999999999", 400), "\n")...),
		strings.Repeat("x", api.BookText), strings.Repeat("\n", api.BookText), strings.Repeat(" ", api.BookText), strings.Repeat("9", api.BookText), strings.Repeat("end 1 1\n", api.BookText/8), strings.Repeat("day 0\n", api.BookText/6), "\x00\xff\xfe", "day 0\nend 1 0\n\x00",
	} {
		if d, e := book.Read(bad); e != api.ErrText || !same(d, api.BookDay{}) {
			t.Errorf("%d %q %v %v", i, bad, d, e)
		}
	}
}

// P6.6: what is a file, and not of a day, has another error than what is none.
func TestReadOfNoDay(t *testing.T) {
	repeated := func(first string, line string, count int) string {
		return fileOf(append([]string{first}, slices.Repeat([]string{line}, count)...)...)
	}
	for i, bad := range []string{
		repeated("day 49", hourLine, 49), repeated("day 0", nomLine, 201), repeated("day 0", tradeLine, 51), repeated("day 0", loanLine, 51), repeated("day 700", "hour 999999999 9 9 9", 700),
		lineOf(hourLine, "120", "800000001"), lineOf(hourLine, "100", "800000001"), lineOf(hourLine, "110", "800000001"), lineOf(hourLine, " 0", " 800000001"), lineOf(hourLine, "120", "999999999999000"),
		lineOf(nomLine, "0 5 3", "8 5 3"), lineOf(nomLine, "0 5 3", "0 48 3"), lineOf(nomLine, "0 5 3", "0 5 48"), lineOf(nomLine, "80", "100000001"), lineOf(nomLine, "in 80", "out 100000001"), lineOf(nomLine, "80", "999999999999000"), lineOf(nomLine, "in 80", "out 999999999999000"),
		lineOf(tradeLine, "4 0 1", "48 0 1"), lineOf(tradeLine, "4 0 1", "4 8 1"), lineOf(tradeLine, "4 0 1", "4 0 8"), lineOf(tradeLine, "4 0 1", "4 1 1"), lineOf(tradeLine, "10", "0"), lineOf(tradeLine, "10", "100000001"),
		lineOf(loanLine, "4 5", "4 4"), lineOf(loanLine, "4 5", "4 3"), lineOf(loanLine, "4 5", "4 0"), lineOf(loanLine, "4 5", "4 48"), lineOf(loanLine, "4 5", "47 47"), lineOf(loanLine, "0 1", "1 1"), lineOf(loanLine, "10", "0"),
		fileOf("day 0", "nom 0 0 0 in 999999999999999"), fileOf("day 0", "nom 0 0 0 out 999999999999999"),
	} {
		if d, e := book.Read(bad); e != api.ErrArg || !same(d, api.BookDay{}) {
			t.Errorf("%d %q %v %v", i, bad, d, e)
		}
	}
	for i, fine := range []string{
		repeated("day 48", hourLine, 48), repeated("day 0", nomLine, 200), repeated("day 0", tradeLine, 50), repeated("day 0", loanLine, 50),
		lineOf(nomLine, "0 5 3", "7 47 47"), lineOf(nomLine, "in 80", "out 100000000"), lineOf(tradeLine, "4 0 1 10", "47 7 0 100000000"), lineOf(loanLine, "4 5", "46 47"), lineOf(loanLine, "4 5", "0 47"), lineOf(hourLine, "120", "800000000"),
		fileOf(dayLine, hourLine, loanLine, tradeLine), fileOf(dayLine, hourLine, tradeLine, loanLine, tradeLine),
	} {
		d, e := book.Read(fine)
		if e != api.OK {
			t.Errorf("%d %q %v", i, fine, e)
		}
		if s, e := book.Print(d); e != api.OK || s != fine {
			t.Errorf("%d %q %v", i, s, e)
		}
	}
}

// P6.6: a text of as many bytes as there may be is read to its end; one that is longer is not.
func TestLongFile(t *testing.T) {
	const count = 1195
	lines := append([]string{"day 0"}, slices.Repeat([]string{"nom 0 0 0 out 1234567890"}, count)...)
	text := fileOf(lines...)
	for i := 1; len(text) < api.BookText && i <= count; i++ {
		lines[i] += strings.Repeat("0", min(4, api.BookText-len(text)))
		text = fileOf(lines...)
	}
	if d, e := book.Read(text); len(text) != api.BookText || e != api.ErrArg || !same(d, api.BookDay{}) {
		t.Error(len(text), d, e)
	}
	if d, e := book.Read(text[:len(text)-1] + "x"); e != api.ErrText || !same(d, api.BookDay{}) {
		t.Error(d, e)
	}
	for _, long := range []string{text + "\n", strings.Repeat("x", api.BookText+1), exampleFile + strings.Repeat("\n", api.BookText)} {
		if d, e := book.Read(long); e != api.ErrLong || !same(d, api.BookDay{}) {
			t.Error(len(long), d, e)
		}
	}
}

// P6.6: what was written is read as what was written, and what is read is written the same.
func TestFilesAreRead(t *testing.T) {
	r := rand.New(rand.NewSource(69))
	for i := range 300 {
		d := someDay(r, 1+i%api.BookContracts, 1+r.Intn(5), []int{3, 1000, api.BookKilos / 4}[i%3])
		if i%10 == 0 {
			d = greatDay(r, api.BookContracts, api.BookKilos/4)
		}
		s, e := book.Print(d)
		if e != api.OK {
			t.Fatal(d, e)
		}
		lines := strings.Split(s, "\n")
		if fileOf(lines[:len(lines)-2]...) != s {
			t.Fatalf("%q", s)
		}
		if again, e := book.Read(s); e != api.OK || !same(again, d) {
			t.Fatal(d, again, e)
		}
	}
}

// P6.6: a digit that was changed is noticed; whatever else was changed, what is read is written the same.
func TestChangedFiles(t *testing.T) {
	for _, file := range []string{exampleFile, mixedFile} {
		for i := range file {
			for _, b := range "0123456789 -\nxdhntle" {
				s := file[:i] + string(b) + file[i+1:]
				d, e := book.Read(s)
				if e != api.OK && !same(d, api.BookDay{}) {
					t.Errorf("%q %v", s, d)
				}
				digits := '0' <= b && b <= '9' && '0' <= file[i] && file[i] <= '9'
				if s != file && digits && e != api.ErrText {
					t.Errorf("%q %v", s, e)
				}
				if e != api.OK {
					continue
				}
				if again, e := book.Print(d); e != api.OK || again != s {
					t.Errorf("%q %q %v", s, again, e)
				}
			}
		}
	}
}
