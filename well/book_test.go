package well_test

import (
	"math/rand"
	"strconv"
	"strings"
	"testing"

	"saltdome/api"
	"saltdome/well"
)

// shortBook is the book of the example without its parts 1 to 5.
const shortBook = "well 5 2 /3\n" +
	"part 0 2 valve shut fair 100 180 2 30 /1\n" +
	"end 1 /7\n"

const longBook = "well 8 12 /9\n" +
	"part 7 0 valve open bad 5000 5000 1000 1000 /3\n" +
	"part 1 0 wall shut bad 0 0 1 1 /3\n" +
	"end 2 /4\n"

func shortWell() api.Well {
	w := example()
	w.Parts = w.Parts[:1]
	return w
}

// P4.6
func TestPrint(t *testing.T) {
	long := wellOf(8, 12,
		api.WellPart{One: 7, Other: 0, Valve: true, Open: true, Bad: true, Tested: 5000, Valid: 5000, Test: 1000, Change: 1000},
		api.WellPart{One: 1, Other: 0, Bad: true, Test: 1, Change: 1})
	for i, x := range []struct {
		w    api.Well
		want string
	}{
		{shortWell(), shortBook},
		{long, longBook},
		{wellOf(2, 0, api.WellPart{One: 0, Other: 1, Test: 1, Change: 3}), "well 2 0 /4\npart 0 1 wall shut fair 0 0 1 3 /3\nend 1 /7\n"},
	} {
		if s, e := well.Print(x.w); e != api.OK || s != x.want {
			t.Errorf("%d %q %v", i, s, e)
		}
		if w, e := well.Read(x.want); e != api.OK || !same(w, x.w) {
			t.Error(i, w, e)
		}
	}
	for _, b := range badWells() {
		w := example()
		b.change(&w)
		if s, e := well.Print(w); e != api.ErrArg || s != "" {
			t.Error(b.name, s, e)
		}
	}
}

// checked returns a line with the check digit that the chapter says.
func checked(line string) string {
	sum, digits := 0, 0
	for _, c := range line {
		if '0' <= c && c <= '9' {
			sum += []int{3, 1}[digits%2] * int(c-'0')
			digits++
		}
	}
	for digit := range 10 {
		if (sum+digit)%10 == 0 {
			return line + " /" + strconv.Itoa(digit) + "\n"
		}
	}
	return ""
}

// bookOf returns a book of some lines, with right check digits.
func bookOf(lines ...string) string {
	text := ""
	for _, l := range lines {
		text += checked(l)
	}
	return text
}

const (
	firstLine = "well 5 2"
	partLine  = "part 0 2 valve shut fair 100 180 2 30"
	lastLine  = "end 1"
)

// P4.6: what is wrong in a line is wrong though its check digit is right.
func TestReadOfNoBook(t *testing.T) {
	if bookOf(firstLine, partLine, lastLine) != shortBook {
		t.Fatal(bookOf(firstLine, partLine, lastLine))
	}
	for i, bad := range []string{
		"", "\n", "well", "well 5 2 /3", "well 5 2 /3\n", shortBook[:len(shortBook)-1], shortBook + "\n", shortBook + shortBook, "\n" + shortBook, " " + shortBook, shortBook + " ", shortBook + "x",
		strings.ReplaceAll(shortBook, "\n", "\r\n"), strings.ReplaceAll(shortBook, " ", "\t"), strings.ReplaceAll(shortBook, " ", "  "), strings.ReplaceAll(shortBook, " /", "/"), strings.ReplaceAll(shortBook, " /", " / "), strings.ReplaceAll(shortBook, "\n", " \n"), strings.ToUpper(shortBook),
		strings.Replace(shortBook, "/3", "/4", 1), strings.Replace(shortBook, "/3", "/03", 1), strings.Replace(shortBook, "/3", "/", 1), strings.Replace(shortBook, "/3", "/13", 1), strings.Replace(shortBook, " /3", "", 1), strings.Replace(shortBook, "/3", "/3 /3", 1), strings.Replace(shortBook, "/3", "3", 1), strings.Replace(shortBook, "/3", "//3", 1), strings.Replace(shortBook, "/7", "/8", 1), strings.Replace(shortBook, "/1", "/2", 1),
		bookOf(partLine, lastLine), bookOf(firstLine, partLine), bookOf(firstLine, lastLine), bookOf(firstLine, partLine, lastLine, lastLine), bookOf(firstLine, firstLine, partLine, lastLine), bookOf(firstLine, partLine, partLine, lastLine), bookOf(lastLine, partLine, firstLine), bookOf(firstLine, "", partLine, lastLine),
		bookOf(firstLine, partLine, "end 0"), bookOf(firstLine, partLine, "end 2"), bookOf(firstLine, partLine, "end 01"), bookOf(firstLine, partLine, "end"), bookOf(firstLine, partLine, "end 1 1"), bookOf(firstLine, partLine, "end -1"), bookOf(firstLine, partLine, "end x"), bookOf(firstLine, partLine, "ends 1"), bookOf(firstLine, partLine, "end 18446744073709551617"),
		bookOf("well 5", partLine, lastLine), bookOf("well 5 2 0", partLine, lastLine), bookOf("wells 5 2", partLine, lastLine), bookOf("well 5 02", partLine, lastLine), bookOf("well +5 2", partLine, lastLine), bookOf("well 5 12345678901", partLine, lastLine), bookOf("well 5 2 ", partLine, lastLine), bookOf(" well 5 2", partLine, lastLine), bookOf("well  5 2", partLine, lastLine), bookOf("well 5 ٢", partLine, lastLine),
		partBook("valve", "valves"), partBook("valve", "Valve"), partBook("valve", "shut"), partBook("valve", ""), partBook("shut", "closed"), partBook("shut", "valve"), partBook("fair", "good"), partBook("fair", "old"), partBook("valve shut", "shut valve"), partBook("shut fair", "fair shut"), partBook("part", "parts"), partBook("part", "Part"),
		partBook(" 30", ""), partBook(" 30", " 30 0"), partBook(" 30", " 030"), partBook(" 30", " -30"), partBook(" 30", " 30."), partBook(" 30", " 3e1"), partBook(" 30", " 0x30"), partBook(" 30", " 10000000030"), partBook("0 2", "0 2 0"), partBook("0 2", "0"), partBook("0 2", "00 2"), partBook("100", "1_00"), partBook("100", "1 00"), partBook("2 30", "2  30"), partBook("2 30", "2\t30"), partBook("2 30", "2 /0 30"),
		strings.Repeat("x", api.WellText), strings.Repeat("\n", api.WellText), strings.Repeat(" ", api.WellText), strings.Repeat(" /0\n", api.WellText/4), strings.Repeat("part /0\n", api.WellText/8), checked(firstLine) + strings.Repeat("part /0\n", 1000),
	} {
		if w, e := well.Read(bad); e != api.ErrText || !isZero(w) {
			t.Errorf("%d %q %v %v", i, bad, w, e)
		}
	}
}

// partBook returns the short book with something changed in the line of its part, and a check digit that is right.
func partBook(old, new string) string {
	return bookOf(firstLine, strings.Replace(partLine, old, new, 1), lastLine)
}

// P4.6: what is a book, and not of a well, has another error than what is none.
func TestReadOfNoWell(t *testing.T) {
	for i, bad := range []string{
		bookOf(firstLine, "end 0"), bookOf("well 1 2", partLine, lastLine), bookOf("well 9 2", partLine, lastLine), bookOf("well 2 2", partLine, lastLine), bookOf("well 5 13", partLine, lastLine), bookOf("well 9999999999 9999999999", partLine, lastLine),
		partBook("0 2", "2 2"), partBook("0 2", "0 5"), partBook("0 2", "9999999999 2"), partBook("valve shut", "wall open"), partBook("100", "5001"), partBook("180", "5001"), partBook("2 30", "0 30"), partBook("2 30", "2 0"), partBook("2 30", "1001 30"), partBook("2 30", "2 9999999999"),
		checked(firstLine) + strings.Repeat(checked(partLine), 13) + checked("end 13"), checked(firstLine) + strings.Repeat(checked(partLine), 200) + checked("end 200"),
	} {
		if w, e := well.Read(bad); e != api.ErrArg || !isZero(w) {
			t.Errorf("%d %q %v %v", i, bad, w, e)
		}
	}
	twelve := checked(firstLine) + strings.Repeat(checked(partLine), 12) + checked("end 12")
	if w, e := well.Read(twelve); e != api.OK || len(w.Parts) != 12 || w.Parts[11] != shortWell().Parts[0] {
		t.Error(w, e)
	}
	if w, e := well.Read(partBook("valve shut fair", "wall shut bad")); e != api.OK || w.Parts[0].Valve || !w.Parts[0].Bad {
		t.Error(w, e)
	}
}

// P4.6: a text of as many bytes as there may be is read to its end; one that is longer is not.
func TestLongBook(t *testing.T) {
	line, longer := checked(partLine), checked(partLine+"0")
	room := api.WellText - len(checked(firstLine)) - len("end 100 /0\n")
	count, rest := room/len(line), room%len(line)
	text := checked(firstLine) + strings.Repeat(longer, rest) + strings.Repeat(line, count-rest) + checked("end "+strconv.Itoa(count))
	if _, e := well.Read(text); len(text) != api.WellText || e != api.ErrArg {
		t.Error(len(text), count, e)
	}
	for _, long := range []string{text + "\n", strings.Repeat("x", api.WellText+1), shortBook + strings.Repeat("\n", api.WellText)} {
		if w, e := well.Read(long); e != api.ErrLong || !isZero(w) {
			t.Error(len(long), w, e)
		}
	}
}

// P4.6: what was written is read as the same well, and what is read is written as the same text.
func TestBooksAreRead(t *testing.T) {
	r := rand.New(rand.NewSource(14))
	for i := range 500 {
		w := someWell(r, 2+i%7, 1+i%api.WellParts)
		w.Need = r.Intn(api.WellParts + 1)
		for p := range w.Parts {
			w.Parts[p].Tested, w.Parts[p].Valid = r.Intn(api.WellDays+1), r.Intn(api.WellDays+1)
			w.Parts[p].Test, w.Parts[p].Change = 1+r.Intn(api.WellCost), 1+r.Intn(api.WellCost)
		}
		s, e := well.Print(w)
		if e != api.OK {
			t.Fatal(w, e)
		}
		got, e := well.Read(s)
		if e != api.OK || !same(got, w) {
			t.Fatal(w, got, e)
		}
		for _, line := range strings.SplitAfter(s, "\n") {
			if ahead, _, ok := strings.Cut(line, " /"); ok && checked(ahead) != line {
				t.Fatal(line)
			}
		}
	}
}

// P4.6: a digit that was changed is noticed; whatever else was changed, what is read is written the same.
func TestChangedBooks(t *testing.T) {
	for _, book := range []string{shortBook, longBook} {
		for i := range book {
			for _, b := range "0123456789 -/\nxbew" {
				s := book[:i] + string(b) + book[i+1:]
				w, e := well.Read(s)
				if e != api.OK && !isZero(w) {
					t.Errorf("%q %v", s, w)
				}
				digits := '0' <= b && b <= '9' && '0' <= book[i] && book[i] <= '9'
				if s != book && digits && e != api.ErrText {
					t.Errorf("%q %v", s, e)
				}
				if e != api.OK {
					continue
				}
				if again, e := well.Print(w); e != api.OK || again != s {
					t.Errorf("%q %q %v", s, again, e)
				}
			}
		}
	}
}
