package leach_test

import (
	"math/rand"
	"slices"
	"strconv"
	"strings"
	"testing"

	"saltdome/api"
	"saltdome/leach"
)

const exampleLog = "sonar 3 100 700000\n" +
	"slice 900000 1000000 1200 100 20 40 1480000\n" +
	"slice 1000000 1000000 1100 50 30 50 3000000\n" +
	"slice 500000 600000 1000 0 40 60 3000000\n" +
	"end 38\n"

// P1.7
func TestPrint(t *testing.T) {
	least := api.LeachCavern{Hold: 1, Slices: []api.LeachSlice{{Open: 1000}}}
	for i, x := range []struct {
		c    api.LeachCavern
		want string
	}{
		{example(), exampleLog},
		{least, "sonar 1 1 0\nslice 0 0 1000 0 0 0 0\nend 32\n"},
		// 1 + 1 + 65 + 1000 is 11 times 97: two digits all the same
		{api.LeachCavern{Hold: 1, Oil: 65, Slices: least.Slices}, "sonar 1 1 65\nslice 0 0 1000 0 0 0 0\nend 00\n"},
		{api.LeachCavern{Hold: 1, Oil: 70, Slices: least.Slices}, "sonar 1 1 70\nslice 0 0 1000 0 0 0 0\nend 05\n"},
		{api.LeachCavern{Hold: 1, Oil: 64, Slices: least.Slices}, "sonar 1 1 64\nslice 0 0 1000 0 0 0 0\nend 96\n"},
	} {
		if s, e := leach.Print(x.c); e != api.OK || s != x.want {
			t.Errorf("%d %q %v", i, s, e)
		}
		if c, e := leach.Read(x.want); e != api.OK || !equalCaverns(c, x.c) {
			t.Error(i, c, e)
		}
	}
}

// P1.7
func TestReadOfNoLog(t *testing.T) {
	change := func(old, new string) string {
		s := strings.Replace(exampleLog, old, new, 1)
		if s == exampleLog {
			t.Fatal("no such text:", old)
		}
		return s
	}
	for i, bad := range []string{
		"", "\n", "sonar", "sonar 3 100 700000\n", exampleLog[:len(exampleLog)-1], exampleLog + "\n", exampleLog + exampleLog, "\n" + exampleLog, " " + exampleLog,
		change("end 38", "end 39"), change("end 38", "end 038"), change("end 38", "end 8"), change("end 38", "end"), change("end 38", "end  38"), change("end 38", "end 38 "), change("end 38", "end 38 38"), change("end", "End"), change("end 38\n", ""), change("end 38", "end 135"), change("end 38", "end +8"),
		change("sonar 3", "sonar 2"), change("sonar 3", "sonar 4"), change("sonar 3", "sonar  3"), change("sonar 3", "sonar 03"), change("sonar 3", "sonar\t3"), change("sonar 3", "sonar 99999999999999"), change("sonar 3", "sonar -1"), change("sonar", "sonars"), change("sonar", "Sonar"), change("sonar ", "sonar"), change("sonar 3 100 700000", "sonar 3 100"), change("sonar 3 100 700000", "sonar 3 100 700000 0"),
		change("slice 500000", "slice 0500000"), change("slice 500000", "slice +500000"), change("slice 500000", "slice 500_000"), change("slice 500000", "slice 5e5"), change("slice 500000", "slice 500000."), change("slice 500000", "slice 0x500000"), change("slice 500000", "slice  500000"), change("slice 500000", "slice ٥00000"), change("slice", "sonar"), change("slice ", " slice "), change("slice", "end"),
		change(" 0 40", " -0 40"), change(" 0 40", " 00 40"), change(" 0 40", "  40"), change(" 0 40", " 40"), change(" 0 40", " 0 0 40"), change(" 0 40", " x 40"), change(" 0 40", " 0\n40"),
		change("1480000\n", "1480000 \n"), change("1480000\n", "1480000\r\n"), change("1480000\n", "1480000 "), change("1480000\n", "1480000\n\n"), strings.ReplaceAll(exampleLog, "\n", "\r\n"),
		strings.Repeat("x", api.LeachText), strings.Repeat("\n", api.LeachText), strings.Repeat(" ", api.LeachText),
	} {
		if c, e := leach.Read(bad); e != api.ErrText || !equalCaverns(c, api.LeachCavern{}) {
			t.Errorf("%d %q %v", i, bad, e)
		}
	}
}

// logOf returns a log with a right check, whatever its numbers say.
func logOf(hold, oil int, lines ...[7]int) string {
	sum := len(lines) + hold + oil
	text := "sonar " + strconv.Itoa(len(lines)) + " " + strconv.Itoa(hold) + " " + strconv.Itoa(oil) + "\n"
	for _, l := range lines {
		text += "slice"
		for _, n := range l {
			sum += n
			text += " " + strconv.Itoa(n)
		}
		text += "\n"
	}
	check := strconv.Itoa(sum % 97)
	return text + "end " + strings.Repeat("0", 2-len(check)) + check + "\n"
}

// P1.7: what is a log, and not of a cavern, has another error than what is none.
func TestReadOfNoCavern(t *testing.T) {
	fine := [7]int{5, 6, 1000, 0, 1, 2, 9}
	if c, e := leach.Read(logOf(300, 0, fine)); e != api.OK || c.Slices[0] != (api.LeachSlice{Volume: span(5, 6), Open: 1000, Rate: span(1, 2), Most: 9}) {
		t.Error(c, e)
	}
	var ten, eleven [][7]int
	for range 10 {
		ten = append(ten, fine)
	}
	eleven = append(ten, fine)
	if c, e := leach.Read(logOf(300, 10000000000000, ten...)); e != api.OK || len(c.Slices) != 10 {
		t.Error(c, e)
	}
	for i, bad := range []string{
		logOf(1, 1), logOf(300, 0, eleven...), logOf(0, 0, fine), logOf(301, 0, fine), logOf(300, 99999999999999, fine),
		logOf(300, 0, [7]int{7, 6, 1000, 0, 1, 2, 9}), logOf(300, 0, [7]int{5, 6, 999, 0, 1, 2, 9}), logOf(300, 0, [7]int{5, 6, 1000, 1000, 1, 2, 9}),
		logOf(300, 0, [7]int{5, 6, 1000, 0, 3, 2, 9}), logOf(300, 0, [7]int{5, 6, 1000, 0, 1, 301, 9}), logOf(300, 0, fine, [7]int{5, 99999999999999, 1000, 0, 1, 2, 9}),
	} {
		if c, e := leach.Read(bad); e != api.ErrArg || !equalCaverns(c, api.LeachCavern{}) {
			t.Errorf("%d %q %v", i, bad, e)
		}
	}
	// a number of 15 digits is no number, and what is no log is none, whatever its numbers say
	for i, bad := range []string{logOf(300, 100000000000000, fine), strings.Replace(logOf(0, 0, fine), "slice", "sluice", 1), logOf(0, 0, fine) + "x"} {
		if c, e := leach.Read(bad); e != api.ErrText || !equalCaverns(c, api.LeachCavern{}) {
			t.Errorf("%d %q %v", i, bad, e)
		}
	}
	if c, e := leach.Read(strings.Repeat("x", api.LeachText+1)); e != api.ErrLong || !equalCaverns(c, api.LeachCavern{}) {
		t.Error(c, e)
	}
}

// P1.7: a log of as many bytes as there may be is read to its end; it has too many slices.
func TestLongLog(t *testing.T) {
	long := [7]int{10000000000000, 10000000000000, 3000, 2999, 300, 300, 10000000000000}
	lines := slices.Repeat([][7]int{long}, 288)
	for range 4 {
		lines = append(lines, [7]int{0, 0, 1000, 0, 0, 0, 0})
	}
	text := logOf(300, 99999999999999, lines...)
	if _, e := leach.Read(text); len(text) != api.LeachText || e != api.ErrArg {
		t.Error(len(text), e)
	}
	lines[291][3] = 10
	text = logOf(300, 99999999999999, lines...)
	if _, e := leach.Read(text); len(text) != api.LeachText+1 || e != api.ErrLong {
		t.Error(len(text), e)
	}
}

// P1.7: what was written is read as the same cavern, and what is read is written as the same text.
func TestLogsAreRead(t *testing.T) {
	r := rand.New(rand.NewSource(41))
	caverns := []api.LeachCavern{example()}
	c, _ := greatest()
	caverns = append(caverns, c)
	for i := range 300 {
		caverns = append(caverns, small(r, 1+i%api.LeachSlices))
	}
	for _, c := range caverns {
		s, e := leach.Print(c)
		if e != api.OK {
			t.Fatal(c, e)
		}
		d, e := leach.Read(s)
		if e != api.OK || !equalCaverns(c, d) {
			t.Fatal(c, d, e)
		}
		if again, e := leach.Print(d); e != api.OK || again != s {
			t.Fatal(s, again, e)
		}
	}
}

// P1.7: a text that is changed anywhere is no log, or it is written as it was read.
func TestChangedLogs(t *testing.T) {
	for i := range exampleLog {
		for _, b := range "0159 -\nxse" {
			s := exampleLog[:i] + string(b) + exampleLog[i+1:]
			c, e := leach.Read(s)
			if e != api.OK && !equalCaverns(c, api.LeachCavern{}) {
				t.Errorf("%q %v", s, c)
			}
			if e != api.OK {
				continue
			}
			if again, e := leach.Print(c); e != api.OK || again != s {
				t.Errorf("%q %q %v", s, again, e)
			}
		}
	}
}
