package words_test

import (
	"testing"

	"saltdome/words"
)

func TestNumber(t *testing.T) {
	for word, want := range map[string]int{"0": 0, "7": 7, "10": 10, "9876543210": 9876543210} {
		if n, ok := words.Number(word, 10); !ok || n != want {
			t.Error(word, n, ok)
		}
	}
	for _, word := range []string{"", "00", "01", "-1", "+1", "-0", " 1", "1 ", "1.", "1e1", "0x1", "1_0", "x", "/", ":", "٣", "1٣", "\xff", "12345678901"} {
		if n, ok := words.Number(word, 10); ok || n != 0 {
			t.Errorf("%q %d", word, n)
		}
	}
	if n, ok := words.Number("999999999999999999", 18); !ok || n != 999999999999999999 {
		t.Error(n, ok)
	}
	if _, ok := words.Number("10", 1); ok {
		t.Error("two digits are more than one")
	}
}

func TestNumbers(t *testing.T) {
	var a, b int
	if !words.Numbers([]string{"7", "10"}, 2, &a, &b) || a != 7 || b != 10 {
		t.Error(a, b)
	}
	if !words.Numbers(nil, 2) {
		t.Error("no words are no numbers")
	}
	for _, list := range [][]string{nil, {"7"}, {"7", "10", "1"}, {"7", "x"}, {"x", "7"}, {"7", "100"}, {"7", ""}, {"07", "1"}} {
		if words.Numbers(list, 2, &a, &b) {
			t.Error(list)
		}
	}
}
