package words_test

import (
	"testing"

	"saltdome/words"
)

func TestNumber(t *testing.T) {
	for word, want := range map[string]int{"0": 0, "7": 7, "10": 10, "9876543210": 9876543210} {
		if n, ok := words.Number(word, 10); !ok || n != want {
			t.Error(word, n, ok)
		}
	}
	for _, word := range []string{"", "00", "01", "-1", "+1", "-0", " 1", "1 ", "1.", "1e1", "0x1", "1_0", "x", "/", ":", "٣", "1٣", "\xff", "12345678901"} {
		if n, ok := words.Number(word, 10); ok || n != 0 {
			t.Errorf("%q %d", word, n)
		}
	}
	if n, ok := words.Number("999999999999999999", 18); !ok || n != 999999999999999999 {
		t.Error(n, ok)
	}
	if _, ok := words.Number("10", 1); ok {
		t.Error("two digits are more than one")
	}
}
