package lex

import (
	"strings"
	"testing"
	"unicode"
)

func TestUpperByHand(t *testing.T) {
	for _, c := range []struct{ s, want string }{
		{"", ""}, {"a", "A"}, {"z", "Z"}, {"A", "A"}, {"Z", "Z"}, {"mov", "MOV"}, {"MoV aX,12h", "MOV AX,12H"},
		{"0123456789", "0123456789"}, {"_@?$", "_@?$"}, {"@AZ[`az{", "@AZ[`AZ{"}, {"a\x00b", "A\x00B"}, {" \t\r\n", " \t\r\n"},
		{"\x7f\x80\xe1\xfa\xff", "\x7f\x80\xe1\xfa\xff"}, {"a\xffz", "A\xffZ"}, {"\xc3", "\xc3"},
		{"é", "é"}, {"aéz", "AéZ"}, {"ÿ", "ÿ"}, {"ſ", "ſ"}, {"ı", "ı"}, {"ß", "ß"}, {"ａ", "ａ"}, {"\U00010428", "\U00010428"}, {"\ufffd", "\ufffd"},
		{"abcdefghijklmnopqrstuvwxyz", "ABCDEFGHIJKLMNOPQRSTUVWXYZ"}, {"ABCDEFGHIJKLMNOPQRSTUVWXYZ", "ABCDEFGHIJKLMNOPQRSTUVWXYZ"},
	} {
		if got := Upper(c.s); got != c.want {
			t.Errorf("Upper(%q): %q, not %q", c.s, got, c.want)
		}
	}
}

func TestUpperOfEveryByte(t *testing.T) {
	for i := range 256 {
		c := byte(i)
		want := c
		if c < 0x80 && unicode.IsLower(rune(c)) {
			want = c - 0x20
		}
		for _, s := range []string{"", "a", "Z", "\xc3", "\xff", "1"} {
			ahead := strings.ReplaceAll(s, "a", "A")
			if got := Upper(s + string([]byte{c}) + s); got != ahead+string([]byte{want})+ahead {
				t.Errorf("Upper of %q and %x: %q", s, c, got)
			}
		}
	}
}

func TestUpperOfLong(t *testing.T) {
	if got := Upper(strings.Repeat("az\xff", 100000)); got != strings.Repeat("AZ\xff", 100000) {
		t.Error("a long text is not great")
	}
}

func TestNumberByHand(t *testing.T) {
	for _, c := range []struct {
		s    string
		want uint64
	}{
		{"0", 0}, {"1", 1}, {"9", 9}, {"10", 10}, {"12", 12}, {"007", 7}, {"1234567890", 1234567890},
		{"0H", 0}, {"0h", 0}, {"9H", 9}, {"12H", 18}, {"12h", 18}, {"10H", 16}, {"0AH", 10}, {"0ah", 10}, {"0FFH", 255}, {"0ffh", 255}, {"0fFh", 255},
		{"0ABCDEFH", 0xabcdef}, {"1234567890H", 0x1234567890}, {"9AbCdEfh", 0x9abcdef}, {"0FFFFFFFFH", 0xffffffff},
		{"0B", 0}, {"1B", 1}, {"1b", 1}, {"10B", 2}, {"10b", 2}, {"01B", 1}, {"10110B", 22}, {"11111111b", 255},
		{"1BH", 27}, {"1bh", 27}, {"0BH", 11}, {"0B0H", 176}, {"1B1BH", 0x1b1b}, {"2BH", 43}, {"10BH", 0x10b}, {"0DH", 13}, {"1DH", 29}, {"3E8H", 1000}, {"1E3H", 0x1e3},
	} {
		wantNumber(t, c.s, c.want)
	}
}

func TestNumberMost(t *testing.T) {
	ones := "1" + strings.Repeat("0", 53)
	for _, c := range []struct {
		s    string
		want uint64
	}{
		{"9007199254740992", 1 << 53}, {"9007199254740991", 1<<53 - 1}, {"9007199254740990", 1<<53 - 2},
		{"20000000000000H", 1 << 53}, {"20000000000000h", 1 << 53}, {"1FFFFFFFFFFFFFH", 1<<53 - 1}, {"1ffffffffffffeh", 1<<53 - 2},
		{ones + "B", 1 << 53}, {ones + "b", 1 << 53}, {strings.Repeat("1", 53) + "B", 1<<53 - 1},
	} {
		wantNumber(t, c.s, c.want)
		for _, many := range []int{1, 2, 20, 64, 100, 300, 100000} {
			wantNumber(t, strings.Repeat("0", many)+c.s, c.want)
		}
	}
	for _, s := range []string{
		"9007199254740993", "9007199254740994", "9007199254741000", "9999999999999999", "10000000000000000", "90071992547409920", "9007199254740992000",
		"20000000000001H", "20000000000001h", "2000000000000fH", "20000000000010H", "200000000000000H", "3FFFFFFFFFFFFFH", "100000000000000H",
		ones[:53] + "1B", ones[:53] + "1b", ones + "0B", strings.Repeat("1", 54) + "B",
	} {
		wantNone(t, s)
		for _, many := range []int{1, 2, 20, 64, 100, 300, 100000} {
			wantNone(t, strings.Repeat("0", many)+s)
		}
	}
}

// What needs more than 64 bits must not be taken for what is left of it.
func TestNumberBeyondWords(t *testing.T) {
	for _, s := range []string{
		"18446744073709551615", "18446744073709551616", "18446744073709551617", "36893488147419103233", "100000000000000000000", "184467440737095516160",
		"0FFFFFFFFFFFFFFFFH", "10000000000000000H", "10000000000000001H", "100000000000000000000000001H",
		"1" + strings.Repeat("0", 63) + "B", "1" + strings.Repeat("0", 64) + "B", "1" + strings.Repeat("0", 64) + "1B", "1" + strings.Repeat("0", 128) + "1B",
		strings.Repeat("9", 100000), strings.Repeat("9", 100000) + "H", strings.Repeat("1", 100000) + "B",
		"1" + strings.Repeat("0", 100000), "1" + strings.Repeat("0", 100000) + "H", "1" + strings.Repeat("0", 100000) + "B",
	} {
		wantNone(t, s)
	}
	for many := 17; many < 200; many++ {
		for _, end := range []string{"", "H"} {
			wantNone(t, "1"+strings.Repeat("0", many)+end)
			wantNone(t, "1"+strings.Repeat("0", many)+"1"+end)
		}
		wantNone(t, "1"+strings.Repeat("0", many+37)+"B")
	}
}

func TestNumberOfNone(t *testing.T) {
	for _, s := range []string{
		"", "H", "h", "B", "b", "D", "A", "HH", "BB", "BH", "HB", "FFH", "ffh", "AH", "A1H", "B1", "a0h", "X", "_1", "$1", "@", "?",
		"2B", "9b", "12B", "1021B", "10A", "1A", "0A", "9F", "12A4", "0FF", "0G", "0GH", "12GH", "1Z", "12Z", "12D", "12d", "12O", "12Q", "12T", "12X", "0x10", "1E5", "1_0", "12$", "12?", "12@",
		"AB", "0AB", "0ab", "1HB", "1HH", "12HH", "1H2", "12H1", "1BB", "10BB", "1B1", "10B0", "1B2B", "0HB", "0H0H",
		"+1", "-1", "-0", " 1", "1 ", "1 2", "1 H", "1 B", "\t1", "1\t", "1\r", "1\n", "\n1", "1,2", "1.5", "1.", ".1", "1%2", "12H ", " 12H", "1+H", "1-B", "'1'", "1;", "1\x00", "\x001",
		"é", "1é", "é1", "1éH", "１", "1１", "1１H", "٣", "1\xff", "\xff", "\xffH", "1\xffH", "\x80", "1\ufffd", "1\ufffdH", "1ſH", "1\U0001d7ce", ":", "/", "1:", "1/", "1:H", "1/H", "1@H", "1`H", "1gH", "1GH",
	} {
		wantNone(t, s)
	}
}

// Which digits each base has: all bytes, alone, within a number, and at its end.
func TestNumberDigits(t *testing.T) {
	for i := range 256 {
		c := string([]byte{byte(i)})
		for _, s := range []string{c, c + "H", c + "B", "0" + c, "0" + c + "H", "0" + c + "B", "1" + c + "1", "1" + c + "1H", "1" + c + "1B", "1" + c + "h", "1" + c + "b", "10" + c} {
			beside(t, s)
		}
	}
}

// beside: a text is what the model tells of it.
func beside(t *testing.T, s string) {
	t.Helper()
	if n, ok := modelNumber(s); ok {
		wantNumber(t, s, n)
	} else {
		wantNone(t, s)
	}
}

func TestNumberBesideModel(t *testing.T) {
	d := drawer(281)
	for range 30000 {
		beside(t, d.text(d.below(20), "0123456789abcdefhABCDEFH"))
		beside(t, d.text(1, "0123456789")+d.text(d.below(18), "0123456789ABCDEFabcdef")+d.text(1, "Hh"))
		beside(t, d.text(d.below(60), "01")+d.text(d.below(3), "BbH"))
		beside(t, d.text(d.below(20), "0123456789")+d.text(d.below(2), "DHBGx"))
		beside(t, d.text(d.below(6), "01BH Gg%$"))
	}
}

// Every short text of letters that matter.
func TestNumberOfEveryShort(t *testing.T) {
	const letters = "019AabBfFgHhZ_ +%"
	var go4 func(s string)
	go4 = func(s string) {
		beside(t, s)
		if len(s) < 4 {
			for _, r := range letters {
				go4(s + string(r))
			}
		}
	}
	go4("")
}
