package value

import (
	"fmt"
	"math"
	"math/big"
	"slices"
	"strings"
	"testing"

	"hansom/api"
)

var words = []string{"*", "/", "MOD", "SHL", "SHR", "AND", "OR", "XOR", "EQ", "NE", "LT", "LE", "GT", "GE"}

func TestDoByHand(t *testing.T) {
	for _, c := range []struct {
		word       string
		a, b, want int
	}{
		{"*", 6, 7, 42}, {"*", -6, 7, -42}, {"*", 6, -7, -42}, {"*", -6, -7, 42}, {"*", 0, least, 0}, {"*", 1, least, least}, {"*", -1, least, least}, {"*", least, least, 0}, {"*", most, most, 1}, {"*", most, 2, -2}, {"*", most, -1, -most}, {"*", 65536, 65536, 0}, {"*", 65536, 32768, least}, {"*", 65535, 65537, -1}, {"*", 46341, 46341, -2147479015}, {"*", 0x12345678, 0x10, 0x23456780},
		{"/", 7, 2, 3}, {"/", -7, 2, -3}, {"/", 7, -2, -3}, {"/", -7, -2, 3}, {"/", 6, 3, 2}, {"/", 0, 5, 0}, {"/", 0, -5, 0}, {"/", 1, 2, 0}, {"/", -1, 2, 0}, {"/", 1, -2, 0}, {"/", 5, 1, 5}, {"/", 5, -1, -5}, {"/", least, -1, least}, {"/", least, 1, least}, {"/", least, least, 1}, {"/", most, least, 0}, {"/", least, most, -1}, {"/", least, 2, -1 << 30}, {"/", most, 2, 1<<30 - 1}, {"/", most, -1, -most},
		{"MOD", 7, 2, 1}, {"MOD", -7, 2, -1}, {"MOD", 7, -2, 1}, {"MOD", -7, -2, -1}, {"MOD", 6, 3, 0}, {"MOD", -6, 3, 0}, {"MOD", 0, 5, 0}, {"MOD", 3, 5, 3}, {"MOD", -3, 5, -3}, {"MOD", 3, -5, 3}, {"MOD", 5, 1, 0}, {"MOD", 5, -1, 0}, {"MOD", least, -1, 0}, {"MOD", least, 1, 0}, {"MOD", least, least, 0}, {"MOD", most, least, most}, {"MOD", least, most, -1}, {"MOD", least, 10, -8}, {"MOD", most, 10, 7},
		{"SHL", 1, 4, 16}, {"SHL", 1, 0, 1}, {"SHL", 1, 1, 2}, {"SHL", 1, 30, 1 << 30}, {"SHL", 1, 31, least}, {"SHL", 1, 32, 1}, {"SHL", 1, 33, 2}, {"SHL", 1, 63, least}, {"SHL", 1, 64, 1}, {"SHL", 1, most, least}, {"SHL", 3, 31, least}, {"SHL", 2, 31, 0}, {"SHL", -1, 0, -1}, {"SHL", -1, 1, -2}, {"SHL", -1, 31, least}, {"SHL", -1, 32, -1}, {"SHL", -1, 33, -2}, {"SHL", least, 1, 0}, {"SHL", least, 0, least}, {"SHL", most, 1, -2}, {"SHL", 0x12345678, 8, 0x34567800}, {"SHL", 0x00abcdef, 8, 0xabcdef00 - whole},
		{"SHR", 16, 4, 1}, {"SHR", 1, 0, 1}, {"SHR", 1, 1, 0}, {"SHR", 1, 31, 0}, {"SHR", 1, 32, 1}, {"SHR", 2, 33, 1}, {"SHR", 1, 64, 1}, {"SHR", most, 30, 1}, {"SHR", most, 31, 0}, {"SHR", -1, 0, -1}, {"SHR", -1, 1, most}, {"SHR", -1, 16, 65535}, {"SHR", -1, 24, 255}, {"SHR", -1, 31, 1}, {"SHR", -1, 32, -1}, {"SHR", -1, 33, most}, {"SHR", -1, most, 1}, {"SHR", -2, 1, most}, {"SHR", least, 0, least}, {"SHR", least, 1, 1 << 30}, {"SHR", least, 31, 1}, {"SHR", -256, 8, 0xffffff}, {"SHR", 0x12345678, 8, 0x123456},
		{"AND", 12, 10, 8}, {"AND", -1, 5, 5}, {"AND", -2, -3, -4}, {"AND", -1, -1, -1}, {"AND", least, -1, least}, {"AND", least, most, 0}, {"AND", 0, -1, 0}, {"AND", -256, 0xffff, 0xff00},
		{"OR", 12, 10, 14}, {"OR", -1, 5, -1}, {"OR", -2, -3, -1}, {"OR", 0, 0, 0}, {"OR", least, most, -1}, {"OR", least, 1, least + 1}, {"OR", -256, 5, -251}, {"OR", 0, -7, -7},
		{"XOR", 12, 10, 6}, {"XOR", -1, 5, -6}, {"XOR", -1, -1, 0}, {"XOR", least, -1, most}, {"XOR", least, most, -1}, {"XOR", -2, -3, 3}, {"XOR", 7, 7, 0}, {"XOR", -256, 255, -1},
	} {
		wantDo(t, c.word, Num(c.a), Num(c.b), Num(c.want))
	}
}

// wantDo: two numbers come to that by a word.
func wantDo(t *testing.T, word string, a, b, want api.Value) {
	t.Helper()
	got, ok := Do(word, a, b)
	wantValue(t, fmt.Sprintf("Do(%q, %+v, %+v)", word, a, b), got, ok, want)
}

// wantNotDone: nothing comes of a word and two values.
func wantNotDone(t *testing.T, word string, a, b api.Value) {
	t.Helper()
	got, ok := Do(word, a, b)
	wantNothing(t, fmt.Sprintf("Do(%q, %+v, %+v)", word, a, b), got, ok)
}

func TestDoComparisons(t *testing.T) {
	rising := []int{least, least + 1, -65536, -32768, -256, -128, -2, -1, 0, 1, 2, 127, 255, 256, 32768, 65535, 65536, most - 1, most}
	told := func(is bool) api.Value {
		if is {
			return Num(-1)
		}
		return Num(0)
	}
	for i, a := range rising {
		for j, b := range rising {
			wantDo(t, "EQ", Num(a), Num(b), told(i == j))
			wantDo(t, "NE", Num(a), Num(b), told(i != j))
			wantDo(t, "LT", Num(a), Num(b), told(i < j))
			wantDo(t, "LE", Num(a), Num(b), told(i <= j))
			wantDo(t, "GT", Num(a), Num(b), told(i > j))
			wantDo(t, "GE", Num(a), Num(b), told(i >= j))
		}
	}
}

func TestDoByNought(t *testing.T) {
	for _, n := range append(slices.Clone(edges), 7, -7) {
		for _, word := range []string{"/", "MOD"} {
			wantNotDone(t, word, Num(n), Num(0))
			wantNotDone(t, word, Num(n), api.Value{})
			wantNotDone(t, word, Num(n), api.Value{Type: api.TypeWord, Known: true})
			wantNotDone(t, word, Num(n), api.Value{N: whole, Known: true})
		}
		for _, word := range words {
			if word != "/" && word != "MOD" {
				if _, ok := Do(word, Num(n), Num(0)); !ok {
					t.Error("nothing of", n, word, 0)
				}
			}
		}
	}
}

func TestDoShiftsBelowNought(t *testing.T) {
	for _, word := range []string{"SHL", "SHR"} {
		for _, a := range []int{0, 1, -1, most, least} {
			for _, b := range []int{-1, -2, -31, -32, -33, -64, -65536, least, least + 1} {
				wantNotDone(t, word, Num(a), Num(b))
				wantNotDone(t, word, Num(a), api.Value{N: b})
			}
		}
	}
}

// Each number of steps, of numbers of which each bit is seen.
func TestDoShiftsOfEach(t *testing.T) {
	for _, a := range []uint32{0, 1, 0x80000000, 0x12345678, 0x87654321, 0xa5a5a5a5, 0xffffffff, 0x7fffffff} {
		for b := range 200 {
			wantDo(t, "SHL", Num(int(a)), Num(b), Num(int(a)*(1<<(b&31))%whole))
			wantDo(t, "SHR", Num(int(a)), Num(b), Num(int(a)/(1<<(b&31))))
		}
	}
}

// A word is one of those that there are, in great letters, whole, and nothing else.
func TestDoOfOtherWords(t *testing.T) {
	others := []string{"", " ", "+", "-", "**", "//", "*/", "%", "&", "|", "^", "<", "<<", ">>", "=", "==", "!=", ">", ">=", "!", "~", "NOT", "SHORT", "OFFSET", "SEG", "PTR", "DUP", "SAL", "SAR", "ROL", "ROR", "DIV", "MUL", "REM", "ADD", "SUB", "NEG", "XNOR", "NAND", "NOR", "EQU", "EQV", "IMP", "LOW", "HIGH", "BYTE", "AX", "É", "\x00", "\xff", "ＡＮＤ", "LT\x00", "1", "word"}
	for _, word := range words {
		if strings.ToLower(word) != word {
			others = append(others, strings.ToLower(word), strings.ToLower(word[:1])+word[1:], word[:len(word)-1], word[1:])
		}
		others = append(others, word+" ", " "+word, "\t"+word, word+word, word+"E", word+"\x00", "A"+word, strings.Repeat(word, 100000))
	}
	for _, other := range others {
		if slices.Contains(words, other) {
			continue
		}
		for _, a := range []int{0, 1, -1, 7, least} {
			for _, b := range []int{0, 1, -1, 7, most} {
				wantNotDone(t, other, Num(a), Num(b))
			}
		}
		wantNotDone(t, other, api.Value{N: 1, From: api.FromSeg}, api.Value{N: 1, From: api.FromSeg})
	}
}

func TestDoOfEachShortWord(t *testing.T) {
	const letters = "AEGHLMNORSTUDXQa*/+-%& "
	var longer func(s string)
	longer = func(s string) {
		if !slices.Contains(words, s) {
			wantNotDone(t, s, Num(12), Num(5))
		} else if _, ok := Do(s, Num(12), Num(5)); !ok {
			t.Error("nothing of", s)
		}
		if len(s) < 3 {
			for _, r := range letters {
				longer(s + string(r))
			}
		}
	}
	longer("")
}

// Numbers alone may be of any type: what comes of them is of none.
func TestDoOfEachTwo(t *testing.T) {
	for _, word := range words {
		for _, a := range froms() {
			for _, kind := range []int{api.TypeNone, api.TypeFar} {
				for _, known := range []bool{false, true} {
					b := api.Value{N: 2, Type: kind, Known: known}
					if !alone(a) {
						wantNotDone(t, word, a, b)
						wantNotDone(t, word, b, a)
						wantNotDone(t, word, a, a)
						continue
					}
					both := a.Known && known
					n, _ := modelDo(word, 7, 2)
					wantDo(t, word, a, b, api.Value{N: n, Known: both})
					n, _ = modelDo(word, 2, 7)
					wantDo(t, word, b, a, api.Value{N: n, Known: both})
				}
			}
		}
		for _, bad := range []api.Value{{N: 1, From: -1}, {N: 1, From: 4}, {N: 1, From: whole}, {N: 1, Wants: -1}, {N: 1, Wants: 3}, {N: 1, Wants: math.MinInt}} {
			wantNotDone(t, word, bad, Num(2))
			wantNotDone(t, word, Num(2), bad)
		}
	}
}

// A number is one modulo 2^32, also where what was handed in is beyond that.
func TestDoOfNumbersBeyond(t *testing.T) {
	for _, c := range []struct {
		word       string
		a, b, want int
	}{
		{"/", whole + 4, 2, 2}, {"/", 4, whole + 2, 2}, {"/", most + 1, 2, -1 << 30}, {"MOD", whole + 7, 5, 2}, {"MOD", 7, whole - 5, 2}, {"*", whole + 3, 2*whole + 5, 15}, {"SHR", whole + 16, whole + 4, 1}, {"SHR", math.MaxInt, 1, most}, {"SHL", 1, whole + 4, 16}, {"SHL", 1, least - 1, least},
		{"EQ", whole + 1, 1, -1}, {"NE", whole, 0, 0}, {"LT", most + 1, 0, -1}, {"GT", least - 1, 0, -1}, {"LE", whole, 0, -1}, {"GE", -whole, 0, -1}, {"GT", math.MaxInt, 0, 0}, {"LT", math.MinInt, 0, 0}, {"AND", math.MaxInt, whole + 5, 5}, {"OR", whole, 5, 5}, {"XOR", math.MinInt, 5, 5},
	} {
		a, b := api.Value{N: c.a, Known: true}, api.Value{N: c.b, Known: true}
		wantDo(t, c.word, a, b, Num(c.want))
	}
	for _, word := range []string{"SHL", "SHR"} {
		wantNotDone(t, word, Num(1), api.Value{N: whole - 1, Known: true})
		wantNotDone(t, word, Num(1), api.Value{N: most + 1, Known: true})
	}
}

// modelDo is what two numbers come to, by great numbers.
func modelDo(word string, first, second int) (int, bool) {
	a, b := great(folded(great(first))), great(folded(great(second)))
	n := new(big.Int)
	switch word {
	case "*":
		return folded(n.Mul(a, b)), true
	case "/", "MOD":
		if b.Sign() == 0 {
			return 0, false
		}
		left := new(big.Int)
		n.QuoRem(a, b, left)
		if word == "MOD" {
			n = left
		}
		return folded(n), true
	case "SHL", "SHR":
		if b.Sign() < 0 {
			return 0, false
		}
		steps := uint(b.Uint64() % 32)
		if word == "SHL" {
			return folded(n.Lsh(a, steps)), true
		}
		return folded(n.Rsh(n.Mod(a, great(whole)), steps)), true
	case "AND":
		return folded(n.And(a, b)), true
	case "OR":
		return folded(n.Or(a, b)), true
	case "XOR":
		return folded(n.Xor(a, b)), true
	}
	c := a.Cmp(b)
	if map[string]bool{"EQ": c == 0, "NE": c != 0, "LT": c < 0, "LE": c <= 0, "GT": c > 0, "GE": c >= 0}[word] {
		return -1, true
	}
	return 0, slices.Contains(words, word)
}

// besideDo: Do is what the model tells of it.
func besideDo(t *testing.T, word string, a, b api.Value) {
	t.Helper()
	n, ok := modelDo(word, a.N, b.N)
	if ok && alone(a) && alone(b) {
		wantDo(t, word, a, b, api.Value{N: n, Known: a.Known && b.Known})
	} else {
		wantNotDone(t, word, a, b)
	}
}

func TestDoBesideModel(t *testing.T) {
	for _, word := range append(slices.Clone(words), "NOT") {
		for _, a := range edges {
			for _, b := range edges {
				besideDo(t, word, api.Value{N: a, Known: true}, api.Value{N: b, Known: true})
			}
		}
	}
	d := drawer(293)
	for range 40000 {
		a, b := d.value(), d.value()
		if d.below(4) > 0 {
			a.From, a.Wants, b.From, b.Wants = 0, 0, 0, 0
		}
		for _, word := range words {
			besideDo(t, word, a, b)
		}
	}
}
