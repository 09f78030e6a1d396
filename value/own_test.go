package value

import (
	"slices"
	"testing"

	"hansom/api"
)

// answer is what all calls answer of two values.
type answer struct {
	sum, less api.Value
	did       [14]api.Value
	oks       [16]bool
	plain     [2]bool
	fits      [2]bool
	num       api.Value
	size      int
}

func ask(a, b api.Value) (r answer) {
	r.sum, r.oks[14] = Add(a, b)
	r.less, r.oks[15] = Sub(a, b)
	for i, word := range words {
		r.did[i], r.oks[i] = Do(word, a, b)
	}
	r.plain = [2]bool{Plain(a), Plain(b)}
	r.fits = [2]bool{Fits(a.N, 1), Fits(b.N, 2)}
	r.num = Num(a.N)
	r.size = Size(a.Type)
	return r
}

// The same calls answer the same, whatever was asked between them.
func TestSameAnswers(t *testing.T) {
	d := drawer(294)
	var l [][2]api.Value
	for range 2000 {
		l = append(l, [2]api.Value{d.value(), d.value()})
	}
	handed := slices.Clone(l)
	var first []answer
	for _, two := range l {
		first = append(first, ask(two[0], two[1]))
	}
	for i, two := range slices.Backward(l) {
		if ask(two[0], two[1]) != first[i] {
			t.Errorf("another answer of %+v", two)
		}
	}
	if !slices.Equal(l, handed) {
		t.Error("what was handed in is changed")
	}
}

// Whatever is added to a value and taken from it again leaves it as it was.
func TestThereAndBack(t *testing.T) {
	d := drawer(295)
	for range 20000 {
		v, n := d.value(), Num(d.number())
		v.N, v.Known = Num(v.N).N, true
		on, _ := Add(v, n)
		back, ok := Sub(on, n)
		wantValue(t, "back", back, ok, v)
		if !alone(v) && v.Wants != api.WantsSeg {
			far, ok := Sub(on, v)
			wantValue(t, "so far", far, ok, n)
		}
	}
}

// Whatever comes is a value: its number is one of 32 bits, and where nothing comes all of it is nothing.
func TestWhateverComes(t *testing.T) {
	d := drawer(296)
	for range 20000 {
		r := ask(d.value(), d.value())
		for i, v := range append(r.did[:], r.sum, r.less) {
			if v.N < least || v.N > most || !r.oks[i] && v != (api.Value{}) {
				t.Errorf("%d: %+v, %v", i, v, r.oks[i])
			}
		}
	}
}
