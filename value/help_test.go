package value

import (
	"math"
	"math/big"
	"testing"

	"hansom/api"
)

const (
	least = -1 << 31
	most  = 1<<31 - 1
	whole = 1 << 32
)

// drawer draws numbers by a rule.
type drawer uint64

func (d *drawer) bits() uint64 {
	*d = *d*6364136223846793005 + 1442695040888963407
	return uint64(*d>>33)<<33 ^ uint64(*d>>20)
}

func (d *drawer) below(n int) int { return int(d.bits() >> 8 % uint64(n)) }

// number draws numbers of all lengths, most often near where they turn.
func (d *drawer) number() int {
	switch d.below(4) {
	case 0:
		return edges[d.below(len(edges))] + d.below(5) - 2
	case 1:
		return int(d.bits()) >> d.below(64)
	case 2:
		return d.below(80) - 40
	}
	return d.below(whole) + least
}

// value draws any value, though it may be none that others tell.
func (d *drawer) value() api.Value {
	return api.Value{N: d.number(), From: d.below(6) - 1, Which: d.below(3), Type: types[d.below(len(types))], Wants: d.below(5) - 1, Known: d.below(2) == 0}
}

// edges are numbers, near which something turns.
var edges = []int{
	0, 1, 2, 31, 32, 33, 64, 127, 128, 255, 256, 32767, 32768, 65535, 65536, 1 << 30, most, most + 1, whole - 1, whole, whole + 1, whole + most, 3 << 31, 1 << 40, math.MaxInt - 1, math.MaxInt,
	-1, -2, -31, -32, -33, -64, -128, -129, -255, -256, -32768, -32769, -65536, -1 << 30, least + 1, least, least - 1, -whole + 1, -whole, -whole - 1, -3 << 31, -1 << 40, math.MinInt + 1, math.MinInt,
}

// types are all types, and numbers that are none.
var types = []int{api.TypeNone, api.TypeByte, api.TypeWord, api.TypeLong, api.TypeQuad, api.TypeNear, api.TypeFar, -1, 3, 5, 7, 9, 100, 103, math.MinInt, math.MaxInt}

// froms is one value that counts from each thing, and wants each part of it, of each type, and is known or not.
func froms() []api.Value {
	var l []api.Value
	for from := api.FromNone; from <= api.FromExt; from++ {
		for which := range 3 {
			for wants := api.WantsAll; wants <= api.WantsSeg; wants++ {
				for _, kind := range []int{api.TypeNone, api.TypeByte, api.TypeWord, api.TypeLong, api.TypeQuad, api.TypeNear, api.TypeFar} {
					if from == api.FromNone && which > 0 {
						continue
					}
					for _, known := range []bool{false, true} {
						l = append(l, api.Value{N: 7, From: from, Which: which, Type: kind, Wants: wants, Known: known})
					}
				}
			}
		}
	}
	return l
}

// alone tells whether a value is a number alone.
func alone(v api.Value) bool { return v.From == 0 && v.Wants == 0 }

// folded is a great number modulo 2^32, from -2^31 on.
func folded(n *big.Int) int {
	m := new(big.Int).Mod(n, big.NewInt(whole)).Int64()
	if m > most {
		m -= whole
	}
	return int(m)
}

func great(n int) *big.Int { return big.NewInt(int64(n)) }

func sum(a, b int) int     { return folded(new(big.Int).Add(great(a), great(b))) }
func between(a, b int) int { return folded(new(big.Int).Sub(great(a), great(b))) }

// wantValue: that came, and it is something.
func wantValue(t *testing.T, what string, got api.Value, ok bool, want api.Value) {
	t.Helper()
	if got != want || !ok {
		t.Errorf("%s: %+v, %v, not %+v", what, got, ok, want)
	}
}

// wantNothing: nothing came.
func wantNothing(t *testing.T, what string, got api.Value, ok bool) {
	t.Helper()
	if got != (api.Value{}) || ok {
		t.Errorf("%s: %+v, %v, though it is nothing", what, got, ok)
	}
}
