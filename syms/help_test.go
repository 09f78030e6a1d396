package syms

import (
	"slices"
	"strconv"
	"strings"
	"testing"

	"hansom/api"
)

// drawer draws numbers by a rule.
type drawer uint64

func (d *drawer) below(n int) int {
	*d = *d*6364136223846793005 + 1442695040888963407
	return int(uint64(*d>>33) % uint64(n))
}

// num is a number, as names mean it.
func num(n int) api.Value { return api.Value{N: n, Known: true} }

// kinds are values, each of which has one part that is another one than the first one's.
func kinds() []api.Value {
	v := api.Value{N: 7, From: api.FromSeg, Which: 2, Type: api.TypeWord, Wants: api.WantsOff, Known: true}
	l := slices.Repeat([]api.Value{v}, 7)
	l[1].N = 8
	l[2].From = api.FromGroup
	l[3].Which = 3
	l[4].Type = api.TypeNear
	l[5].Wants = api.WantsSeg
	l[6].Known = false
	return l
}

// here stands somewhere.
var here = api.Value{N: 99, From: api.FromSeg, Which: 1, Type: api.TypeNear, Known: true}

// play does steps, one behind the other, with names of one letter. Each step tells what is to come of it:
//
//	A:5  A is 5    A=5  A is 5, until it is told again    A:5! A=5!  the same, but it was told already
//	A?5  A is got as 5    A?  A is not got    #2  two names are known
//	same, other  another pass begins, and the one that ends told the same as the one ahead, or another thing
func play(t *testing.T, steps string) *Syms {
	t.Helper()
	s := New()
	for at, step := range strings.Fields(steps) {
		if got := did(s, step); got != step {
			t.Errorf("%q: step %d, %s, came to %s", steps, at, step, got)
		}
	}
	return s
}

// did does one step, and tells what came of it, as the step would be told.
func did(s *Syms, step string) string {
	switch {
	case step == "same" || step == "other":
		if s.Pass() {
			return "other"
		}
		return "same"
	case step[0] == '#':
		return "#" + strconv.Itoa(s.Len())
	case step[1] == '?':
		return step[:2] + gotten(s.Get(step[:1]))
	}
	n, err := strconv.Atoi(strings.TrimSuffix(step[2:], "!"))
	if err != nil {
		return "no step"
	}
	switch e := s.Define(step[:1], num(n), step[1] == '='); e {
	case api.OK:
		return strings.TrimSuffix(step, "!")
	case api.ErrTwice:
		return strings.TrimSuffix(step, "!") + "!"
	default:
		return "error " + strconv.Itoa(int(e))
	}
}

// gotten is what came of a Get.
func gotten(v api.Value, ok bool) string {
	switch {
	case !ok && v == (api.Value{}):
		return ""
	case ok && v == num(v.N):
		return strconv.Itoa(v.N)
	}
	return "something else"
}

// tell tells what a name means, and that may be.
func tell(t *testing.T, s *Syms, name string, v api.Value, free bool) {
	t.Helper()
	if e := s.Define(name, v, free); e != api.OK {
		t.Errorf("Define(%q, %+v, %v): %d", name, v, free, e)
	}
}

// wantGot: a name is got so.
func wantGot(t *testing.T, s *Syms, name string, want api.Value) {
	t.Helper()
	if v, ok := s.Get(name); !ok || v != want {
		t.Errorf("Get(%q): %+v, %v, not %+v", name, v, ok, want)
	}
}

// wantLost: a name is not got, and nothing is told of it.
func wantLost(t *testing.T, s *Syms, name string) {
	t.Helper()
	if v, ok := s.Get(name); ok || v != (api.Value{}) {
		t.Errorf("Get(%q): %+v, %v, though it is not got", name, v, ok)
	}
}

// wantPass: another pass begins, and the one that ends told another thing or not.
func wantPass(t *testing.T, s *Syms, want bool) {
	t.Helper()
	if got := s.Pass(); got != want {
		t.Errorf("Pass() is %v", got)
	}
}

// wantTable: those are in the table, in that order: names of one letter, each with its number behind it, such as A5.
func wantTable(t *testing.T, s *Syms, want string) {
	t.Helper()
	var names []string
	var values []api.Value
	for _, one := range strings.Fields(want) {
		n, err := strconv.Atoi(one[1:])
		if err != nil {
			t.Fatal(err)
		}
		names, values = append(names, one[:1]), append(values, num(n))
	}
	if got := s.Table(here); !sameTable(got, api.Table{Names: names, Values: values, Here: here}) {
		t.Errorf("Table: %+v, not %s", got, want)
	}
}

func sameTable(a, b api.Table) bool {
	return slices.Equal(a.Names, b.Names) && slices.Equal(a.Values, b.Values) && a.Here == b.Here
}

// many are so many names, all unlike.
func many(n int) []string {
	l := make([]string, n)
	for i := range l {
		l[i] = "N" + strconv.Itoa(i)
	}
	return l
}
