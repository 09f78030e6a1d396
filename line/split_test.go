package line

import (
	"strings"
	"testing"

	"hansom/api"
)

func TestSplitByHand(t *testing.T) {
	if got := Split(nil); len(got) != 0 {
		t.Error(got)
	}
	if got := Split([]api.Token{}); len(got) != 0 {
		t.Error(got)
	}
	for _, c := range []struct{ text, want string }{
		{"a", "a"}, {"5", "5"}, {"'x'", "'x'"}, {"1%2", "1%2"}, {"+", "+"}, {"(", "("}, {")", ")"}, {"[", "["}, {"]", "]"}, {":", ":"}, {"a b", "a b"}, {"a+2", "a+2"},
		{"a,b", "a|b"}, {"ax,1", "ax|1"}, {"a,b,c", "a|b|c"}, {"a b,c d", "a b|c d"}, {"1,2,3,4,5,6,7,8", "1|2|3|4|5|6|7|8"},
		{",", "|"}, {",,", "||"}, {",,,", "|||"}, {",a", "|a"}, {"a,", "a|"}, {",a,", "|a|"}, {"a,,b", "a||b"}, {",,a", "||a"}, {"a,,", "a||"}, {"a,,,b", "a|||b"},
		{"(a,b)", "(a,b)"}, {"[a,b]", "[a,b]"}, {"(a,b),c", "(a,b)|c"}, {"[a,b],c", "[a,b]|c"}, {"c,(a,b)", "c|(a,b)"}, {"c,[a,b],d", "c|[a,b]|d"}, {"(,)", "(,)"}, {"[,]", "[,]"},
		{"(),()", "()|()"}, {"[],[]", "[]|[]"}, {"(a),(b)", "(a)|(b)"}, {"(),", "()|"}, {",()", "|()"}, {",(,),", "|(,)|"},
		{"((a,b),c),d", "((a,b),c)|d"}, {"(a,(b,c)),d", "(a,(b,c))|d"}, {"[(a,b),c],d", "[(a,b),c]|d"}, {"([a,b],c),d", "([a,b],c)|d"}, {"[[a,b],c],d", "[[a,b],c]|d"}, {"(((,),),),(((,),),)", "(((,),),)|(((,),),)"},
		{"3 dup(1,2),4", "3 dup(1,2)|4"}, {"3 dup(1,2 dup(3,4),5),6,7", "3 dup(1,2 dup(3,4),5)|6|7"}, {"word ptr [bx+si],ax", "word ptr [bx+si]|ax"},
		{"(a,b", "(a,b"}, {"[a,b", "[a,b"}, {"a,(b,c", "a|(b,c"}, {"((a,b),c", "((a,b),c"}, {"(a,[b,c],d", "(a,[b,c],d"}, {"(,", "(,"}, {",(", "|("}, {"((,),),(,", "((,),)|(,"},
		{"a),b", "a)|b"}, {"a],b", "a]|b"}, {"),b", ")|b"}, {"],", "]|"}, {")),b,c", "))|b|c"}, {"),(a,b),c", ")|(a,b)|c"}, {")(a,b),c", ")(a,b)|c"}, {"](a,b", "](a,b"}, {"))(a,(b,c),d),e", "))(a,(b,c),d)|e"}, {"(a)),(b,c)", "(a))|(b,c)"},
		{"(a],b", "(a]|b"}, {"[a),b", "[a)|b"}, {"([a,b]],c", "([a,b]]|c"}, {"([)],a", "([)]|a"}, {"([),a],b", "([),a]|b"},
		{"'a,b',c", "'a,b'|c"}, {"','", "','"}, {"',',','", "','|','"}, {"'(',a", "'('|a"}, {"'[',a", "'['|a"}, {"(')',a),b", "(')',a)|b"}, {"[']',a],b", "[']',a]|b"}, {"\",\",a", "\",\"|a"}, {"'',''", "''|''"},
	} {
		wantSplit(t, c.text, c.want)
	}
}

// Only a sign parts or is a bracket: not another piece, nor one that no line tells, whatever its letters.
func TestSplitOfOtherPieces(t *testing.T) {
	comma := api.Token{Kind: api.TokSign, S: ","}
	for kind := -2; kind < 12; kind++ {
		for _, s := range []string{",", "(", ")", "[", "]", "", ",,", "()", "a", " ,", "\xff"} {
			one := api.Token{Kind: kind, S: s, N: 1 << 63, D: 7}
			switch {
			case kind == api.TokSign && s == ",":
				wantParts(t, []api.Token{one, one}, [][]api.Token{nil, nil, nil})
			case kind == api.TokSign && (s == "(" || s == "["):
				wantParts(t, []api.Token{one, comma}, [][]api.Token{{one, comma}})
			default:
				wantParts(t, []api.Token{one, one, comma, one}, [][]api.Token{{one, one}, {one}})
			}
		}
	}
}

// Brackets may be as deep as there are pieces.
func TestSplitOfDeep(t *testing.T) {
	left, right := api.Token{Kind: api.TokSign, S: "["}, api.Token{Kind: api.TokSign, S: "]"}
	comma := api.Token{Kind: api.TokSign, S: ","}
	for _, deep := range []int{1, 2, 127, 128, 255, 256, 257, 65535, 65536, 65537} {
		var l []api.Token
		for range deep {
			l = append(l, left)
		}
		l = append(l, comma)
		wantWhole(t, l, deep)
		for range deep - 1 {
			l = append(l, right)
		}
		l = append(l, comma)
		wantWhole(t, l, deep)
		l = append(l, right, comma, left)
		if got := Split(l); len(got) != 2 || len(got[0]) != len(l)-2 || len(got[1]) != 1 {
			t.Errorf("%d deep: %d parts", deep, len(got))
		}
	}
}

// wantWhole: all pieces are one part.
func wantWhole(t *testing.T, l []api.Token, deep int) {
	t.Helper()
	if got := Split(l); len(got) != 1 || len(got[0]) != len(l) {
		t.Errorf("%d deep: %d parts", deep, len(got))
	}
}

// Every short list of the pieces that matter.
func TestSplitOfEveryShort(t *testing.T) {
	letters := pieces(t, ",()[]a',''('")
	var longer func(l []api.Token)
	longer = func(l []api.Token) {
		wantParts(t, l, modelSplit(l))
		if len(l) < 5 {
			for _, one := range letters {
				longer(append(l[:len(l):len(l)], one))
			}
		}
	}
	longer(nil)
}

func TestSplitBesideModel(t *testing.T) {
	d := drawer(311)
	for range 5000 {
		l := pieces(t, d.of(d.below(40), strings.Fields(", , ( ) [ ] a 5 'x' : + ',' '(' ')' 1%2"), 1))
		wantParts(t, l, modelSplit(l))
	}
}
