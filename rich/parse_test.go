package rich_test

import (
	"regexp"
	"slices"
	"strings"
	"testing"

	"chandlery/api"
	"chandlery/dep"
	"chandlery/lex"
	"chandlery/rich"
)

// wantRich asks Parse for this one.
func wantRich(t *testing.T, s string, want api.Rich) {
	t.Helper()
	if r, place, e := rich.Parse(s); !same(r, want) || place != 0 || e != api.OK {
		t.Errorf("Parse(%.200q): %v, %d, %v, want %v", s, r, place, e, want)
	}
}

// wantWrong asks Parse for an error (R1: nothing beside it and its place).
func wantWrong(t *testing.T, s string, wantPlace int, wantError api.Errno) {
	t.Helper()
	if r, place, e := rich.Parse(s); r.Kind != 0 || r.Dep != (api.Dep{}) || r.Args != nil || place != wantPlace || e != wantError {
		t.Errorf("Parse(%.200q): %v, %d, %v, want %d, %v", s, r, place, e, wantPlace, wantError)
	}
}

// P8.2: the rich dependencies of texts, with as many spaces as may be, and with as few.
func TestParse(t *testing.T) {
	for _, c := range some {
		wantRich(t, c.s, c.r)
		wantRich(t, strings.ReplaceAll(strings.ReplaceAll(c.s, " (", "("), ") ", ")"), c.r)
		for n := range 4 * 4 * 4 {
			ahead, between, behind := strings.Repeat(" ", n%4), strings.Repeat(" ", 1+n/4%4), strings.Repeat(" ", n/16)
			wantRich(t, ahead+strings.Join(c.l, between)+behind, c.r)
		}
		wantRich(t, strings.Repeat(" ", 1000)+c.s+strings.Repeat(" ", 1000), c.r)
	}
	wantRich(t, "( a   and(b or c ) )", of(api.And, atom("a"), of(api.Or, atom("b"), atom("c"))))
	wantRich(t, "((a or b)and(c or d))", of(api.And, of(api.Or, atom("a"), atom("b")), of(api.Or, atom("c"), atom("d"))))
	wantRich(t, "(and+ or ifs)", of(api.Or, atom("and+"), atom("ifs")))
}

// P8.2: the chapter's examples.
func TestParseExamples(t *testing.T) {
	wantRich(t, "(a and b >= 1)", of(api.And, atom("a"), ranged("b", api.Greater|api.Equal, api.EVR{Ver: "1"})))
	wantRich(t, "(a if b else (c or d))", of(api.If, atom("a"), atom("b"), of(api.Or, atom("c"), atom("d"))))
	wantWrong(t, "((a))", 3, api.ErrForm)
	wantWrong(t, "(a and b or c)", 9, api.ErrForm)
	wantWrong(t, "a b", 2, api.ErrForm)
}

// P8.2: the error of lex.Words, at its place, whatever else is wrong.
func TestParseWrongBytes(t *testing.T) {
	for _, c := range []string{"\t", "\n", "\x00", "\x1f", "\x7f", "\x80", "\xff", "\u00e9", "\u00a0"} {
		wantWrong(t, c, 0, api.ErrForm)
		wantWrong(t, "a"+c, 1, api.ErrForm)
		wantWrong(t, " "+c+"a", 1, api.ErrForm)
		wantWrong(t, "(a"+c+"and b)", 2, api.ErrForm)
		wantWrong(t, "(a and b)"+c, 9, api.ErrForm)
		wantWrong(t, ") a b ((a))"+c, 11, api.ErrForm)
		wantWrong(t, strings.Repeat("(", 9)+c, 9, api.ErrForm)
		wantWrong(t, strings.Repeat("a and ", 30)+c, 180, api.ErrForm)
		wantWrong(t, c+strings.Repeat("(", lex.MaxText), 0, api.ErrTooLarge)
	}
}

// P8.2: texts of lex.MaxText bytes, and of more.
func TestParseSizes(t *testing.T) {
	for _, c := range some {
		spaces := strings.Repeat(" ", lex.MaxText-len(c.s))
		wantRich(t, spaces+c.s, c.r)
		wantRich(t, c.s+spaces, c.r)
		wantWrong(t, " "+spaces+c.s, 0, api.ErrTooLarge)
		wantWrong(t, c.s+spaces+" ", 0, api.ErrTooLarge)
		wantWrong(t, c.s+spaces[:len(spaces)-1]+"x", lex.MaxText-1, api.ErrForm)
	}
	for _, kind := range kinds[:2] {
		r := sized(t, kind, lex.MaxText)
		s, _ := rich.Show(r)
		wantRich(t, s, r)
		wantWrong(t, s+" ", 0, api.ErrTooLarge)
		wantWrong(t, s[:len(s)-1], lex.MaxText-1, api.ErrForm)
	}
	wantWrong(t, strings.Repeat(" ", lex.MaxText), lex.MaxText, api.ErrForm)
	wantWrong(t, strings.Repeat(" ", lex.MaxText+1), 0, api.ErrTooLarge)
	wantWrong(t, strings.Repeat("x", lex.MaxText), 0, api.ErrForm)
	wantWrong(t, strings.Repeat("x ", lex.MaxText/2), 2, api.ErrForm)
	wantWrong(t, strings.Repeat(")", lex.MaxText), 0, api.ErrForm)
	wantWrong(t, strings.Repeat("(", lex.MaxText), api.MaxNest, api.ErrDeep)
	wantWrong(t, strings.Repeat("(", lex.MaxText+1), 0, api.ErrTooLarge)
	wantWrong(t, strings.Repeat("(", 1<<24), 0, api.ErrTooLarge)
}

// P8.2: where a part begins there is no ), and the text does not end.
func TestParseNoPart(t *testing.T) {
	wantWrong(t, "", 0, api.ErrForm)
	wantWrong(t, " ", 1, api.ErrForm)
	wantWrong(t, "    ", 4, api.ErrForm)
	wantWrong(t, ")", 0, api.ErrForm)
	wantWrong(t, "  )", 2, api.ErrForm)
	wantWrong(t, "(", 1, api.ErrForm)
	wantWrong(t, "(  ", 3, api.ErrForm)
	wantWrong(t, "()", 1, api.ErrForm)
	wantWrong(t, "( )", 2, api.ErrForm)
	wantWrong(t, "((", 2, api.ErrForm)
	wantWrong(t, "(()", 2, api.ErrForm)
	for _, word := range []string{"and", "or", "if", "unless", "with", "without"} {
		s := "(a " + word
		wantWrong(t, s, len(s), api.ErrForm)
		wantWrong(t, s+"  ", len(s)+2, api.ErrForm)
		wantWrong(t, s+")", len(s), api.ErrForm)
		wantWrong(t, s+" )", len(s)+1, api.ErrForm)
		wantWrong(t, "(b or "+s+" )", len(s)+7, api.ErrForm)
		wantWrong(t, s+" b and", len(s)+3+3*btoi(word == "and"), api.ErrForm)
	}
	for _, s := range []string{"(a and b and", "(a or b or", "(a with b with", "(a if b else", "(a unless b else"} {
		wantWrong(t, s, len(s), api.ErrForm)
		wantWrong(t, s+" ", len(s)+1, api.ErrForm)
		wantWrong(t, s+")", len(s), api.ErrForm)
		wantWrong(t, s+" ) )", len(s)+1, api.ErrForm)
		wantWrong(t, s+" c", len(s)+2, api.ErrForm)
		wantWrong(t, s+" c  ", len(s)+4, api.ErrForm)
		wantRich(t, s+" c)", grouped(s))
	}
}

// btoi is 1 for true.
func btoi(b bool) int {
	if b {
		return 1
	}
	return 0
}

// grouped is the part of a, b and c whose text begins with s.
func grouped(s string) api.Rich {
	kind := map[string]uint8{"and": api.And, "or": api.Or, "with": api.With, "if": api.If, "unless": api.Unless}
	return of(kind[strings.Fields(s)[1]], atom("a"), atom("b"), atom("c"))
}

// P8.2: what follows the first Arg, the second and the third one, of each Kind: each word in each place.
func TestParseWordsBetween(t *testing.T) {
	words := []string{"and", "or", "if", "unless", "with", "without", "else", "And", "AND", "xor", "c", "(", ",", "1", "=x", "and,", "("}
	further := map[string]string{"and": "and", "or": "or", "if": "else", "unless": "else", "with": "with"}
	for _, first := range words {
		if !slices.Contains(words[:6], first) {
			wantWrong(t, "(a "+first+" b)", 3, api.ErrForm)
			wantWrong(t, "(a  "+first, 4, api.ErrForm)
			wantWrong(t, "((a or b) "+first+" b)", 10, api.ErrForm)
			continue
		}
		two := "(a " + first + " b "
		wantWrong(t, two, len(two), api.ErrForm)
		for _, second := range words {
			if further[first] != second {
				wantWrong(t, two+second+" c)", len(two), api.ErrForm)
				wantWrong(t, two+second, len(two), api.ErrForm)
				continue
			}
			three := two + second + " c "
			wantWrong(t, three, len(three), api.ErrForm)
			for _, third := range words {
				if second == "else" || third != second {
					wantWrong(t, three+third+" d)", len(three), api.ErrForm)
					wantWrong(t, three+third, len(three), api.ErrForm)
				}
			}
		}
	}
	for _, s := range []string{"(a", "(a ", "(a  "} {
		wantWrong(t, s, len(s), api.ErrForm)
		wantWrong(t, s+")", len(s), api.ErrForm)
		wantWrong(t, s+" = 1", len(s)+4, api.ErrForm)
		wantWrong(t, s+" = 1 )", len(s)+5, api.ErrForm)
	}
}

// P8.2: what follows the whole.
func TestParseBehind(t *testing.T) {
	for _, c := range some {
		for _, word := range []string{"a", ")", "(", "and", "else", "b = 1", "(a or b)", "1", "()"} {
			wantWrong(t, c.s+" "+word, len(c.s)+1, api.ErrForm)
			wantWrong(t, " "+c.s+"   "+word+" ", len(c.s)+4, api.ErrForm)
		}
		if len(c.l) != 1 {
			wantWrong(t, c.s+" = 1", len(c.s)+1, api.ErrForm)
		}
	}
}

// P8.2: words of which a plain dependency is not made: the place is that of the first one.
func TestParseWrongPlain(t *testing.T) {
	for _, s := range []string{
		"and", "or", "if", "else", "unless", "with", "without", ">=", "=", "<", "!", "a,b", "a>=1", "[a]", longest + "x",
		"and = 1", "= = 1", "= =", "= = =", "a = =", "a = >=", "a = a:1", "a = 1-", "a = 01:1", "a = /", "a = ,",
		"/a = 1", "a = " + longest + "x", "a >= 2147483648:1", longest + "x = 1",
	} {
		wantWrong(t, s, 0, api.ErrForm)
		wantWrong(t, "  "+s, 2, api.ErrForm)
		wantWrong(t, "("+s, 1, api.ErrForm)
		wantWrong(t, "( "+s+" and b)", 2, api.ErrForm)
		wantWrong(t, "(b and "+s+")", 7, api.ErrForm)
		wantWrong(t, "(b if c else "+s+")", 13, api.ErrForm)
		wantWrong(t, "(b and ("+s+" or c))", 8, api.ErrForm)
	}
}

// P8.2: an Op as the last word, and a word of any sort where its version stands.
func TestParseOp(t *testing.T) {
	for _, op := range ops {
		wantWrong(t, "a "+op, 0, api.ErrForm)
		wantWrong(t, "  a  "+op+"  ", 2, api.ErrForm)
		wantWrong(t, "(b or a "+op, 6, api.ErrForm)
		wantWrong(t, "/a "+op, 0, api.ErrForm)
		for _, version := range []string{"(", ")", "()", "(1", "(1)", op, "=", "1:", ":1", "1-", "-1", "1:2:3", "a/b", ","} {
			wantWrong(t, "a "+op+" "+version, 0, api.ErrForm)
			wantWrong(t, "(a "+op+" "+version+" and b)", 1, api.ErrForm)
			wantWrong(t, "(b or a "+op+" "+version+" )", 6, api.ErrForm)
			wantWrong(t, "(b or a "+op+" "+version+" and c)", 6, api.ErrForm)
		}
		wantWrong(t, "(b or a "+op+")", 6, api.ErrForm)
		wantWrong(t, "(b or a "+op+"(c))", 6, api.ErrForm)
		wantWrong(t, "a "+op+"1", 2, api.ErrForm)
		for _, version := range []string{"1", "and", "if", "else", "a", "0", "~", "1:2-3"} {
			d, _ := dep.Of("a", op, version)
			r := api.Rich{Kind: api.Atom, Dep: d}
			wantRich(t, "a "+op+" "+version, r)
			wantRich(t, "( b or a  "+op+"  "+version+" )", of(api.Or, atom("b"), r))
			wantRich(t, "(a "+op+" "+version+" and b)", of(api.And, r, atom("b")))
			wantWrong(t, "(a "+op+" "+version+" b)", 5+len(op)+len(version), api.ErrForm)
		}
	}
	for _, op := range []string{"==", "<>", "=<", "=>", "!=", "<<", ">>", "><", "<=>", "1", "~", "-"} {
		wantWrong(t, "a "+op+" 1", 2, api.ErrForm)
		wantWrong(t, "(a "+op+" 1 and b)", 3, api.ErrForm)
		wantWrong(t, "(b and a "+op+" 1)", 9, api.ErrForm)
	}
}

// P8.2: one part after another, as many as may be and more: the place is that of the first word of the first one that is too much.
func TestParseNumberOfParts(t *testing.T) {
	const pair = "(a or b)"
	for word, kind := range map[string]uint8{"and": api.And, "or": api.Or, "with": api.With} {
		full := "(a" + strings.Repeat(" "+word+" a", 22)
		wantRich(t, full+")", of(kind, slices.Repeat([]api.Rich{atom("a")}, 23)...))
		next := len(full + " " + word)
		for _, rest := range []string{"a)", "a", "a = 1)", "a =", "(a or b))", "(", "(b", "and", "= 1", ",", "/a = 1", "((((((((a"} {
			wantWrong(t, full+" "+word+" "+rest, next+1, api.ErrTooLarge)
			wantWrong(t, full+" "+word+"   "+rest+" ", next+3, api.ErrTooLarge)
		}
		wantWrong(t, full+" "+word+" )", next+1, api.ErrForm)
		wantWrong(t, full+" "+word, next, api.ErrForm)
		wantWrong(t, full+" "+word+"  ", next+2, api.ErrForm)
		wantWrong(t, full+" a", len(full)+1, api.ErrForm)
		wantWrong(t, full+" if a)", len(full)+1, api.ErrForm)
		wantWrong(t, full, len(full), api.ErrForm)
	}
	pairs := "(" + pair + strings.Repeat(" and "+pair, 6) // 22 parts
	wantRich(t, pairs+" and a and b)", of(api.And, append(slices.Repeat([]api.Rich{of(api.Or, atom("a"), atom("b"))}, 7), atom("a"), atom("b"))...))
	wantWrong(t, pairs+" and "+pair+")", len(pairs)+5+6, api.ErrTooLarge) // its second Arg
	wantWrong(t, pairs+" and a and "+pair+")", len(pairs)+11+1, api.ErrTooLarge)
	wantWrong(t, pairs+" and a and b and "+pair+")", len(pairs)+17, api.ErrTooLarge)
	wantWrong(t, pairs+" and "+pair[:5], len(pairs)+5+5, api.ErrForm)
}

// P8.2: one parenthesis in another, as many as may be and more: the place is that of the first one that is too much.
func TestParseDepth(t *testing.T) {
	for open := range 20 {
		left, right := strings.Repeat("(", open), ""
		for range open {
			right += " or s)"
		}
		starts, ends := strings.Repeat("(s or ", open), strings.Repeat(")", open)
		if open <= api.MaxNest {
			wantRich(t, left+"core"+right, nested(api.Or, open, true))
			wantRich(t, starts+"core"+ends, nested(api.Or, open, false))
			wantWrong(t, left, open, api.ErrForm)
			wantWrong(t, starts, 6*open, api.ErrForm)
			continue
		}
		wantWrong(t, left+"core"+right, api.MaxNest, api.ErrDeep)
		wantWrong(t, left, api.MaxNest, api.ErrDeep)
		wantWrong(t, starts+"core"+ends, 6*api.MaxNest, api.ErrDeep)
		wantWrong(t, starts, 6*api.MaxNest, api.ErrDeep)
	}
	deep := "(((((((" + strings.Repeat("(a or b) and ", 3) + "((a or b) or c)" // 9 in all, in the fourth Arg
	wantWrong(t, deep, 7+3*13+1, api.ErrDeep)
	wide := "(((((((" + strings.Repeat("(a or b) and ", 3) + "(a or b))" + strings.Repeat(" or s)", 6) // 8 in all, four times, of 25 parts
	wantWrong(t, wide, len(wide)-2, api.ErrTooLarge)
	wide = "(((((((" + strings.Repeat("(a or b) and ", 3) + "a)" + strings.Repeat(" or s)", 6)
	if r, place, e := rich.Parse(wide); e != api.OK || place != 0 || !wholeBy(r) {
		t.Errorf("Parse(%q): %v, %d, %v", wide, r, place, e)
	}
}

// P8.2: a parenthesis that is both too deep and a part too much is too deep; what is wrong further on does not count.
func TestParseDeepOrTooLarge(t *testing.T) {
	open := strings.Repeat("(", api.MaxNest)
	full := open + "a" + strings.Repeat(" and a", 15) // 24 parts
	wantWrong(t, full+" and (a or b)", len(full)+5, api.ErrDeep)
	wantWrong(t, full+" and a", len(full)+5, api.ErrTooLarge)
	wantWrong(t, full+" and )", len(full)+5, api.ErrForm)
	wantWrong(t, full+" and ", len(full)+5, api.ErrForm)
	wantWrong(t, full+") and (a", len(full)+6, api.ErrTooLarge)
	wantWrong(t, full[:len(full)-6]+" and (a or b)", len(full)-1, api.ErrDeep)
	wantWrong(t, full[:len(full)-6]+") and (a or b)", len(full)+1, api.ErrTooLarge)
	wantWrong(t, "(a b (((((((((", 3, api.ErrForm)
	wantWrong(t, "(a = ) (((((((((", 1, api.ErrForm)
	wantWrong(t, "((((((((( a = )", api.MaxNest, api.ErrDeep)
	wantWrong(t, full+" and a = ) (", len(full)+5, api.ErrTooLarge)
}

// ops are the texts of the Ops that are not Any.
var ops = []string{"<", "=", ">", "<=", ">="}

var (
	complete = regexp.MustCompile(`\( D(( and D)+|( or D)+|( with D)+| if D( else D)?| unless D( else D)?| without D) \)`)
	viable   = regexp.MustCompile(`^(\((| D( and D)* and| D( or D)* or| D( with D)* with| D (if|unless)( D else)?| D without) )*(\( D(( and D)+|( or D)+|( with D)+| (if|unless) D( else D)?| without D)? |D |)$`)
)

// outline is a text as far as it was read: D for each part that is complete, and what is open.
type outline struct {
	marks       string // each with a space behind it
	parts, open int
}

// with is the outline with one more mark, and whether anything may follow from that.
func (o outline) with(mark string) (outline, bool) {
	o.marks += mark + " "
	o.marks = complete.ReplaceAllString(o.marks, "D")
	o.open += btoi(mark == "(") - btoi(mark == ")")
	return o, viable.MatchString(o.marks)
}

// wrongBy is where a text's words are wrong, and how, found by other means than the program's: what was read is reduced to an outline, which is held against the form of all that may be gone on with.
func wrongBy(l []lex.Word, end int) (int, api.Errno) {
	var o outline
	for i := 0; i < len(l); {
		text, next := l[i].Text, i+1
		_, begins := o.with("(")
		mark := text
		if begins && text != "(" && text != ")" {
			mark = "D"
			if next < len(l) && slices.Contains(ops, l[next].Text) {
				next = min(i+3, len(l))
			}
		}
		switch {
		case begins && text == "(" && o.open == api.MaxNest:
			return l[i].At, api.ErrDeep
		case begins && text != ")" && o.parts == api.MaxNodes:
			return l[i].At, api.ErrTooLarge
		}
		o.parts += btoi(begins)
		var ok bool
		if o, ok = o.with(mark); !ok || mark == "D" && !plain(l[i:next]) {
			return l[i].At, api.ErrForm
		}
		i = next
	}
	if o.marks != "D " {
		return end, api.ErrForm
	}
	return 0, api.OK
}

// plain says whether words are those of a plain dependency.
func plain(l []lex.Word) bool {
	var texts []string
	for _, w := range l {
		texts = append(texts, w.Text)
	}
	_, e := dep.Of(texts...)
	return e == api.OK
}

// built is the rich dependency of words in which nothing is wrong, found by other means than the program's: from a list of parts, at each ) those since the last ( make one.
func built(l []lex.Word) api.Rich {
	var parts []api.Rich
	var starts []int
	for i := 0; i < len(l); i++ {
		text := l[i].Text
		switch kind := slices.Index([]string{"and", "or", "if", "unless", "with", "without"}, text); {
		case text == "(":
			starts = append(starts, len(parts))
			parts = append(parts, api.Rich{})
		case text == ")":
			start := starts[len(starts)-1]
			starts = starts[:len(starts)-1]
			r := of(parts[start].Kind, slices.Clone(parts[start+1:])...)
			parts = append(parts[:start], r)
		case kind >= 0:
			parts[starts[len(starts)-1]].Kind = uint8(kind) + api.And
		case text == "else":
		case i+1 < len(l) && slices.Contains(ops, l[i+1].Text):
			d, _ := dep.Of(text, l[i+1].Text, l[i+2].Text)
			parts = append(parts, api.Rich{Kind: api.Atom, Dep: d})
			i += 2
		default:
			parts = append(parts, atom(text))
		}
	}
	return parts[0]
}

// wantLikeOtherText asks Parse for what is found by other means.
func wantLikeOtherText(t *testing.T, s string) api.Errno {
	t.Helper()
	l, place, e := lex.Words(s)
	if e == api.OK {
		place, e = wrongBy(l, len(s))
	}
	if e != api.OK {
		wantWrong(t, s, place, e)
		return e
	}
	wantRich(t, s, built(l))
	return e
}

// eachList calls f with all lists of up to so many of the words.
func eachList(words []string, most int, f func([]string)) {
	f(nil)
	if most == 0 {
		return
	}
	for _, w := range words {
		eachList(words, most-1, func(l []string) { f(append([]string{w}, l...)) })
	}
}

// P8.2: all texts of a few words, held against what is found by other means.
func TestParseAll(t *testing.T) {
	read := 0
	check := func(l []string) { read += btoi(wantLikeOtherText(t, strings.Join(l, " ")) == api.OK) }
	eachList([]string{"(", ")", "a", "and", "if", "else"}, 6, check)
	eachList([]string{"(", ")", "a", "or", ">=", "1"}, 6, check)
	eachList([]string{"(", ")", "a", "/b", "and", "or", "if", "else", "unless", "with", "without", "<", "=", "1:2-3", ","}, 4, check)
	if read < 50 {
		t.Errorf("%d were read: too few", read)
	}
}

// P8.2: texts of which one word, at each place, is left out, is there twice, changes places with the next, is another one, or has another one ahead of it.
func TestParseEachWordElse(t *testing.T) {
	words := []string{"(", ")", "a", "and", "or", "if", "else", "unless", "with", "without", "<", "=", ">", "<=", ">=", "1", "x/y", ","}
	for _, c := range some {
		for i := range c.l {
			check := func(middle ...string) {
				for _, space := range []string{" ", "  "} {
					wantLikeOtherText(t, strings.Join(slices.Concat(c.l[:i], middle, c.l[i+1:]), space))
				}
			}
			check()
			check(c.l[i], c.l[i])
			check(c.l[max(i-1, 0)], c.l[i])
			for _, word := range words {
				check(word)
				check(word, c.l[i])
				check(c.l[i], word)
			}
			wantLikeOtherText(t, strings.Join(c.l[:i], " "))
			wantLikeOtherText(t, strings.Join(c.l[i:], " "))
		}
	}
}

// P8.2: many that are grown by a rule, about as deep, and of about as many parts, as may be, some of them with words changed.
func TestParseGrown(t *testing.T) {
	words := []string{"(", ")", "a", "and", "or", "if", "else", "unless", "with", "without", "<", ">=", "1", ","}
	var d dice
	found := map[api.Errno]int{}
	for range 8000 {
		l := wordsBy(d.grow(4+d.roll(30), 1+d.roll(api.MaxNest+2)))
		for range d.roll(4) {
			i := d.roll(len(l))
			l[i] = words[d.roll(len(words))]
		}
		l = l[:len(l)-d.roll(2)*d.roll(len(l))]
		var s strings.Builder
		for _, word := range l {
			s.WriteString(strings.Repeat(" ", 1+d.roll(2)) + word)
		}
		found[wantLikeOtherText(t, s.String())]++
	}
	for _, e := range []api.Errno{api.OK, api.ErrForm, api.ErrDeep, api.ErrTooLarge} {
		if found[e] < 400 {
			t.Errorf("%v: %d of 8000 texts, too few", e, found[e])
		}
	}
}

// R1: what is read shares no memory with the text, nor with another answer.
func TestParseIsNew(t *testing.T) {
	for _, c := range some {
		s := strings.Clone(c.s)
		first, _, _ := rich.Parse(s)
		second, _, _ := rich.Parse(s)
		for _, own := range textsOf(first) {
			if shared(own, s) {
				t.Errorf("Parse(%q): %q shares memory with the text", s, own)
			}
		}
		scratch(first)
		if !same(second, c.r) {
			t.Errorf("Parse(%q): another answer has changed to %v", s, second)
		}
	}
}

// scratch overwrites all lists of a rich dependency.
func scratch(r api.Rich) {
	for i := range r.Args {
		scratch(r.Args[i])
		r.Args[i] = api.Rich{Kind: 99}
	}
}

// R1: no list has room behind it that another list of the same answer lies in.
func TestParseListsApart(t *testing.T) {
	for _, c := range some {
		r, _, _ := rich.Parse(c.s)
		stretch(r)
		if !same(r, c.r) {
			t.Errorf("Parse(%q): its lists share memory: %v", c.s, r)
		}
	}
}

// stretch writes behind all lists of a rich dependency.
func stretch(r api.Rich) {
	for i := range r.Args {
		stretch(r.Args[i])
	}
	behind := r.Args[:cap(r.Args)]
	for i := len(r.Args); i < len(behind); i++ {
		behind[i] = api.Rich{Kind: 99}
	}
}
