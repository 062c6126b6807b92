package rich

import (
	"chandlery/api"
	"chandlery/dep"
	"chandlery/lex"
	"chandlery/span"
)

// fault is what a reader panics with: an error, and its place.
type fault struct {
	place int
	e     api.Errno
}

// reader goes over the words of a text.
type reader struct {
	words []lex.Word // those that were not read yet
	end   int        // where the text ends
	parts int        // how many have begun
	nest  int        // how many parentheses are open
}

// word is the word that is there, empty if there is none.
func (r *reader) word() string {
	if len(r.words) == 0 {
		return ""
	}
	return r.words[0].Text
}

// skip goes on by so many words.
func (r *reader) skip(n int) { r.words = r.words[n:] }

// wrong is an error at the word that is there, or at the end of the text.
func (r *reader) wrong(e api.Errno) fault {
	if len(r.words) == 0 {
		return fault{r.end, e}
	}
	return fault{r.words[0].At, e}
}

// begin counts a part whose first word is there.
func (r *reader) begin() {
	r.parts++
	if r.parts > api.MaxNodes {
		panic(r.wrong(api.ErrTooLarge))
	}
}

// demand goes past that word, which must be there; an empty one is none.
func (r *reader) demand(word string) {
	if word == "" || r.word() != word {
		panic(r.wrong(api.ErrForm))
	}
	r.skip(1)
}

// next is what reads the part that begins with the word that is there.
func (r *reader) next() func() api.Rich {
	switch r.word() {
	case opening:
		return r.group
	case closing, "":
		return r.refuse
	}
	return r.plain
}

// refuse reads what is no part.
func (r *reader) refuse() api.Rich { panic(r.wrong(api.ErrForm)) }

// plainSize is how many words a plain dependency has that begins with the word that is there.
func (r *reader) plainSize() int {
	if len(r.words) > 1 {
		if op, _ := span.Parse(r.words[1].Text); op != api.Any {
			return min(len(r.words), 3)
		}
	}
	return 1
}

// plain reads an Atom.
func (r *reader) plain() api.Rich {
	r.begin()
	var texts []string
	for _, word := range r.words[:r.plainSize()] {
		texts = append(texts, word.Text)
	}
	d, e := dep.Of(texts...)
	if e != api.OK {
		panic(r.wrong(api.ErrForm))
	}
	r.skip(len(texts))
	return api.Rich{Kind: api.Atom, Dep: d}
}

// group reads a part in parentheses.
func (r *reader) group() api.Rich {
	if r.nest == api.MaxNest {
		panic(r.wrong(api.ErrDeep))
	}
	r.begin()
	r.skip(1)
	r.nest++
	args := []api.Rich{r.next()()}
	kind := kindOf(r.word()) // any other word is refused when one is demanded
	for len(args) < leastArgs || r.word() != closing {
		r.demand(ahead(kind, len(args)))
		args = append(args, r.next()())
	}
	r.skip(1)
	r.nest--
	return api.Rich{Kind: kind, Args: args}
}

// all reads the whole text.
func (r *reader) all() api.Rich {
	read := r.next()()
	if len(r.words) > 0 {
		panic(r.wrong(api.ErrForm))
	}
	return read
}

// Parse is the rich dependency of a text.
func Parse(s string) (r api.Rich, place int, e api.Errno) {
	l, place, e := lex.Words(s)
	if e != api.OK {
		return api.Rich{}, place, e
	}
	defer func() {
		if p := recover(); p != nil {
			f := p.(fault) // any other panic would be a mistake in the program, which may not pass for a wrong text
			place, e = f.place, f.e
		}
	}()
	text := reader{words: l, end: len(s)}
	return text.all(), 0, api.OK
}
