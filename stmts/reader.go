package stmts

import (
	"marquee/api"
	"marquee/parse"
)

// reader goes over tokens; where it cannot go on, it gives up by a panic with a failure.
type reader struct {
	tokens []api.Token
	at     int // the place of the token that is next
	open   int // how many patterns have begun and not ended
}

// failure says why a reader gave up, and at which token.
type failure struct {
	place int
	err   api.Errno
}

// choice is a text that says what stands there, with the reader of that, which takes the token of that text, too.
type choice struct {
	text string
	read func() api.Node
}

// choose reads by the first of the choices whose text the next token has.
func (r *reader) choose(kind int, choices ...choice) api.Node {
	for _, c := range choices {
		if r.sees(kind, c.text) {
			return c.read()
		}
	}
	panic(failure{r.at, api.ErrSyntax})
}

// must gives up at the next token, unless that may stand there.
func (r *reader) must(may bool) {
	if !may {
		panic(failure{r.at, api.ErrSyntax})
	}
}

// begin opens what may be nested only so deep; it is asked ahead of all else at its token.
func (r *reader) begin() {
	if r.open == api.MaxNest {
		panic(failure{r.at, api.ErrDeep})
	}
	r.open++
}

func (r *reader) end() {
	r.open--
}

// next answers the token that is next; behind the last one a TokenEnd, which no rule takes.
func (r *reader) next() api.Token {
	if r.at < len(r.tokens) {
		return r.tokens[r.at]
	}
	return api.Token{}
}

// take is asked only where a token has been seen.
func (r *reader) take() api.Token {
	t := r.next()
	r.at++
	return t
}

func (r *reader) sees(kind int, text string) bool {
	t := r.next()
	return t.Kind == kind && t.Text == text
}

func (r *reader) seesWord(text string) bool {
	return r.sees(api.TokenWord, text)
}

func (r *reader) seesSign(text string) bool {
	return r.sees(api.TokenSign, text)
}

// passes goes on behind the next token, if that is of the kind and has the text.
func (r *reader) passes(kind int, text string) bool {
	if !r.sees(kind, text) {
		return false
	}
	r.take()
	return true
}

func (r *reader) passesWord(text string) bool {
	return r.passes(api.TokenWord, text)
}

func (r *reader) passesSign(text string) bool {
	return r.passes(api.TokenSign, text)
}

func (r *reader) needWord(text string) api.Token {
	r.must(r.seesWord(text))
	return r.take()
}

// needWords needs them one behind another.
func (r *reader) needWords(texts ...string) {
	for _, s := range texts {
		r.needWord(s)
	}
}

func (r *reader) needSign(text string) api.Token {
	r.must(r.seesSign(text))
	return r.take()
}

// id needs any name: whether it is too long, is not asked here.
func (r *reader) id() api.Token {
	r.must(r.next().Kind == api.TokenName)
	return r.take()
}

func (r *reader) number(kind, least, most int) api.Token {
	t := r.next()
	r.must(t.Kind == kind && least <= t.N && t.N <= most)
	return r.take()
}

// size needs how many events a view or a rate takes.
func (r *reader) size() api.Token {
	return r.number(api.TokenInt, 1, api.MaxSize)
}

func (r *reader) period(least int) api.Token {
	return r.number(api.TokenPeriod, least, api.MaxTime)
}

// expr reads by the layer below, which counts what is open from none on.
func (r *reader) expr() api.Node {
	n, next, err := parse.Expr(r.tokens, r.at)
	if err != api.OK {
		panic(failure{next, err})
	}
	r.at = next
	return n
}

// list reads things with , between; that one is too many is seen at its first token, whatever that is.
func (r *reader) list(most int, thing func() api.Node) []api.Node {
	l := []api.Node{thing()}
	for r.passesSign(",") {
		r.must(len(l) < most)
		l = append(l, thing())
	}
	return l
}

// listed is a list in brackets.
func (r *reader) listed(most int, thing func() api.Node) []api.Node {
	r.needSign("(")
	l := r.list(most, thing)
	r.needSign(")")
	return l
}

// node answers a tree that begins where its token does.
func node(kind int, first api.Token, kids ...api.Node) api.Node {
	return api.Node{Kind: kind, At: first.At, Kids: kids}
}

// textNode answers one that has the text of its token, too.
func textNode(kind int, first api.Token, kids ...api.Node) api.Node {
	n := node(kind, first, kids...)
	n.Text = first.Text
	return n
}

func numberNode(kind int, first api.Token) api.Node {
	n := node(kind, first)
	n.N = first.N
	return n
}

// none stands where nothing does, so it begins nowhere.
func none() api.Node {
	return api.Node{Kind: api.None}
}
