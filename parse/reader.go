package parse

import (
	"slices"

	"marquee/api"
)

// reader goes over tokens; where it cannot go on, it gives up by a panic with a failure.
type reader struct {
	tokens []api.Token
	at     int // the place of the token that is next
	open   int // how many have begun and not ended
}

// failure says why a reader gave up, and at which token.
type failure struct {
	place int
	err   api.Errno
}

func (r *reader) stuck(err api.Errno) failure {
	return failure{r.at, err}
}

// begin opens what may be nested only so deep; it is asked ahead of all else at its token.
func (r *reader) begin() {
	if r.open == api.MaxNest {
		panic(r.stuck(api.ErrDeep))
	}
	r.open++
}

func (r *reader) end() {
	r.open--
}

// token answers the token that many behind the next one; behind the last one a TokenEnd, which no rule takes.
func (r *reader) token(behind int) api.Token {
	if place := r.at + behind; place < len(r.tokens) {
		return r.tokens[place]
	}
	return api.Token{}
}

// sees tells whether the next token is of that kind and has one of the texts.
func (r *reader) sees(kind int, texts ...string) bool {
	return is(r.token(0), kind, texts...)
}

// seesBehind tells of the token behind the next one what sees tells of that.
func (r *reader) seesBehind(kind int, texts ...string) bool {
	return is(r.token(1), kind, texts...)
}

func is(t api.Token, kind int, texts ...string) bool {
	return t.Kind == kind && slices.Contains(texts, t.Text)
}

// take is asked only where a token has been seen.
func (r *reader) take() api.Token {
	t := r.token(0)
	r.at++
	return t
}

// passes goes on behind the next token, if that is of the kind and has the text.
func (r *reader) passes(kind int, text string) bool {
	if !r.sees(kind, text) {
		return false
	}
	r.take()
	return true
}

func (r *reader) need(kind int, text string) api.Token {
	if !r.sees(kind, text) {
		panic(r.stuck(api.ErrSyntax))
	}
	return r.take()
}

// node answers a tree that begins where its token does.
func node(kind int, first api.Token, kids ...api.Node) api.Node {
	return api.Node{Kind: kind, At: first.At, Kids: kids}
}

// textNode answers one that has the text of its token, too.
func textNode(kind int, first api.Token, kids ...api.Node) api.Node {
	n := node(kind, first, kids...)
	n.Text = first.Text
	return n
}

func numberNode(kind int, first api.Token) api.Node {
	n := node(kind, first)
	n.N = first.N
	return n
}
