package funcs_test

import (
	"math/big"
	"regexp"
	"slices"
	"strings"

	"marquee/api"
)

// The chapter once more: what the functions take as expressions over letters, one a kind; what they answer by numbers without bounds, runes and sorted lists.

const kindLetters = "nbidt"

type modelRow struct{ name, takes, answers string }

const (
	aNumber = "[nid]"
	aText   = "[nt]"
	likes   = "([nb]+|[nid]+|[nt]+)"
)

// modelTable is the chapter's; of answers, "first" and "their" are kinds that hang on the arguments.
func modelTable() []modelRow {
	return []modelRow{
		{"abs", aNumber, "first"},
		{"ceil", aNumber, "i"},
		{"floor", aNumber, "i"},
		{"coalesce", likes, "their"},
		{"concat", aText + "+", "t"},
		{"greatest", likes, "their"},
		{"least", likes, "their"},
		{"length", aText, "i"},
		{"lower", aText, "t"},
		{"upper", aText, "t"},
		{"nullif", "(n.|.n|bb|[id][id]|tt)", "first"},
		{"round", aNumber, "i"},
		{"sign", aNumber, "i"},
		{"substr", "[nt][ni][ni]", "t"},
		{"todec", aNumber, "d"},
		{"toint", aNumber, "i"},
		{"totext", "[nbidt]", "t"},
		{"trim", aText, "t"},
	}
}

// lettersOf answers ! for a number that is no kind.
func lettersOf(kinds []int) string {
	var s strings.Builder
	for _, k := range kinds {
		if k < 0 || k >= len(kindLetters) {
			s.WriteByte('!')
		} else {
			s.WriteByte(kindLetters[k])
		}
	}
	return s.String()
}

// model holds the table's expressions ready.
type model map[string]struct {
	takes   *regexp.Regexp
	answers string
}

func newModel() model {
	m := model{}
	for _, r := range modelTable() {
		f := m[r.name]
		f.takes, f.answers = regexp.MustCompile("^"+r.takes+"$"), r.answers
		m[r.name] = f
	}
	return m
}

func (m model) kind(name string, kinds []int) (int, api.Errno) {
	f, ok := m[name]
	s := lettersOf(kinds)
	if !ok || strings.Contains(s, "!") || !f.takes.MatchString(s) {
		return 0, api.ErrFunc
	}
	answer := f.answers
	switch answer {
	case "first":
		answer = s[:1]
	case "their":
		// Of alike kinds the later of these letters says it: n, then b, i or t, then d.
		answer = "n"
		for _, letter := range []string{"b", "i", "t", "d"} {
			if strings.Contains(s, letter) {
				answer = letter
			}
		}
	}
	return strings.Index(kindLetters, answer), api.OK
}

func (m model) call(name string, args []api.Value) (api.Value, api.Errno) {
	kind, err := m.kind(name, kindsOf(args))
	if err != api.OK {
		return null, err
	}
	if slices.ContainsFunc(args, func(v api.Value) bool { return !modelMayBe(v) }) {
		return null, api.ErrKind
	}
	if name == "coalesce" || name == "greatest" || name == "least" {
		return modelOfAlike(name, kind, args)
	}
	if name == "nullif" {
		if args[0].Kind != api.KindNull && args[1].Kind != api.KindNull && modelCompare(args[0], args[1]) == 0 {
			return null, api.OK
		}
		return args[0], api.OK
	}
	if slices.Contains(args, null) {
		return null, api.OK
	}
	if kind == api.KindText {
		return modelText(name, args)
	}
	if name == "length" {
		return whole(len([]rune(args[0].Text))), api.OK
	}
	return modelNumber(name, kind, args[0])
}

func modelMayBe(v api.Value) bool {
	bare := api.Value{Kind: v.Kind, N: v.N}
	switch v.Kind {
	case api.KindNull:
		return v == null
	case api.KindBool:
		return v == yes || v == no
	case api.KindText:
		return v == text(v.Text) && len(v.Text) <= 1024 && strings.ToValidUTF8(v.Text, "") == v.Text
	}
	return v == bare
}

// number answers the number that v is.
func number(v api.Value) *big.Rat {
	if v.Kind == api.KindInt {
		return new(big.Rat).SetInt64(int64(v.N))
	}
	return big.NewRat(int64(v.N), 10000)
}

// valueOf answers a number that a kind can say as a value of it.
func valueOf(kind int, n *big.Rat) (api.Value, api.Errno) {
	n = new(big.Rat).Set(n)
	if kind == api.KindDec {
		n.Mul(n, big.NewRat(10000, 1))
	}
	if !n.IsInt() {
		panic("a number that the kind can't say: " + n.String())
	}
	if !n.Num().IsInt64() {
		return null, api.ErrOver
	}
	return api.Value{Kind: kind, N: int(n.Num().Int64())}, api.OK
}

func modelCompare(a, b api.Value) int {
	if a.Kind == api.KindText {
		return strings.Compare(a.Text, b.Text)
	}
	return number(a).Cmp(number(b))
}

func modelOfAlike(name string, kind int, args []api.Value) (api.Value, api.Errno) {
	if name != "coalesce" && slices.Contains(args, null) {
		return null, api.OK
	}
	var l []api.Value
	for _, v := range args {
		if kind == api.KindDec && v != null {
			d, err := valueOf(kind, number(v))
			if err != api.OK {
				return null, err
			}
			v = d
		}
		if v != null {
			l = append(l, v)
		}
	}
	switch {
	case len(l) == 0:
		return null, api.OK
	case name == "least":
		slices.SortStableFunc(l, modelCompare)
	case name == "greatest":
		slices.SortStableFunc(l, func(a, b api.Value) int { return modelCompare(b, a) })
	}
	return l[0], api.OK
}

// modelFloor answers the greatest whole number that is not above n.
func modelFloor(n *big.Rat) *big.Rat {
	// Div of big numbers leaves over what is not below 0, and a denominator is above 0.
	return new(big.Rat).SetInt(new(big.Int).Div(n.Num(), n.Denom()))
}

func modelNumber(name string, kind int, v api.Value) (api.Value, api.Errno) {
	n := number(v)
	size := new(big.Rat).Abs(n)
	sign := new(big.Rat).SetInt64(int64(n.Sign()))
	switch name {
	case "abs":
		n = size
	case "ceil":
		n.Neg(modelFloor(n.Neg(n)))
	case "floor":
		n = modelFloor(n)
	case "round":
		n.Mul(sign, modelFloor(size.Add(size, big.NewRat(1, 2))))
	case "sign":
		n = sign
	case "toint":
		n.Mul(sign, modelFloor(size))
	}
	return valueOf(kind, n)
}

func modelText(name string, args []api.Value) (api.Value, api.Errno) {
	s := args[0].Text
	switch name {
	case "concat":
		for _, v := range args[1:] {
			s += v.Text
		}
		if len(s) > 1024 {
			return null, api.ErrOver
		}
	case "lower":
		s = modelLetters(s, "ABCDEFGHIJKLMNOPQRSTUVWXYZ", "abcdefghijklmnopqrstuvwxyz")
	case "upper":
		s = modelLetters(s, "abcdefghijklmnopqrstuvwxyz", "ABCDEFGHIJKLMNOPQRSTUVWXYZ")
	case "substr":
		runes := []rune(s)
		runes = runes[min(max(args[1].N, 0), len(runes)):]
		s = string(runes[:min(max(args[2].N, 0), len(runes))])
	case "totext":
		s = modelShow(args[0])
	case "trim":
		s = regexp.MustCompile(`(?s)^\x20*(.*?)\x20*$`).FindStringSubmatch(s)[1]
	}
	return text(s), api.OK
}

func modelLetters(s, from, to string) string {
	return strings.Map(func(r rune) rune {
		if i := strings.IndexRune(from, r); i >= 0 {
			return rune(to[i])
		}
		return r
	}, s)
}

func modelShow(v api.Value) string {
	switch v.Kind {
	case api.KindBool:
		return map[int]string{0: "false", 1: "true"}[v.N]
	case api.KindInt:
		return number(v).FloatString(0)
	case api.KindDec:
		return regexp.MustCompile(`^(.*\..[0-9]*?)0*$`).FindStringSubmatch(number(v).FloatString(4))[1]
	}
	return v.Text
}
