package machine_test

import (
	"math"
	"slices"
	"strconv"
	"strings"
	"testing"

	"marquee/api"
	"marquee/lex"
	"marquee/machine"
	"marquee/parse"
)

const (
	leastInt    = math.MinInt
	greatestInt = math.MaxInt
	// The farthest ints as the texts of programs write them, and the farthest decs.
	least, greatest       = "-9223372036854775808", "9223372036854775807"
	leastDec, greatestDec = "-922337203685477.5808", "922337203685477.5807"
	// The farthest whole numbers that as decs do not leave an int.
	leastWhole, greatestWhole = "-922337203685477", "922337203685477"
)

var (
	null = api.Value{Kind: api.KindNull}
	yes  = api.Value{Kind: api.KindBool, N: 1}
	no   = api.Value{Kind: api.KindBool, N: 0}
)

func whole(n int) api.Value { return api.Value{Kind: api.KindInt, N: n} }

func dec(n int) api.Value { return api.Value{Kind: api.KindDec, N: n} }

func text(s string) api.Value { return api.Value{Kind: api.KindText, Text: s} }

// badValues may not be.
func badValues() []api.Value {
	return []api.Value{
		{Kind: api.KindNull, N: 1}, {Kind: api.KindNull, Text: "a"}, {Kind: api.KindBool, N: 2}, {Kind: api.KindBool, N: -1}, {Kind: api.KindBool, N: 1, Text: "a"},
		{Kind: api.KindInt, N: 1, Text: "a"}, {Kind: api.KindDec, Text: "a"}, {Kind: api.KindText, N: 1, Text: "a"},
		text("\xff"), text(strings.Repeat("a", api.MaxText+1)), {Kind: 5}, {Kind: -1}, {Kind: leastInt}, {Kind: greatestInt, N: 3, Text: "b"},
	}
}

// row has at each place a value of the kind of that number.
func row() []api.Value { return []api.Value{null, yes, whole(7), dec(25000), text("x")} }

func aggs() []api.Value { return []api.Value{whole(9), null, text("y"), no, dec(5000)} }

// kindsByWord are the instructions as the chapter writes them.
func kindsByWord() map[string]int {
	return map[string]int{
		"Push": api.OpPush, "Field": api.OpField, "Unary": api.OpUnary, "Binary": api.OpBinary, "IsNull": api.OpIsNull,
		"Call": api.OpCall, "Jump": api.OpJump, "Unless": api.OpUnless, "Agg": api.OpAgg, "Dec": api.OpDec,
	}
}

// program answers the instructions of a text as the chapter writes them: Field 1, Push 2.5, Binary +, Call abs 1.
func program(s string) []api.Op {
	var l []api.Op
	if s == "" {
		return l
	}
	for _, line := range strings.Split(s, ", ") {
		words := strings.Fields(line)
		op := api.Op{Kind: kindsByWord()[words[0]]}
		for _, w := range words[1:] {
			n, err := strconv.Atoi(w)
			switch {
			case op.Kind == api.OpPush:
				op.Value = literal(w)
			case err == nil:
				op.N = n
			default:
				op.Text = w
			}
		}
		l = append(l, op)
	}
	return l
}

// literal answers the value that a word says.
func literal(s string) api.Value {
	switch {
	case s == "null":
		return null
	case s == "true":
		return yes
	case s == "false":
		return no
	case s[0] == '\'':
		return text(strings.Trim(s, "'"))
	}
	ahead, places, isDec := strings.Cut(s, ".")
	digits := ahead
	if isDec {
		digits += (places + "0000")[:4]
	}
	n, err := strconv.Atoi(digits)
	if err != nil {
		panic(s)
	}
	if isDec {
		return dec(n)
	}
	return whole(n)
}

// listed is a program as a text, with what Run answers.
type listed struct {
	program string
	want    api.Value
	err     api.Errno
}

func gives(program, want string) listed { return listed{program, literal(want), api.OK} }

func fails(program string, err api.Errno) listed { return listed{program, null, err} }

// checkListed: Run over row and aggs answers what is listed, and True and All say the same.
func checkListed(t *testing.T, l ...listed) {
	t.Helper()
	for _, x := range l {
		checkRun(t, program(x.program), row(), aggs(), x.want, x.err)
	}
}

func checkRun(t *testing.T, ops []api.Op, row, aggs []api.Value, want api.Value, err api.Errno) {
	t.Helper()
	if v, e := machine.Run(ops, row, aggs); v != want || e != err {
		t.Errorf("Run of %s: %v, %d, want %v, %d", shown(ops), v, e, want, err)
	}
	if is, e := machine.True(ops, row, aggs); len(ops) > 0 && (is != (want == yes) || e != err) {
		t.Errorf("True of %s: %v, %d, want it of %v, %d", shown(ops), is, e, want, err)
	}
	values := []api.Value{want}
	if err != api.OK {
		values = nil
	}
	if l, e := machine.All([][]api.Op{ops}, row, aggs); !slices.Equal(l, values) || e != err {
		t.Errorf("All of %s: %v, %d, want %v, %d", shown(ops), l, e, values, err)
	}
}

// shown is what a test tells of a program.
func shown(ops []api.Op) string {
	var s strings.Builder
	for i, op := range ops {
		if i == 40 {
			return s.String() + "and so on"
		}
		s.WriteString(strconv.Itoa(op.Kind) + " " + strconv.Itoa(op.N) + " " + op.Text + " " + strconv.Itoa(op.Value.Kind) + "/" + strconv.Itoa(op.Value.N) + "/" + op.Value.Text + "; ")
	}
	return s.String()
}

// repeated answers so many of an instruction.
func repeated(op string, times int) []api.Op { return slices.Repeat(program(op), times) }

// readExpr answers the tree of a source.
func readExpr(t *testing.T, s string) api.Node {
	t.Helper()
	l, _, e := lex.Lex(s)
	n, next, e2 := parse.Expr(l, 0)
	if e != api.OK || e2 != api.OK || next != len(l) {
		t.Fatalf("%q: %d, %d, up to %d of %d", s, e, e2, next, len(l))
	}
	return n
}
