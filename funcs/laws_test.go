package funcs_test

import (
	"math/rand"
	"slices"
	"strings"
	"testing"

	"marquee/api"
	"marquee/funcs"
	"marquee/value"
)

// against holds one call against the model, and against promise 10.3.
func (m model) against(t *testing.T, name string, args []api.Value) (api.Value, api.Errno) {
	t.Helper()
	want, err := m.call(name, args)
	v, e := funcs.Call(name, args)
	if v != want || e != err {
		t.Errorf("%s(%#v): %#v, %d, want %#v, %d", name, args, v, e, want, err)
	}
	kind, e2 := funcs.Kind(name, kindsOf(args))
	if (e == api.ErrFunc) != (e2 == api.ErrFunc) {
		t.Errorf("%s(%#v): %d, its kinds %d", name, args, e, e2)
	}
	if value.Check(v) != api.OK || e != api.OK && v != null || v.Kind != api.KindNull && v.Kind != kind {
		t.Errorf("%s(%#v): %#v, %d, of the kind %d", name, args, v, e, kind)
	}
	return v, e
}

// Promises 10.2, 10.3: each function of each value, and of each two.
func TestAgainstModel(t *testing.T) {
	m := newModel()
	all := slices.Concat(goodValues(), badValues(), kindless())
	for _, name := range allNames() {
		m.against(t, name, nil)
		for _, a := range all {
			m.against(t, name, list(a))
			for _, b := range all {
				m.against(t, name, list(a, b))
			}
		}
	}
}

// Promises 10.2, 10.3: pieces of each text.
func TestSubstrAgainstModel(t *testing.T) {
	m := newModel()
	places := append(numberEdges(), -3, 3, 4, 5, 6, 7, 511, 512, 513, 1023, 1024, 1025)
	for _, s := range texts() {
		for _, from := range places {
			for _, many := range places {
				m.against(t, "substr", list(s, whole(from), whole(many)))
			}
		}
	}
}

// Promise 10.2: what is done to one rune at either end of a text, and within it.
func TestEachRuneAgainstModel(t *testing.T) {
	m := newModel()
	for r := range rune(0x3100) {
		s := string(r)
		for _, name := range []string{"length", "lower", "totext", "trim", "upper"} {
			m.against(t, name, list(text(s)))
			m.against(t, name, list(text(s+" b"+s+"B "+s)))
			m.against(t, name, list(text(" "+s+" ")))
		}
	}
}

// chance draws arguments, most of which fit.
type chance struct{ *rand.Rand }

func (c chance) pick(l []api.Value) api.Value { return l[c.Intn(len(l))] }

func (c chance) number() api.Value {
	n := int(c.Uint64()) >> c.Intn(64)
	if c.Intn(4) == 0 {
		n = n / 5000 * 5000
	}
	return []api.Value{whole(n), dec(n)}[c.Intn(2)]
}

func (c chance) text() api.Value {
	l := []string{"a", "Z", " ", "m", "É", "é", "日", "😀", "\t", "'", "", "@", "{"}
	var s strings.Builder
	for range c.Intn(8) {
		s.WriteString(l[c.Intn(len(l))])
	}
	if c.Intn(10) == 0 {
		s.WriteString(strings.Repeat("y", c.Intn(api.MaxText-s.Len()+1)))
	}
	return text(s.String())
}

// value draws one of a class, and now and then one of another, or one that may not be.
func (c chance) value(class int) api.Value {
	switch r := c.Intn(60); {
	case r == 0:
		return c.value(c.Intn(4))
	case r == 1:
		return c.pick(badValues())
	case r < 6:
		return null
	}
	switch class {
	case 0:
		return c.number()
	case 1:
		return c.text()
	case 2:
		return c.pick(list(yes, no))
	}
	return whole(c.Intn(12) - 2)
}

func (c chance) args(name string) []api.Value {
	class, many := c.Intn(4), 1+c.Intn(4)
	switch name {
	case "abs", "ceil", "floor", "round", "sign", "todec", "toint":
		class, many = 0, 1
	case "length", "lower", "trim", "upper":
		class, many = 1, 1
	case "totext":
		many = 1
	case "nullif":
		many = 2
	case "concat":
		class = 1
	case "substr":
		return list(c.value(1), c.value(3), c.value(3))
	}
	var l []api.Value
	for range many {
		l = append(l, c.value(class))
	}
	return l
}

// Promises 10.2, 10.3: values drawn by chance; each answer, and most errors, must come often enough to say something.
func TestAgainstModelByChance(t *testing.T) {
	m := newModel()
	c := chance{rand.New(rand.NewSource(10))}
	for _, name := range allNames() {
		told := map[api.Errno]int{}
		for range 20000 {
			_, e := m.against(t, name, c.args(name))
			told[e]++
		}
		if told[api.OK] < 8000 || told[api.ErrFunc] == 0 && name != "totext" || told[api.ErrKind] == 0 {
			t.Errorf("%s: too few of one: %v", name, told)
		}
	}
}

// twice is a law of promise 10.3: a function of itself is the same again.
func twice(t *testing.T, name string, v api.Value) {
	t.Helper()
	once, e := funcs.Call(name, list(v))
	if e == api.OK {
		checkCalls(t, good(once, name, once))
	}
}

// Promise 10.3.
func TestTheSameAgain(t *testing.T) {
	c := chance{rand.New(rand.NewSource(11))}
	for _, v := range append(texts(), null) {
		twice(t, "upper", v)
		twice(t, "lower", v)
		twice(t, "trim", v)
	}
	for _, v := range append(numbers(), null) {
		twice(t, "abs", v)
	}
	for range 5000 {
		s := c.text()
		twice(t, "upper", s)
		twice(t, "lower", s)
		twice(t, "trim", s)
		twice(t, "abs", c.number())
	}
}

// Promise 10.3: a text in two pieces, one behind the other, is the text.
func TestTwoPieces(t *testing.T) {
	c := chance{rand.New(rand.NewSource(12))}
	l := texts()
	for range 2000 {
		l = append(l, c.text())
	}
	for _, s := range l {
		n, _ := funcs.Call("length", list(s))
		for _, at := range []int{leastInt, -1, 0, 1, 2, 3, n.N / 2, n.N - 1, n.N, n.N + 1, greatestInt} {
			first, e1 := funcs.Call("substr", list(s, whole(0), whole(at)))
			second, e2 := funcs.Call("substr", list(s, whole(at), n))
			if e1 != api.OK || e2 != api.OK {
				t.Errorf("pieces of %#v at %d: %d, %d", s, at, e1, e2)
			}
			checkCalls(t, good(s, "concat", first, second))
		}
	}
}

// R4: what is handed in is as it was, behind its end, too.
func TestHandedInIsNotChanged(t *testing.T) {
	behind := text("behind")
	eachFitting(func(name string, args []api.Value) {
		for _, v := range list(args[0], null, badValues()[0]) {
			l := append(with(args, 0, v), behind, behind)
			was := slices.Clone(l)
			funcs.Call(name, l[:len(args)])
			if !slices.Equal(l, was) {
				t.Errorf("%s changed %#v to %#v", name, was, l)
			}
			kinds := kindsOf(l)
			funcs.Kind(name, kinds[:len(args)])
			if !slices.Equal(kinds, kindsOf(was)) {
				t.Errorf("%s changed kinds %v to %v", name, kindsOf(was), kinds)
			}
		}
	})
}

// R5: the same again, whatever was asked between.
func TestTheSameAnswerEachTime(t *testing.T) {
	first := map[string]api.Value{}
	for range 3 {
		eachFitting(func(name string, args []api.Value) {
			v, e := funcs.Call(name, args)
			asked := name
			for _, a := range args {
				asked += " " + value.Show(a)
			}
			if was, ok := first[asked]; e != api.OK || ok && was != v {
				t.Errorf("%s: %#v, %d, ahead %#v", asked, v, e, was)
			}
			first[asked] = v
		})
	}
}
