package funcs_test

import (
	"slices"
	"testing"

	"marquee/api"
	"marquee/funcs"
)

const (
	n = api.KindNull
	b = api.KindBool
	i = api.KindInt
	d = api.KindDec
	x = api.KindText
)

func allNames() []string {
	return []string{
		"abs", "ceil", "coalesce", "concat", "floor", "greatest", "least", "length", "lower",
		"nullif", "round", "sign", "substr", "todec", "toint", "totext", "trim", "upper",
	}
}

// strangeNames are no functions.
func strangeNames() []string {
	return []string{
		"", "nope", "Abs", "ABS", "abs ", " abs", "ab", "abss", "a", "zz", "\xff", "Names", "count", "sum", "min", "max", "avg", "first", "last", "not", "-",
	}
}

// Promise 10.1.
func TestNames(t *testing.T) {
	l := funcs.Names()
	if !slices.Equal(l, allNames()) {
		t.Errorf("Names: %q", l)
	}
	for i := 1; i < len(l); i++ {
		if l[i-1] >= l[i] {
			t.Errorf("%q stands ahead of %q", l[i-1], l[i])
		}
	}
}

// R4, R5: each answer is a list of its own.
func TestNamesAreNewEachTime(t *testing.T) {
	first, second := funcs.Names(), funcs.Names()
	for i := range first {
		first[i] = "changed"
	}
	_ = append(second[:0], "also")
	if l := funcs.Names(); !slices.Equal(l, allNames()) {
		t.Errorf("Names, behind a change of those told ahead: %q", l)
	}
	if second[1] != "ceil" {
		t.Errorf("the second list changed with the first: %q", second)
	}
}

// Promise 10.1: the table by its rows.
func TestKindRows(t *testing.T) {
	for _, c := range []struct {
		name string
		args []int
		want int
	}{
		{"abs", []int{i}, i}, {"abs", []int{d}, d}, {"abs", []int{n}, n},
		{"ceil", []int{i}, i}, {"ceil", []int{d}, i}, {"ceil", []int{n}, i},
		{"floor", []int{i}, i}, {"floor", []int{d}, i}, {"floor", []int{n}, i},
		{"round", []int{i}, i}, {"round", []int{d}, i}, {"round", []int{n}, i},
		{"sign", []int{i}, i}, {"sign", []int{d}, i}, {"sign", []int{n}, i},
		{"todec", []int{i}, d}, {"todec", []int{d}, d}, {"todec", []int{n}, d},
		{"toint", []int{i}, i}, {"toint", []int{d}, i}, {"toint", []int{n}, i},
		{"length", []int{x}, i}, {"length", []int{n}, i},
		{"lower", []int{x}, x}, {"lower", []int{n}, x},
		{"upper", []int{x}, x}, {"upper", []int{n}, x},
		{"trim", []int{x}, x}, {"trim", []int{n}, x},
		{"totext", []int{n}, x}, {"totext", []int{b}, x}, {"totext", []int{i}, x}, {"totext", []int{d}, x}, {"totext", []int{x}, x},
		{"concat", []int{x}, x}, {"concat", []int{n}, x}, {"concat", []int{x, n, x}, x}, {"concat", []int{n, n, n, n, x}, x},
		{"substr", []int{x, i, i}, x}, {"substr", []int{n, i, i}, x}, {"substr", []int{x, n, i}, x}, {"substr", []int{x, i, n}, x}, {"substr", []int{n, n, n}, x},
		{"nullif", []int{i, i}, i}, {"nullif", []int{i, d}, i}, {"nullif", []int{d, i}, d}, {"nullif", []int{b, b}, b}, {"nullif", []int{x, x}, x},
		{"nullif", []int{n, i}, n}, {"nullif", []int{n, x}, n}, {"nullif", []int{n, n}, n}, {"nullif", []int{i, n}, i}, {"nullif", []int{x, n}, x},
		{"coalesce", []int{0, 2, 3}, 3},
	} {
		if got, e := funcs.Kind(c.name, c.args); got != c.want || e != api.OK {
			t.Errorf("Kind(%s, %v): %d, %d, want %d, OK", c.name, c.args, got, e, c.want)
		}
	}
}

// Promise 10.1: 'Alike'.
func TestKindOfAlike(t *testing.T) {
	for _, c := range []struct {
		args []int
		want int
	}{
		{[]int{n}, n}, {[]int{b}, b}, {[]int{i}, i}, {[]int{d}, d}, {[]int{x}, x},
		{[]int{n, n, n}, n}, {[]int{n, b}, b}, {[]int{b, n, b}, b}, {[]int{n, n, i}, i}, {[]int{x, n, n}, x}, {[]int{n, d, n}, d},
		{[]int{i, i}, i}, {[]int{i, d}, d}, {[]int{d, i}, d}, {[]int{i, i, d}, d}, {[]int{d, i, i}, d}, {[]int{i, d, i}, d}, {[]int{i, n, d}, d}, {[]int{n, d, n, i, n}, d},
		{[]int{i, i, i, i, i, i, i, i, i, d}, d},
	} {
		for _, name := range []string{"coalesce", "greatest", "least"} {
			if got, e := funcs.Kind(name, c.args); got != c.want || e != api.OK {
				t.Errorf("Kind(%s, %v): %d, %d, want %d, OK", name, c.args, got, e, c.want)
			}
		}
	}
}

// Promise 10.1: what does not fit.
func TestKindRefuses(t *testing.T) {
	for _, c := range []struct {
		name string
		args []int
	}{
		{"abs", nil}, {"abs", []int{i, i}}, {"abs", []int{b}}, {"abs", []int{x}},
		{"sign", nil}, {"sign", []int{}}, {"sign", []int{n, n}}, {"todec", []int{x}}, {"toint", []int{b}},
		{"length", []int{i}}, {"lower", []int{x, x}}, {"upper", []int{d}}, {"trim", []int{b}},
		{"totext", nil}, {"totext", []int{n, n}}, {"totext", []int{5}}, {"totext", []int{-1}}, {"totext", []int{leastInt}}, {"totext", []int{greatestInt}},
		{"concat", nil}, {"concat", []int{x, i}}, {"concat", []int{i, x}}, {"concat", []int{n, b}},
		{"coalesce", nil}, {"coalesce", []int{i, x}}, {"coalesce", []int{b, i}}, {"coalesce", []int{n, d, n, x}}, {"coalesce", []int{i, d, b}}, {"coalesce", []int{5}}, {"coalesce", []int{5, 5}}, {"coalesce", []int{n, -1}},
		{"greatest", nil}, {"greatest", []int{x, b}}, {"least", nil}, {"least", []int{i, x}}, {"least", []int{9}},
		{"nullif", nil}, {"nullif", []int{i}}, {"nullif", []int{i, i, i}}, {"nullif", []int{i, x}}, {"nullif", []int{b, d}}, {"nullif", []int{6, 6}}, {"nullif", []int{n, 5}},
		{"substr", nil}, {"substr", []int{x}}, {"substr", []int{x, i}}, {"substr", []int{x, i, i, i}}, {"substr", []int{i, i, i}}, {"substr", []int{x, d, i}}, {"substr", []int{x, i, d}}, {"substr", []int{x, x, i}}, {"substr", []int{x, i, b}},
	} {
		if got, e := funcs.Kind(c.name, c.args); got != 0 || e != api.ErrFunc {
			t.Errorf("Kind(%s, %v): %d, %d, want 0, ErrFunc", c.name, c.args, got, e)
		}
	}
}

// eachKinds goes over all lists of at most most numbers of some.
func eachKinds(some []int, most int, do func(l []int)) {
	var grow func(l []int)
	grow = func(l []int) {
		do(slices.Clone(l))
		if len(l) < most {
			for _, k := range some {
				grow(append(slices.Clip(l), k))
			}
		}
	}
	grow(nil)
}

// Promise 10.1: each function, and names that are none, with each number of arguments and each kind in each place.
func TestKindOverAllLists(t *testing.T) {
	m := newModel()
	for _, name := range append(allNames(), strangeNames()...) {
		eachKinds([]int{-1, 0, 1, 2, 3, 4, 5}, 4, func(l []int) {
			want, err := m.kind(name, l)
			if got, e := funcs.Kind(name, l); got != want || e != err {
				t.Errorf("Kind(%q, %v): %d, %d, want %d, %d", name, l, got, e, want, err)
			}
		})
	}
}

// Promise 10.1: numbers that are no kind, in each place of lists that fit otherwise.
func TestKindOfNoKind(t *testing.T) {
	eachFitting(func(name string, args []api.Value) {
		if _, e := funcs.Kind(name, kindsOf(args)); e != api.OK {
			t.Errorf("Kind(%s, %v): %d", name, kindsOf(args), e)
		}
		for place := range args {
			for _, v := range kindless() {
				l := kindsOf(with(args, place, v))
				if got, e := funcs.Kind(name, l); got != 0 || e != api.ErrFunc {
					t.Errorf("Kind(%s, %v): %d, %d, want 0, ErrFunc", name, l, got, e)
				}
			}
		}
	})
}

// Promise 10.1: lists of many.
func TestKindOfMany(t *testing.T) {
	l := make([]int, 100000)
	for _, c := range []struct {
		name string
		last int
		want int
		err  api.Errno
	}{
		{"coalesce", n, n, api.OK}, {"greatest", d, d, api.OK}, {"least", 5, 0, api.ErrFunc},
		{"concat", x, x, api.OK}, {"concat", i, 0, api.ErrFunc}, {"nullif", n, 0, api.ErrFunc}, {"substr", n, 0, api.ErrFunc},
	} {
		l[len(l)-1] = c.last
		if got, e := funcs.Kind(c.name, l); got != c.want || e != c.err {
			t.Errorf("Kind(%s) of many, with %d last: %d, %d", c.name, c.last, got, e)
		}
	}
}
