package code_test

import (
	"testing"

	"marquee/api"
	"marquee/code"
)

// The chapter's examples.
func TestExamplesOfCompile(t *testing.T) {
	over := []api.Field{{Stream: "t", Column: "sym", Kind: api.KindText}, {Stream: "t", Column: "price", Kind: api.KindInt}}
	for _, x := range []compiled{
		{"price + 1", "Field 1, Push 1, Binary +"},
		{"price between 1 and 2", "Field 1, Push 1, Binary >=, Field 1, Push 2, Binary <=, Binary and"},
		{"case when sym = 'A' then 1 else 2.5 end", "Field 0, Push 'A', Binary =, Unless 7, Push 1, Dec, Jump 8, Push 2.5"},
	} {
		ops, e := code.Compile(readExpr(t, x.source), over, nil)
		want := program(x.want)
		if e != api.OK || len(ops) != len(want) {
			t.Fatalf("%s: %v, %d", x.source, ops, e)
		}
		for i := range ops {
			if ops[i] != want[i] {
				t.Errorf("%s: %d: %v", x.source, i, ops[i])
			}
		}
	}
	sum, _ := code.Compile(readExpr(t, "1 + 2 * 3"), nil, nil)
	if d := code.Depth(sum); d != 3 {
		t.Errorf("1 + 2 * 3: Depth %d", d)
	}
}

// Promise 12.1: literals and columns.
func TestLeaves(t *testing.T) {
	checkCompiled(t, nil,
		compiled{"null", "Push null"}, compiled{"true", "Push true"}, compiled{"false", "Push false"},
		compiled{"0", "Push 0"}, compiled{"42", "Push 42"}, compiled{"0.0", "Push 0.0"}, compiled{"2.5", "Push 2.5"},
		compiled{"''", "Push ''"}, compiled{"'A'", "Push 'A'"},
		compiled{"b", "Field 0"}, compiled{"t.b", "Field 0"}, compiled{"i", "Field 1"}, compiled{"z", "Field 4"}, compiled{"o", "Field 5"},
		compiled{"t.a", "Field 6"}, compiled{"u.a", "Field 7"}, compiled{"j", "Field 8"}, compiled{"y", "Field 9"}, compiled{"u.y", "Field 9"},
	)
	greatest := int(^uint(0) >> 1)
	checkProgram(t, whole(greatest), nil, []api.Op{{Kind: api.OpPush, Value: api.Value{Kind: api.KindInt, N: greatest}}})
	checkProgram(t, dec(greatest), nil, []api.Op{{Kind: api.OpPush, Value: api.Value{Kind: api.KindDec, N: greatest}}})
}

// Promise 12.1: operators, is null and calls have what they are of ahead.
func TestOperators(t *testing.T) {
	checkCompiled(t, nil,
		compiled{"- i", "Field 1, Unary -"}, compiled{"- - i", "Field 1, Unary -, Unary -"}, compiled{"not b", "Field 0, Unary not"},
		compiled{"i - 1", "Field 1, Push 1, Binary -"}, compiled{"1 - i", "Push 1, Field 1, Binary -"},
		compiled{"i * d", "Field 1, Field 2, Binary *"}, compiled{"i / 2", "Field 1, Push 2, Binary /"}, compiled{"i % 2", "Field 1, Push 2, Binary %"},
		compiled{"i = 1", "Field 1, Push 1, Binary ="}, compiled{"i != 1", "Field 1, Push 1, Binary !="}, compiled{"i < 1", "Field 1, Push 1, Binary <"},
		compiled{"i <= 1", "Field 1, Push 1, Binary <="}, compiled{"i > 1", "Field 1, Push 1, Binary >"}, compiled{"i >= 1", "Field 1, Push 1, Binary >="},
		compiled{"b and true", "Field 0, Push true, Binary and"}, compiled{"b or null", "Field 0, Push null, Binary or"},
		compiled{"1 + 2 * 3", "Push 1, Push 2, Push 3, Binary *, Binary +"}, compiled{"(1 + 2) * 3", "Push 1, Push 2, Binary +, Push 3, Binary *"},
		compiled{"i is null", "Field 1, IsNull 0"}, compiled{"i is not null", "Field 1, IsNull 1"}, compiled{"not (o is null)", "Field 5, IsNull 0, Unary not"},
		compiled{"abs(i)", "Field 1, Call abs 1"}, compiled{"concat(x, y, 'c')", "Field 3, Field 9, Push 'c', Call concat 3"},
		compiled{"coalesce(abs(d), - 1, i + 2)", "Field 2, Call abs 1, Push 1, Unary -, Field 1, Push 2, Binary +, Call coalesce 3"},
	)
}

// Promise 12.1: what is asked for twice is written twice.
func TestBetweenAndIn(t *testing.T) {
	checkCompiled(t, nil,
		compiled{"i + 1 between j and 3 * 2", "Field 1, Push 1, Binary +, Field 8, Binary >=, Field 1, Push 1, Binary +, Push 3, Push 2, Binary *, Binary <=, Binary and"},
		compiled{"i in (1)", "Field 1, Push 1, Binary ="},
		compiled{"i in (1, 2.5, d)", "Field 1, Push 1, Binary =, Field 1, Push 2.5, Binary =, Binary or, Field 1, Field 2, Binary =, Binary or"},
		compiled{"- i in (j, - j)", "Field 1, Unary -, Field 8, Binary =, Field 1, Unary -, Field 8, Unary -, Binary =, Binary or"},
		compiled{"(i in (1)) in (b)", "Field 1, Push 1, Binary =, Field 0, Binary ="},
		compiled{"(i between 1 and 2) between b and true", "Field 1, Push 1, Binary >=, Field 1, Push 2, Binary <=, Binary and, Field 0, Binary >=, " +
			"Field 1, Push 1, Binary >=, Field 1, Push 2, Binary <=, Binary and, Push true, Binary <=, Binary and"},
	)
}

// Promise 12.1: where the jumps of a case go to.
func TestCases(t *testing.T) {
	checkCompiled(t, nil,
		compiled{"case when b then 1 else 2 end", "Field 0, Unless 4, Push 1, Jump 5, Push 2"},
		compiled{"case when b then 1 end", "Field 0, Unless 4, Push 1, Jump 5, Push null"},
		compiled{"case when b then 'A' when i = 1 then x when true then 'C' else y end",
			"Field 0, Unless 4, Push 'A', Jump 15, Field 1, Push 1, Binary =, Unless 10, Field 3, Jump 15, Push true, Unless 14, Push 'C', Jump 15, Field 9"},
		compiled{"- case when b then 1 else 2 end + 3", "Field 0, Unless 4, Push 1, Jump 5, Push 2, Unary -, Push 3, Binary +"},
		compiled{"3 + case when b then 1 + 1 else 2 end", "Push 3, Field 0, Unless 7, Push 1, Push 1, Binary +, Jump 8, Push 2, Binary +"},
		compiled{"case when case when b then true else false end then case when b then 1 else 2 end else case when b then 3 else 4 end end",
			"Field 0, Unless 4, Push true, Jump 5, Push false, Unless 12, Field 0, Unless 10, Push 1, Jump 11, Push 2, Jump 17, Field 0, Unless 16, Push 3, Jump 17, Push 4"},
		compiled{"case when null then null end", "Push null, Unless 4, Push null, Jump 5, Push null"},
		compiled{"case when b then o end", "Field 0, Unless 4, Field 5, Jump 5, Push null"},
	)
}

// Promise 12.1: ints among the values of a case that is a dec are made decs.
func TestDecs(t *testing.T) {
	checkCompiled(t, nil,
		compiled{"case when b then i else j end", "Field 0, Unless 4, Field 1, Jump 5, Field 8"},
		compiled{"case when b then 1.5 else 2.5 end", "Field 0, Unless 4, Push 1.5, Jump 5, Push 2.5"},
		compiled{"case when b then 1.5 else i end", "Field 0, Unless 4, Push 1.5, Jump 6, Field 1, Dec"},
		compiled{"case when b then i else 1.5 end", "Field 0, Unless 5, Field 1, Dec, Jump 6, Push 1.5"},
		compiled{"case when b then i when b then null when b then d when b then i + 1 end",
			"Field 0, Unless 5, Field 1, Dec, Jump 21, Field 0, Unless 9, Push null, Jump 21, Field 0, Unless 13, Field 2, Jump 21, Field 0, Unless 20, Field 1, Push 1, Binary +, Dec, Jump 21, Push null"},
		compiled{"case when b then 1 else null end", "Field 0, Unless 4, Push 1, Jump 5, Push null"},
		compiled{"case when i = 1.5 then 1 else 2 end", "Field 1, Push 1.5, Binary =, Unless 6, Push 1, Jump 7, Push 2"},
		// The inner case is a dec of its own, or it is an int as a whole.
		compiled{"case when b then case when b then 1 else 2.5 end else 3 end", "Field 0, Unless 9, Field 0, Unless 7, Push 1, Dec, Jump 8, Push 2.5, Jump 11, Push 3, Dec"},
		compiled{"case when b then case when b then 1 else 2 end else 3.5 end", "Field 0, Unless 9, Field 0, Unless 6, Push 1, Jump 7, Push 2, Dec, Jump 10, Push 3.5"},
		compiled{"case when b then case when b then 1 else 2 end else 3 end", "Field 0, Unless 8, Field 0, Unless 6, Push 1, Jump 7, Push 2, Jump 9, Push 3"},
		// A dec around a case changes nothing in it.
		compiled{"d + case when b then 1 else 2 end", "Field 2, Field 0, Unless 5, Push 1, Jump 6, Push 2, Binary +"},
	)
	aggs := readAll(t, "sum(i)", "avg(i)", "count(*)")
	checkCompiled(t, aggs, compiled{"case when b then sum(i) when b then avg(i) else count(*) end", "Field 0, Unless 5, Agg 0, Dec, Jump 11, Field 0, Unless 9, Agg 1, Jump 11, Agg 2, Dec"})
}

// Promise 12.1: an aggregate is the first of aggs that is the same.
func TestAggregates(t *testing.T) {
	aggs := readAll(t, "count(*)", "sum(i)", "sum(i)", "max( d )", "count(i)", "sum(distinct i)", "min(i + 1)")
	checkCompiled(t, aggs,
		compiled{"count(*)", "Agg 0"}, compiled{"sum(i)", "Agg 1"}, compiled{"sum( i )", "Agg 1"}, compiled{"max(d)", "Agg 3"}, compiled{"count(i)", "Agg 4"}, compiled{"sum(distinct i)", "Agg 5"},
		compiled{"min(i+1)", "Agg 6"}, compiled{"sum(i) + sum(i) * count(*)", "Agg 1, Agg 1, Agg 0, Binary *, Binary +"},
		compiled{"abs(max(d))", "Agg 3, Call abs 1"}, compiled{"- sum(i)", "Agg 1, Unary -"}, compiled{"sum(i) is null", "Agg 1, IsNull 0"},
		compiled{"sum(i) between 1 and count(*)", "Agg 1, Push 1, Binary >=, Agg 1, Agg 0, Binary <=, Binary and"},
		compiled{"i in (sum(i), count(*))", "Field 1, Agg 1, Binary =, Field 1, Agg 0, Binary =, Binary or"},
		compiled{"case when count(*) > 1 then sum(i) else count(i) end", "Agg 0, Push 1, Binary >, Unless 6, Agg 1, Jump 7, Agg 4"},
	)
	checkRefused(t, api.ErrCode, aggs, "min(i)", "sum(j)", "sum(t.i)", "count(distinct i)", "min(i + 2)", "min(1 + i)", "avg(i)", "max(i)",
		"sum(i) + avg(i)", "avg(i) + sum(i)", "abs(avg(i))", "case when b then sum(i) else avg(i) end", "case when avg(i) > 1 then 1 end", "1 in (2, avg(i))", "1 between avg(i) and 2", "avg(i) is null", "- avg(i)")
	checkRefused(t, api.ErrCode, nil, "count(*)", "1 + count(*)")
}

// Promise 12.1: aggs may hold anything; what is no aggregate is the same as none.
func TestOddAggs(t *testing.T) {
	odd := []api.Node{{}, col("i"), node(api.Agg, "sum", 7), node(99, "x", -1, null()), agg("sum", col("i"))}
	checkProgram(t, agg("sum", col("i")), odd, program("Agg 4"))
	checkProgram(t, col("i"), odd, program("Field 1"))
	checkNoProgram(t, agg("sum", col("j")), odd, api.ErrCode)
}

// Promise 12.1: what types.Expr refuses comes ahead of an aggregate that is not there, and of what is too long or too deep.
func TestErrorsOfTypes(t *testing.T) {
	checkRefused(t, api.ErrName, nil, "nope", "a", "v.i", "u.i", "count(*) + nope", "nope + count(*)", "sum(nope)")
	checkRefused(t, api.ErrType, nil, "x + 1", "not i", "sum(x)", "count(*) + x", "x + 1 + count(*)", "case when i then 1 end", "case when b then 1 else 'A' end")
	checkRefused(t, api.ErrFunc, nil, "nope(1)", "nope()", "abs()", "concat()", "abs(x)", "count(*) + abs(x)")
	checkRefused(t, api.ErrPlace, readAll(t, "count(*)"), "sum(count(*))", "sum(sum(i))", "count(*) + max(abs(count(*)))")
	for _, n := range []api.Node{{}, whole(-1), node(api.Name, "i", 0), node(api.List, "", 0), node(api.Bool, "", 2), choice(truth(1), whole(1)), in(whole(1)), agg("sum"), unary("+", whole(1)), binary("&", null(), null()), col("select")} {
		checkNoProgram(t, n, nil, api.ErrTree)
		checkNoProgram(t, unary("-", n), nil, api.ErrTree)
	}
	checkNoProgram(t, sum(api.MaxProgram, col("x")), nil, api.ErrType)
	checkNoProgram(t, binary("+", sumBehind(api.MaxStack+1, whole(1)), col("nope")), nil, api.ErrName)
}

// Promise 12.1: fields in another order have other places; a name that two fields have is none.
func TestOtherFields(t *testing.T) {
	ops, e := code.Compile(readExpr(t, "i + u.i"), []api.Field{{Stream: "u", Column: "i", Kind: api.KindInt}, {Stream: "t", Column: "j", Kind: api.KindInt}}, nil)
	if e != api.OK || len(ops) != 3 || ops[0].N != 0 || ops[1].N != 0 {
		t.Error(ops, e)
	}
	if ops, e := code.Compile(readExpr(t, "i"), []api.Field{{Stream: "u", Column: "i", Kind: api.KindInt}, {Stream: "t", Column: "i", Kind: api.KindInt}}, nil); e != api.ErrName || len(ops) != 0 {
		t.Error(ops, e)
	}
}
