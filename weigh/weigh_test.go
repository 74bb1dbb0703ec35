package weigh_test

import (
	"math"
	"slices"
	"testing"

	"vitrine/api"
	"vitrine/seltext"
	"vitrine/weigh"
)

func id(s string) api.Simple    { return api.Simple{Kind: api.SimId, Name: s} }
func class(s string) api.Simple { return api.Simple{Kind: api.SimClass, Name: s} }
func alone(k uint8) api.Simple  { return api.Simple{Kind: k} }

// of is a simple selector with a list.
func of(kind uint8, l ...api.Complex) api.Simple { return api.Simple{Kind: kind, List: l} }

// nth is a simple selector with a progression, and with Of if there is a list.
func nth(kind uint8, l ...api.Complex) api.Simple {
	return api.Simple{Kind: kind, Anb: api.Anb{A: 2, B: 1}, Of: len(l) > 0, List: l}
}

// one is a complex selector of one compound.
func one(tag string, s ...api.Simple) api.Complex {
	return api.Complex{Parts: []api.Compound{{Tag: tag, Simples: s}}}
}

func led(lead uint8, c api.Complex) api.Complex {
	c.Lead = lead
	return c
}

func list(l ...api.Complex) []api.Complex { return l }

// wide is a complex selector with as many compounds as there may be, each with as many simple selectors as there may be.
func wide(s api.Simple) api.Complex {
	p := api.Compound{Simples: slices.Repeat([]api.Simple{s}, 64)}
	return api.Complex{Parts: slices.Repeat([]api.Compound{p}, 64), Combs: slices.Repeat([]uint8{api.CombChild}, 63)}
}

func read(t *testing.T, s string) []api.Complex {
	t.Helper()
	l, e := seltext.Read(s)
	if e != api.OK {
		t.Fatalf("Read(%q) = %d", s, int(e))
	}
	return l
}

// checkWeights checks what Each and Most say of a list.
func checkWeights(t *testing.T, what string, l []api.Complex, most api.Weight, each ...api.Weight) {
	t.Helper()
	if got, e := weigh.Each(l); e != api.OK || !slices.Equal(got, each) {
		t.Errorf("Each of %s = %v, %d; want %v", what, got, int(e), each)
	}
	if got, e := weigh.Most(l); e != api.OK || got != most {
		t.Errorf("Most of %s = %v, %d; want %v", what, got, int(e), most)
	}
}

// checkText checks the weight of a text of one complex selector.
func checkText(t *testing.T, s string, want api.Weight) {
	t.Helper()
	checkWeights(t, s, read(t, s), want, want)
}

func checkFails(t *testing.T, what string, l []api.Complex, want api.Errno) {
	t.Helper()
	if e := seltext.Check(l); e != want {
		t.Errorf("Check of %s = %d; want %d", what, int(e), int(want))
	}
	if got, e := weigh.Each(l); len(got) > 0 || e != want {
		t.Errorf("Each of %s = %v, %d; want %d", what, got, int(e), int(want))
	}
	if got, e := weigh.Most(l); got != (api.Weight{}) || e != want {
		t.Errorf("Most of %s = %v, %d; want %d", what, got, int(e), int(want))
	}
}

func TestExamples(t *testing.T) {
	checkText(t, "a#b .c[d]:root", api.Weight{1, 3, 1})
	checkText(t, ":is(a, #b c):where(#d)", api.Weight{1, 0, 1})
	checkText(t, ":is(a, #b c)", api.Weight{1, 0, 1})
	checkText(t, "li:nth-child(2n of .a, #b)", api.Weight{1, 1, 1})
}

// P9.1: Each and Most.

func TestTags(t *testing.T) {
	checkText(t, "*", api.Weight{})
	checkText(t, `\*`, api.Weight{})
	checkText(t, "a", api.Weight{0, 0, 1})
	checkText(t, "LONG-name", api.Weight{0, 0, 1})
	checkText(t, `\*\*`, api.Weight{0, 0, 1})
	checkText(t, ".c", api.Weight{0, 1, 0})
	checkText(t, "*.c", api.Weight{0, 1, 0})
	checkText(t, "a.c", api.Weight{0, 1, 1})
}

func TestSimple(t *testing.T) {
	a, b := one("a"), one("", class("b"), id("c"))
	relative := list(led(api.CombDescendant, a), led(api.CombChild, b))
	tests := []struct {
		s    api.Simple
		want api.Weight
	}{
		{id("a"), api.Weight{1, 0, 0}},
		{id("*"), api.Weight{1, 0, 0}},
		{class("a"), api.Weight{0, 1, 0}},
		{api.Simple{Kind: api.SimAttr, Name: "a"}, api.Weight{0, 1, 0}},
		{api.Simple{Kind: api.SimAttr, Name: "id", Op: api.AttrIs, Value: "b", Fold: true}, api.Weight{0, 1, 0}},
		{alone(api.SimLink), api.Weight{0, 1, 0}},
		{alone(api.SimVisited), api.Weight{0, 1, 0}},
		{alone(api.SimAnyLink), api.Weight{0, 1, 0}},
		{alone(api.SimRoot), api.Weight{0, 1, 0}},
		{alone(api.SimEmpty), api.Weight{0, 1, 0}},
		{nth(api.SimNth), api.Weight{0, 1, 0}},
		{nth(api.SimNthLast), api.Weight{0, 1, 0}},
		{nth(api.SimNth, one("*")), api.Weight{0, 1, 0}},
		{nth(api.SimNth, a), api.Weight{0, 1, 1}},
		{nth(api.SimNthLast, a), api.Weight{0, 1, 1}},
		{nth(api.SimNth, a, b), api.Weight{1, 2, 0}},
		{nth(api.SimNthLast, b, a), api.Weight{1, 2, 0}},
		{of(api.SimIs), api.Weight{}},
		{of(api.SimIs, one("*")), api.Weight{}},
		{of(api.SimIs, a), api.Weight{0, 0, 1}},
		{of(api.SimIs, a, b), api.Weight{1, 1, 0}},
		{of(api.SimNot, a), api.Weight{0, 0, 1}},
		{of(api.SimNot, b, a), api.Weight{1, 1, 0}},
		{of(api.SimHas, relative[:1]...), api.Weight{0, 0, 1}},
		{of(api.SimHas, relative...), api.Weight{1, 1, 0}},
		{of(api.SimWhere), api.Weight{}},
		{of(api.SimWhere, a), api.Weight{}},
		{of(api.SimWhere, a, b), api.Weight{}},
	}
	for _, test := range tests {
		l := list(one("", test.s))
		text, _ := seltext.Text(l)
		checkWeights(t, text, l, test.want, test.want)
		with := api.Weight{test.want[0], test.want[1] + 1, test.want[2] + 1}
		checkWeights(t, "a.b and "+text, list(one("a", class("b"), test.s)), with, with)
		checkWeights(t, text+" and a.b", list(one("a", test.s, class("b"))), with, with)
	}
}

func TestComplex(t *testing.T) {
	for _, comb := range []string{" ", ">", "+", "~"} {
		checkText(t, "a"+comb+"b", api.Weight{0, 0, 2})
		checkText(t, "*"+comb+"*", api.Weight{})
		checkText(t, "a#b"+comb+".c"+comb+"*"+comb+"d.e#f", api.Weight{2, 2, 2})
		if comb != " " {
			checkText(t, ":has("+comb+" a#b.c)", api.Weight{1, 1, 1})
		}
	}
	checkText(t, "#a#a.b.b.b[c][c=d]:first-child:last-child:NTH-CHILD(2):hAs(a)", api.Weight{2, 8, 1})
	l := list(wide(id("a")))
	l[0].Parts[7].Tag, l[0].Parts[63].Tag = "a", "*"
	checkWeights(t, "many ids", l, api.Weight{4096, 0, 1}, api.Weight{4096, 0, 1})
}

func TestInnerLists(t *testing.T) {
	tests := []struct {
		text string
		want api.Weight
	}{
		// The first number that is not the same tells which is greater.
		{":is(a b c d, .e)", api.Weight{0, 1, 0}},
		{":is(.e.e.e, #f, a b c d)", api.Weight{1, 0, 0}},
		{":is(#f, #f a, #f.e)", api.Weight{1, 1, 0}},
		{":is(#f.e a, #f.e, #f.e *)", api.Weight{1, 1, 1}},
		{":not(a, b, c)", api.Weight{0, 0, 1}},
		{":not(*)", api.Weight{}},
		{":has(~ a, + b#c, .d)", api.Weight{1, 0, 1}},
		{":has(~ *)", api.Weight{}},
		{":is()", api.Weight{}},
		{":is(5)", api.Weight{}},
		{"a:is(5, :hover, b)", api.Weight{0, 0, 2}},
		{":where(#a, b)#c", api.Weight{1, 0, 0}},
		// Lists in lists.
		{":is(a:not(.b, c:has(> #d)), .e.e)", api.Weight{1, 0, 2}},
		{":is(:where(#a) b, :where(#c #c))", api.Weight{0, 0, 1}},
		{":where(:is(#a), :not(b))", api.Weight{}},
		{":not(:where(#a), :is())", api.Weight{}},
		{":nth-child(n of :nth-last-child(n of #a, :nth-child(2)) b)", api.Weight{1, 2, 1}},
		{":nth-child(n of :where(#a))", api.Weight{0, 1, 0}},
		{":nth-last-child(n of :is(), :root)", api.Weight{0, 2, 0}},
		{":has(:is(a, b c) d):is(:has(e), f g h)", api.Weight{0, 0, 6}},
	}
	for _, test := range tests {
		checkText(t, test.text, test.want)
	}
}

func TestEachInOrder(t *testing.T) {
	l := read(t, "a, #b, .c d, *, #b, a a")
	checkWeights(t, "six", l, api.Weight{1, 0, 0},
		api.Weight{0, 0, 1}, api.Weight{1, 0, 0}, api.Weight{0, 1, 1}, api.Weight{}, api.Weight{1, 0, 0}, api.Weight{0, 0, 2})
	checkWeights(t, "two without a weight", read(t, "*, :where(#a)"), api.Weight{}, api.Weight{}, api.Weight{})
	many := slices.Repeat(list(one("a")), 64)
	checkWeights(t, "as many as there may be", many, api.Weight{0, 0, 1}, slices.Repeat([]api.Weight{{0, 0, 1}}, 64)...)
	many[63] = one("", class("b"))
	if got, e := weigh.Each(many); e != api.OK || len(got) != 64 || got[62] != (api.Weight{0, 0, 1}) || got[63] != (api.Weight{0, 1, 0}) {
		t.Errorf("Each of many = %v, %d", got, int(e))
	}
}

func TestErrors(t *testing.T) {
	checkFails(t, "nil", nil, api.ErrBad)
	checkFails(t, "an empty list", list(), api.ErrBad)
	checkFails(t, "no compound", list(api.Complex{}), api.ErrBad)
	checkFails(t, "an empty compound", list(one("")), api.ErrBad)
	checkFails(t, "an empty compound at the end", list(one("a"), one("")), api.ErrBad)
	checkFails(t, "a great tag", list(one("A")), api.ErrBad)
	checkFails(t, "kind 0", list(one("a", alone(0))), api.ErrBad)
	checkFails(t, "kind 15", list(one("a", alone(15))), api.ErrBad)
	checkFails(t, "kind 255", list(one("a", alone(255))), api.ErrBad)
	checkFails(t, "an id without a name", list(one("a", id(""))), api.ErrBad)
	checkFails(t, "a class with a list", list(one("", api.Simple{Kind: api.SimClass, Name: "a", List: list(one("a"))})), api.ErrBad)
	checkFails(t, "a lead", list(led(api.CombChild, one("a"))), api.ErrBad)
	checkFails(t, "an empty :not", list(one("", of(api.SimNot))), api.ErrBad)
	checkFails(t, "a list without Of", list(one("", of(api.SimNth, one("a")))), api.ErrBad)
	checkFails(t, "no relative one in :has", list(one("", of(api.SimHas, one("a")))), api.ErrBad)
	deep := one("a")
	for range 3 {
		deep = one("", of(api.SimIs, deep))
	}
	checkWeights(t, "deep lists", list(deep), api.Weight{0, 0, 1}, api.Weight{0, 0, 1})
	checkFails(t, "lists too deep", list(one("", of(api.SimIs, deep))), api.ErrBad)
	has := led(api.CombChild, one("", of(api.SimHas, led(api.CombChild, one("a")))))
	checkFails(t, ":has in :has", list(one("", of(api.SimHas, has))), api.ErrBad)
	many := slices.Repeat(list(one("a")), 65)
	checkFails(t, "too many", many, api.ErrMany)
	checkFails(t, "too many with those in :is", list(one("", of(api.SimIs, many[:64]...))), api.ErrMany)
	checkFails(t, "too many in :where", list(one("a"), one("", of(api.SimWhere, many[:63]...))), api.ErrMany)
	checkFails(t, "too many with a bad one", append(many, one("")), api.ErrBad)
}

// Lists that no text is written for have weights that are not valid, but no errors.
func TestListsWithoutText(t *testing.T) {
	all := slices.Repeat(list(wide(id("a"))), 64)
	if _, e := seltext.Text(all); e != api.ErrLong {
		t.Fatal(e)
	}
	checkWeights(t, "ids", all, api.Weight{4096, 0, 0}, slices.Repeat([]api.Weight{{4096, 0, 0}}, 64)...)
	heavy := wide(id("a"))
	for i := range 63 {
		heavy.Parts[i].Simples = append(heavy.Parts[i].Simples[:63:63], of(api.SimNot, wide(class("b"))))
	}
	want := api.Weight{4096 - 63, 63 * 4096, 0}
	checkWeights(t, "ids and classes in :not", list(heavy), want, want)
	if n, e := weigh.Compare(want, api.Weight{}); n != 0 || e != api.ErrBad {
		t.Errorf("Compare = %d, %d", n, int(e))
	}
	if w, e := weigh.Sum(want, api.Weight{}); w != (api.Weight{}) || e != api.ErrBad {
		t.Errorf("Sum = %v, %d", w, int(e))
	}
}

// P9.2: Compare and Sum.

func TestCompare(t *testing.T) {
	tests := []struct {
		a, b api.Weight
		want int
	}{
		{api.Weight{}, api.Weight{}, 0},
		{api.Weight{1, 2, 3}, api.Weight{1, 2, 3}, 0},
		{api.Weight{4000, 4000, 4000}, api.Weight{4000, 4000, 4000}, 0},
		{api.Weight{0, 0, 1}, api.Weight{}, 1},
		{api.Weight{0, 1, 0}, api.Weight{0, 0, 4000}, 1},
		{api.Weight{1, 0, 0}, api.Weight{0, 4000, 4000}, 1},
		{api.Weight{0, 1, 9}, api.Weight{0, 2, 0}, -1},
		{api.Weight{2, 0, 0}, api.Weight{1, 9, 9}, 1},
		{api.Weight{1, 1, 11}, api.Weight{1, 1, 9}, 1},
		{api.Weight{1, 1, 3999}, api.Weight{1, 1, 4000}, -1},
	}
	for _, test := range tests {
		if n, e := weigh.Compare(test.a, test.b); n != test.want || e != api.OK {
			t.Errorf("Compare(%v, %v) = %d, %d; want %d", test.a, test.b, n, int(e), test.want)
		}
		if n, e := weigh.Compare(test.b, test.a); n != -test.want || e != api.OK {
			t.Errorf("Compare(%v, %v) = %d, %d; want %d", test.b, test.a, n, int(e), -test.want)
		}
	}
}

func TestSum(t *testing.T) {
	tests := []struct{ a, b, want api.Weight }{
		{api.Weight{}, api.Weight{}, api.Weight{}},
		{api.Weight{1, 2, 3}, api.Weight{}, api.Weight{1, 2, 3}},
		{api.Weight{1, 2, 3}, api.Weight{30, 20, 10}, api.Weight{31, 22, 13}},
		{api.Weight{0, 0, 9}, api.Weight{0, 0, 9}, api.Weight{0, 0, 18}},
		{api.Weight{4000, 3999, 2000}, api.Weight{0, 1, 2000}, api.Weight{4000, 4000, 4000}},
	}
	for _, test := range tests {
		for _, pair := range [][2]api.Weight{{test.a, test.b}, {test.b, test.a}} {
			if w, e := weigh.Sum(pair[0], pair[1]); w != test.want || e != api.OK {
				t.Errorf("Sum(%v, %v) = %v, %d; want %v", pair[0], pair[1], w, int(e), test.want)
			}
		}
	}
}

func TestSumsThatAreNotValid(t *testing.T) {
	for at := range 3 {
		for _, numbers := range [][2]int{{4000, 1}, {1, 4000}, {2000, 2001}, {4000, 4000}} {
			a, b := api.Weight{1, 1, 1}, api.Weight{2, 2, 2}
			a[at], b[at] = numbers[0], numbers[1]
			if w, e := weigh.Sum(a, b); w != (api.Weight{}) || e != api.ErrBad {
				t.Errorf("Sum(%v, %v) = %v, %d", a, b, w, int(e))
			}
			if _, e := weigh.Compare(a, b); e != api.OK {
				t.Errorf("Compare(%v, %v) = %d", a, b, int(e))
			}
		}
	}
}

func TestWeightsThatAreNotValid(t *testing.T) {
	for at := range 3 {
		for _, n := range []int{-1, -4000, 4001, math.MaxInt, math.MaxInt - 1, math.MinInt, math.MinInt + 4000} {
			var bad api.Weight
			bad[at] = n
			for _, other := range []api.Weight{{}, {1, 1, 1}, {4000, 4000, 4000}, bad, {-1, -1, -1}, {math.MaxInt, math.MaxInt, math.MaxInt}} {
				for _, pair := range [][2]api.Weight{{bad, other}, {other, bad}} {
					if c, e := weigh.Compare(pair[0], pair[1]); c != 0 || e != api.ErrBad {
						t.Errorf("Compare(%v, %v) = %d, %d", pair[0], pair[1], c, int(e))
					}
					if w, e := weigh.Sum(pair[0], pair[1]); w != (api.Weight{}) || e != api.ErrBad {
						t.Errorf("Sum(%v, %v) = %v, %d", pair[0], pair[1], w, int(e))
					}
				}
			}
		}
	}
}
