package weigh_test

import (
	"cmp"
	"math"
	"math/rand"
	"reflect"
	"regexp"
	"slices"
	"strings"
	"testing"

	"vitrine/api"
	"vitrine/seltext"
	"vitrine/weigh"
)

// The model weighs texts: functions are replaced from the inner ones on by marks, "#" for each id, "." for each class and "%" for each tag of what they weigh, and then the marks are counted. Names in these texts have small letters only.

var (
	brackets = regexp.MustCompile(`\[[^\]]*\]`)
	innerOne = regexp.MustCompile(`:([a-z-]+)\(([^()]*)\)`)
	tagNames = regexp.MustCompile(`(^|[ ,>+~])[a-z]+`)
	names    = regexp.MustCompile(`[a-z-]+`)
	colons   = strings.NewReplacer(":", ".")
)

func modelEach(text string) []api.Weight {
	text = brackets.ReplaceAllString(text, ".")
	for innerOne.MatchString(text) {
		text = innerOne.ReplaceAllStringFunc(text, func(s string) string {
			m := innerOne.FindStringSubmatch(s)
			return modelFunction(m[1], m[2])
		})
	}
	text = tagNames.ReplaceAllString(text, "$1%")
	text = colons.Replace(names.ReplaceAllString(text, ""))
	var weights []api.Weight
	for _, s := range strings.Split(text, ",") {
		weights = append(weights, api.Weight{strings.Count(s, "#"), strings.Count(s, "."), strings.Count(s, "%")})
	}
	return weights
}

func modelFunction(name, inside string) string {
	front, inside, isOf := "", inside, true
	switch name {
	case "where":
		return ""
	case "nth-child", "nth-last-child":
		front = "."
		_, inside, isOf = strings.Cut(inside, " of ")
	}
	if !isOf {
		return front
	}
	w := greatest(modelEach(inside))
	return front + strings.Repeat("#", w[0]) + strings.Repeat(".", w[1]) + strings.Repeat("%", w[2])
}

// rank is one number that is greater if a weight is.
func rank(w api.Weight) int { return (w[0]*1000000+w[1])*1000000 + w[2] }

func greatest(weights []api.Weight) api.Weight {
	return slices.MaxFunc(weights, func(a, b api.Weight) int { return cmp.Compare(rank(a), rank(b)) })
}

// pickers makes random lists, which are valid but for how many selectors there are.
type pickers struct{ *rand.Rand }

// place is where a list stands: how many lists it is in, and whether it is below a SimHas, or the list of one.
type place struct {
	deep          int
	below, direct bool
}

func (at place) inside(kind uint8) place {
	has := kind == api.SimHas
	return place{at.deep + 1, at.below || has, has}
}

func (r pickers) name() string { return string(rune('a' + r.Intn(26))) }

func (r pickers) list(at place, least int) []api.Complex {
	var l []api.Complex
	for range least + r.Intn(3) {
		c := r.complex(at)
		if at.direct {
			c.Lead = uint8(1 + r.Intn(4))
		}
		l = append(l, c)
	}
	return l
}

func (r pickers) complex(at place) api.Complex {
	var c api.Complex
	for i := range 1 + r.Intn(3) {
		if i > 0 {
			c.Combs = append(c.Combs, uint8(1+r.Intn(4)))
		}
		p := api.Compound{Tag: []string{"", "*", r.name()}[r.Intn(3)]}
		for range r.Intn(3) {
			p.Simples = append(p.Simples, r.simple(at))
		}
		if p.Tag == "" && len(p.Simples) == 0 {
			p.Tag = "b"
		}
		c.Parts = append(c.Parts, p)
	}
	return c
}

func (r pickers) simple(at place) api.Simple {
	s := api.Simple{Kind: uint8(1 + r.Intn(14))}
	room := at.deep < 3
	if !room && s.Kind >= api.SimIs || at.below && s.Kind == api.SimHas {
		s.Kind = uint8(1 + r.Intn(10))
	}
	switch s.Kind {
	case api.SimId, api.SimClass:
		s.Name = r.name()
	case api.SimAttr:
		s.Name, s.Op = r.name(), uint8(r.Intn(7))
		if s.Op > 0 {
			s.Value, s.Fold = r.name(), r.Intn(2) == 0
		}
	case api.SimNth, api.SimNthLast:
		s.Anb = api.Anb{A: int64(r.Intn(5) - 2), B: int64(r.Intn(5) - 2)}
		if s.Of = room && r.Intn(2) == 0; s.Of {
			s.List = r.list(at.inside(s.Kind), 1)
		}
	case api.SimIs, api.SimWhere:
		s.List = r.list(at.inside(s.Kind), 0)
	case api.SimNot, api.SimHas:
		s.List = r.list(at.inside(s.Kind), 1)
	}
	return s
}

// eachList calls f with many valid lists.
func eachList(f func(r pickers, l []api.Complex)) {
	r := pickers{rand.New(rand.NewSource(9))}
	for range 10000 {
		if l := r.list(place{deep: r.Intn(3)}, 1); seltext.Check(l) == api.OK {
			f(r, l)
		}
	}
}

func each(t *testing.T, l []api.Complex) []api.Weight {
	t.Helper()
	weights, e := weigh.Each(l)
	if e != api.OK {
		t.Fatalf("Each(%+v) = %d", l, int(e))
	}
	return weights
}

func most(t *testing.T, l []api.Complex) api.Weight {
	t.Helper()
	w, e := weigh.Most(l)
	if e != api.OK {
		t.Fatalf("Most(%+v) = %d", l, int(e))
	}
	return w
}

func sum(t *testing.T, a, b api.Weight) api.Weight {
	t.Helper()
	w, e := weigh.Sum(a, b)
	if e != api.OK {
		t.Fatalf("Sum(%v, %v) = %d", a, b, int(e))
	}
	return w
}

func compare(t *testing.T, a, b api.Weight) int {
	t.Helper()
	n, e := weigh.Compare(a, b)
	if e != api.OK {
		t.Fatalf("Compare(%v, %v) = %d", a, b, int(e))
	}
	return n
}

// P9.1.

func TestWeightsAreLikeTheModel(t *testing.T) {
	seen := map[api.Weight]int{}
	check := func(l []api.Complex) {
		text, e := seltext.Text(l)
		if e != api.OK {
			t.Fatalf("Text(%+v) = %d", l, int(e))
		}
		want := modelEach(text)
		if got := each(t, l); !slices.Equal(got, want) {
			t.Fatalf("Each of %q = %v; want %v", text, got, want)
		}
		if got := most(t, l); got != greatest(want) {
			t.Fatalf("Most of %q = %v; want %v", text, got, greatest(want))
		}
		seen[greatest(want)]++
	}
	eachList(func(_ pickers, l []api.Complex) { check(l) })
	eachShort(check)
	if len(seen) < 100 || seen[api.Weight{}] < 10 {
		t.Errorf("there were %d weights, and %d lists without one", len(seen), seen[api.Weight{}])
	}
}

// eachShort calls f with the lists of all texts of at most some parts that are of one.
func eachShort(f func(l []api.Complex)) {
	parts := []string{"a", "*", ".b", "#c", " ", ",", ":not(", ":where(", ":is(", ":has(", ":nth-child(1 of ", ")"}
	var grow func(s string, left int)
	grow = func(s string, left int) {
		if l, e := seltext.Read(s); e == api.OK {
			f(l)
		}
		if left > 0 {
			for _, p := range parts {
				grow(s+p, left-1)
			}
		}
	}
	grow("", 5)
}

// P9.3: a weight is a sum over compounds.

func TestWeightsOfParts(t *testing.T) {
	cuts := 0
	eachList(func(_ pickers, l []api.Complex) {
		for i, w := range each(t, l) {
			c := l[i]
			for at := 1; at < len(c.Parts); at++ {
				front := api.Complex{Parts: c.Parts[:at], Combs: c.Combs[:at-1]}
				back := api.Complex{Parts: c.Parts[at:], Combs: c.Combs[at:]}
				if got := sum(t, most(t, list(front)), most(t, list(back))); got != w {
					t.Fatalf("the parts of %+v at %d weigh %v; want %v", c, at, got, w)
				}
				cuts++
			}
		}
	})
	if cuts < 5000 {
		t.Errorf("there were %d cuts", cuts)
	}
}

// P9.3: a weight is the greatest of lists.

func TestWeightsOfLists(t *testing.T) {
	r := pickers{rand.New(rand.NewSource(90))}
	seen := 0
	for range 10000 {
		l := r.list(place{deep: 1, below: true}, 1)
		if seltext.Check(l) != api.OK || seltext.Check(list(one("", of(api.SimIs, l...)))) != api.OK {
			continue
		}
		seen++
		relative := slices.Clone(l)
		for i := range relative {
			relative[i].Lead = uint8(1 + r.Intn(4))
		}
		want := greatest(each(t, l))
		for _, s := range []api.Simple{of(api.SimIs, l...), of(api.SimNot, l...), of(api.SimHas, relative...)} {
			if got := most(t, list(one("", s))); got != want || got != most(t, l) {
				t.Fatalf("Most(%+v) = %v; want %v, and it is alone %v", s, got, want, most(t, l))
			}
		}
		if got := most(t, list(one("", of(api.SimWhere, l...)))); got != (api.Weight{}) {
			t.Fatalf("%+v in :where weighs %v", l, got)
		}
		place := sum(t, want, api.Weight{0, 1, 0})
		for _, kind := range []uint8{api.SimNth, api.SimNthLast} {
			if got := most(t, list(one("", nth(kind, l...)))); got != place {
				t.Fatalf("%+v in kind %d weighs %v; want %v", l, kind, got, place)
			}
		}
	}
	if seen < 5000 {
		t.Errorf("there were %d lists", seen)
	}
}

// P9.3: a simple selector more never makes a weight less.

// places calls f with the simple selectors of each compound, also of those in other lists, and where they stand.
func places(l []api.Complex, at place, f func(s *[]api.Simple, at place)) {
	for i := range l {
		for j := range l[i].Parts {
			p := &l[i].Parts[j]
			for _, s := range p.Simples {
				places(s.List, at.inside(s.Kind), f)
			}
			f(&p.Simples, at)
		}
	}
}

func TestOneSimpleMore(t *testing.T) {
	same, more := 0, 0
	eachList(func(r pickers, l []api.Complex) {
		before := each(t, l)
		places(l, place{}, func(s *[]api.Simple, at place) {
			old := *s
			*s = slices.Insert(slices.Clone(old), r.Intn(len(old)+1), r.simple(at))
			e := seltext.Check(l)
			if e == api.ErrBad {
				t.Fatalf("Check(%+v) = %d", l, int(e))
			}
			if e == api.OK {
				for i, w := range each(t, l) {
					switch compare(t, w, before[i]) {
					case -1:
						t.Fatalf("%+v has become less than %v: %v", l[i], before[i], w)
					case 0:
						same++
					case 1:
						more++
					}
				}
			}
			*s = old
		})
	})
	if same < 10000 || more < 10000 {
		t.Errorf("%d were the same, %d more", same, more)
	}
}

// P9.2, and P9.3: Compare is a total order, which sums keep.

func TestCompareAndSumAreLikeTheModel(t *testing.T) {
	numbers := []int{math.MinInt, -1, 0, 1, 1999, 2000, 2001, 4000, 4001, math.MaxInt}
	weights := weightsOf(numbers...)
	isValid := func(w api.Weight) bool { return slices.Min(w[:]) >= 0 && slices.Max(w[:]) <= 4000 }
	for _, a := range weights {
		for _, b := range weights {
			var n int
			var w api.Weight
			e, f := api.ErrBad, api.ErrBad
			if isValid(a) && isValid(b) {
				n, e = cmp.Compare(rank(a), rank(b)), api.OK
				if both := (api.Weight{a[0] + b[0], a[1] + b[1], a[2] + b[2]}); isValid(both) {
					w, f = both, api.OK
				}
			}
			if got, gotE := weigh.Compare(a, b); got != n || gotE != e {
				t.Fatalf("Compare(%v, %v) = %d, %d; want %d, %d", a, b, got, int(gotE), n, int(e))
			}
			if got, gotE := weigh.Sum(a, b); got != w || gotE != f {
				t.Fatalf("Sum(%v, %v) = %v, %d; want %v, %d", a, b, got, int(gotE), w, int(f))
			}
		}
	}
}

// weightsOf returns all weights with some numbers.
func weightsOf(numbers ...int) []api.Weight {
	var weights []api.Weight
	for _, a := range numbers {
		for _, b := range numbers {
			for _, c := range numbers {
				weights = append(weights, api.Weight{a, b, c})
			}
		}
	}
	return weights
}

func TestCompareIsATotalOrder(t *testing.T) {
	weights := weightsOf(0, 1, 2, 1999, 2000)
	for _, a := range weights {
		for _, b := range weights {
			n := compare(t, a, b)
			if n != -compare(t, b, a) || (n == 0) != (a == b) {
				t.Fatalf("Compare(%v, %v) = %d, but %d the other way", a, b, n, compare(t, b, a))
			}
			for _, c := range weights {
				if n <= 0 && compare(t, b, c) <= 0 && compare(t, a, c) > 0 {
					t.Fatalf("%v is less than %v, this less than %v, but this less than the first", a, b, c)
				}
				if got := compare(t, sum(t, a, c), sum(t, b, c)); got != n {
					t.Fatalf("with %v, Compare(%v, %v) = %d, not %d", c, a, b, got, n)
				}
			}
		}
	}
}

// P9.3: all weights of a list that has a text are valid.

func checkValid(t *testing.T, text string) {
	t.Helper()
	l, e := seltext.Read(text)
	if e != api.OK {
		t.Fatalf("Read(%q) = %d", text, int(e))
	}
	for _, w := range each(t, l) {
		if got := sum(t, w, api.Weight{}); got != w || compare(t, w, w) != 0 {
			t.Fatalf("%v and nothing is %v", w, got)
		}
	}
}

func TestWeightsOfTextsAreValid(t *testing.T) {
	eachList(func(_ pickers, l []api.Complex) {
		if text, e := seltext.Text(l); e == api.OK {
			checkValid(t, text)
		}
	})
	// As much as there is room for in a text that is read.
	for _, s := range []string{"#a", ".a", "[a]", ":root", ":is(#a)", ":not(a)"} {
		compound := strings.Repeat(s, 64)
		for n := 64; n > 0; n-- {
			text := strings.TrimSuffix(strings.Repeat(compound+">", n), ">")
			if _, e := seltext.Read(text); e == api.OK {
				checkValid(t, text)
				break
			}
		}
	}
	// A list in memory may weigh more, as its text may have more than 1,500 tokens: 31 compounds of 64 ids have a text.
	l := list(wide(id("a")))
	for _, comb := range []uint8{api.CombDescendant, api.CombChild} {
		for i := range l[0].Combs {
			l[0].Combs[i] = comb
		}
		for n := 64; n > 0; n-- {
			cut := list(api.Complex{Parts: l[0].Parts[:n], Combs: l[0].Combs[:n-1]})
			if _, e := seltext.Text(cut); e == api.OK {
				want := api.Weight{64 * n}
				if w := most(t, cut); w != want || sum(t, w, api.Weight{}) != want || n < 30 {
					t.Errorf("%d compounds of 64 ids weigh %v", n, w)
				}
				break
			}
		}
	}
}

// P1: arguments are only read, results share no memory, and nothing is kept.

// spacious returns a copy of a list with something else between the lengths and the capacities of its lists.
func spacious(l []api.Complex) []api.Complex {
	other := one("x", id("y"))
	l = append(slices.Clone(l), other)[:len(l)]
	for i := range l {
		c := &l[i]
		c.Combs = append(slices.Clone(c.Combs), 9)[:len(c.Combs)]
		c.Parts = append(slices.Clone(c.Parts), other.Parts...)[:len(c.Parts)]
		for j := range c.Parts {
			p := &c.Parts[j]
			p.Simples = append(slices.Clone(p.Simples), other.Parts[0].Simples...)[:len(p.Simples)]
			for k := range p.Simples {
				p.Simples[k].List = spacious(p.Simples[k].List)
			}
		}
	}
	return l
}

// whole returns a copy of a list with all that is between the lengths and the capacities of its lists.
func whole(l []api.Complex) []api.Complex {
	l = slices.Clone(l[:cap(l)])
	for i := range l {
		c := &l[i]
		c.Combs = slices.Clone(c.Combs[:cap(c.Combs)])
		c.Parts = slices.Clone(c.Parts[:cap(c.Parts)])
		for j := range c.Parts {
			p := &c.Parts[j]
			p.Simples = slices.Clone(p.Simples[:cap(p.Simples)])
			for k := range p.Simples {
				p.Simples[k].List = whole(p.Simples[k].List)
			}
		}
	}
	return l
}

func TestArgumentsAreOnlyRead(t *testing.T) {
	eachList(func(_ pickers, l []api.Complex) {
		room := spacious(l)
		before := whole(room)
		weights, top := each(t, room), most(t, room)
		if !reflect.DeepEqual(whole(room), before) {
			t.Fatalf("%+v became %+v", before, whole(room))
		}
		kept := slices.Clone(weights)
		for i := range weights[:cap(weights)] {
			weights[:cap(weights)][i] = api.Weight{-1, -1, -1}
		}
		if again := each(t, l); !slices.Equal(again, kept) || most(t, l) != top {
			t.Fatalf("Each(%+v) = %v, and then %v", l, kept, again)
		}
	})
}

// P1: every call ends.

func TestListsInThemselves(t *testing.T) {
	for _, kind := range []uint8{api.SimNth, api.SimNthLast, api.SimIs, api.SimWhere, api.SimNot, api.SimHas} {
		s := of(kind)
		s.Of = kind <= api.SimNthLast
		l := slices.Repeat(list(one("a", slices.Repeat([]api.Simple{s}, 64)...)), 64)
		for i := range l {
			for j := range l[i].Parts[0].Simples {
				l[i].Parts[0].Simples[j].List = l
			}
		}
		checkFails(t, "a list in itself", l, api.ErrBad)
	}
	shared := list(one("a"))
	for range 3 {
		shared = slices.Repeat(list(wide(of(api.SimIs, shared...))), 64)
	}
	checkFails(t, "shared lists", shared, api.ErrMany)
	empty := slices.Repeat(list(wide(of(api.SimIs))), 64)
	checkWeights(t, "shared empty lists", empty, api.Weight{}, make([]api.Weight, 64)...)
}
