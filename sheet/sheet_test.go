package sheet_test

import (
	"fmt"
	"slices"
	"strings"
	"testing"

	"vitrine/api"
	"vitrine/cond"
	"vitrine/decl"
	"vitrine/nest"
	"vitrine/seltext"
	"vitrine/sheet"
	"vitrine/token"
)

const most = 64

// must returns a value that is made without an error.
func must[T any](x T, e api.Errno) T {
	if e != api.OK {
		panic(e)
	}
	return x
}

func valuesOf(s string) []api.Value { return must(nest.Parse(must(token.Tokens(s)))) }

// What is in rules is told by its text here, as lower layers read it.

func style(selectors, decls string) api.Rule {
	return api.Rule{Kind: api.RuleStyle, Selectors: must(seltext.Read(selectors)), Decls: must(decl.Read(decls))}
}

func media(s string, rules ...api.Rule) api.Rule {
	return api.Rule{Kind: api.RuleMedia, Cond: must(cond.Media(valuesOf(s))), Rules: rules}
}

func supports(s string, rules ...api.Rule) api.Rule {
	return api.Rule{Kind: api.RuleSupports, Cond: must(cond.Supports(valuesOf(s))), Rules: rules}
}

func name(s ...string) []string { return s }

func layer(name []string, rules ...api.Rule) api.Rule {
	return api.Rule{Kind: api.RuleLayer, Names: [][]string{name}, Rules: rules}
}

func bare(rules ...api.Rule) api.Rule { return api.Rule{Kind: api.RuleLayer, Rules: rules} }

func names(l ...[]string) api.Rule { return api.Rule{Kind: api.RuleNames, Names: l} }

func rules(l ...api.Rule) []api.Rule { return l }

func many(r api.Rule, count int) []api.Rule { return slices.Repeat(rules(r), count) }

// in puts rules into as many blocks, each in the next one.
func in(count int, outer api.Rule, l ...api.Rule) api.Rule {
	outer.Rules = l
	for range count - 1 {
		inner := outer
		outer.Rules = rules(inner)
	}
	return outer
}

// same compares rules, of which an empty list is like none.
func same(a, b api.Rule) bool {
	return a.Kind == b.Kind && slices.EqualFunc(a.Selectors, b.Selectors, sameComplex) && slices.EqualFunc(a.Decls, b.Decls, sameDecl) &&
		sameCond(a.Cond, b.Cond) && slices.EqualFunc(a.Names, b.Names, slices.Equal) && sameRules(a.Rules, b.Rules)
}

func sameRules(a, b []api.Rule) bool { return slices.EqualFunc(a, b, same) }

func sameComplex(a, b api.Complex) bool {
	return a.Lead == b.Lead && slices.Equal(a.Combs, b.Combs) && slices.EqualFunc(a.Parts, b.Parts, func(p, q api.Compound) bool {
		return p.Tag == q.Tag && slices.EqualFunc(p.Simples, q.Simples, sameSimple)
	})
}

func sameSimple(a, b api.Simple) bool {
	return a.Kind == b.Kind && a.Name == b.Name && a.Op == b.Op && a.Value == b.Value && a.Fold == b.Fold && a.Anb == b.Anb && a.Of == b.Of && slices.EqualFunc(a.List, b.List, sameComplex)
}

func sameCond(a, b api.Cond) bool {
	return a.Kind == b.Kind && a.Name == b.Name && a.Num == b.Num && sameDecl(a.Decl, b.Decl) && slices.EqualFunc(a.List, b.List, sameCond)
}

func sameDecl(a, b api.Decl) bool {
	return a.Name == b.Name && a.Important == b.Important && sameValues(a.Value, b.Value)
}

func sameValues(v, w []api.Value) bool {
	return slices.EqualFunc(v, w, func(x, y api.Value) bool { return x.Token == y.Token && sameValues(x.List, y.List) })
}

func read(t *testing.T, s string) []api.Rule {
	t.Helper()
	x, e := sheet.Read(s)
	if e != api.OK {
		t.Fatalf("Read(%.200q): %v", s, e)
	}
	return x.Rules
}

// checkRead checks the rules of a text, and that they are valid.
func checkRead(t *testing.T, s string, want ...api.Rule) {
	t.Helper()
	l := read(t, s)
	if !sameRules(l, want) {
		t.Errorf("Read(%.200q) = %+v; want %+v", s, l, want)
	}
	if e := sheet.Check(api.Sheet{Rules: l}); e != api.OK {
		t.Errorf("Check of %.200q: %v", s, e)
	}
	if n, e := sheet.Count(api.Sheet{Rules: l}); e != api.OK || n != count(l...) {
		t.Errorf("Count of %.200q = %d, %v; want %d", s, n, e, count(l...))
	}
}

// count returns how many rules there are in all.
func count(l ...api.Rule) int {
	n := len(l)
	for _, r := range l {
		n += count(r.Rules...)
	}
	return n
}

func TestExamples(t *testing.T) {
	checkRead(t, "a{b:c} x y; d{e:f} @media print{g{}} @layer p.q, r; @font-face{}",
		style("a", "b:c"), media("print", style("g", "")), names(name("p", "q"), name("r")))
}

// P11.2: style rules.

func TestStyleRules(t *testing.T) {
	a, b := style("a", ""), style("b", "")
	for s, want := range map[string][]api.Rule{
		"":                                  nil,
		" \n/**/ ":                          nil,
		"a":                                 nil,
		"a b":                               nil,
		"a;":                                nil,
		"{}":                                nil,
		"{a:b}":                             nil,
		" {}":                               nil,
		"a{}":                               {a},
		"a{":                                {a},
		" a { } ":                           {a},
		"/**/a/**/{/**/}/**/":               {a},
		"A{}":                               {a},
		`\61{}`:                             {a},
		"a{}b{}":                            {a, b},
		"a{}b{":                             {a, b},
		"a{}\nb{}\n":                        {a, b},
		"a{} {} b{}":                        {a, b},
		"{}a{}{}{}b{}":                      {a, b},
		"a{}b":                              {a},
		"a{}5{}b{}":                         {a, b},
		"a{}b,{}b{}":                        {a, b},
		"a{}>b{}b{}":                        {a, b},
		"a{};b{}":                           {a},
		"a{};b{}b{}":                        {a, b},
		"a;b{}":                             nil,
		";a{}b{}":                           {b},
		"a:b;a{}b{}":                        {b},
		"a{}}b{}":                           {a},
		"a{}}b{}b{}":                        {a, b},
		"a{}]b{}b{}":                        {a, b},
		"a{})b{}b{}":                        {a, b},
		"a[}]{}b{}":                         {b},
		"a{}(b{})b{}":                       {a},
		"a{}(b{})b{}b{}":                    {a, b},
		"a{}[b{}] {}b{}":                    {a, b},
		"a(b{}){}b{}":                       {b},
		"a{}b[{b{}":                         {a},
		"a{}(b{}":                           {a},
		"a,b{}":                             {style("a,b", "")},
		"a > b.c#d[e]:root{}":               {style("a>b.c#d[e]:root", "")},
		"a:is(b{}){}b{}":                    {style("a:is()", ""), b},
		"a:is(b{},;,c){}":                   {style("a:is(c)", "")},
		"a:not(b;){}b{}":                    {b},
		"a:hovered{}b{}":                    {b},
		"a !important{}b{}":                 {b},
		"'a'{}b{}":                          {b},
		"a'\n{}b{}":                         {b},
		"url({}){}b{}":                      {b},
		"@{}b{}":                            {b},
		"@5 a{}b{}":                         {b},
		"#5{}b{}":                           {b},
		"a{b:c}":                            {style("a", "b:c")},
		"a{b:c":                             {style("a", "b:c")},
		"a { B : c ; d:e!important; ; x } ": {style("a", "b:c;d:e!important")},
		"a{b:{c;d};e:f(;)}":                 {style("a", "b:{c;d};e:f(;)")},
		"a{b:c;@media{d{}};d:e}b{}":         {style("a", "b:c;d:e"), b},
		"a{b{c:d}}b{}":                      {a, b},
		"a{b{c:d};e:f}b{}":                  {style("a", "e:f"), b},
		"a{b{c:d}e:f}b{}":                   {a, b},
		"a{5;b:c;b;:c}":                     {style("a", "b:c")},
		"a{b:c)}b{}":                        {a, b},
		"a{b:'c\n;d:e}":                     {style("a", "d:e")},
		"a{--B:}":                           {style("a", "--B:")},
		"a{b:c;b:c}a{b:c}":                  {style("a", "b:c;b:c"), style("a", "b:c")},
		"a\x00{}\r\nb{}":                    {style("a\ufffd", ""), b},
	} {
		checkRead(t, s, want...)
	}
	checkRead(t, strings.Repeat("a,", most-1)+"a{}b{}", style(strings.Repeat("a,", most-1)+"a", ""), b)
	checkRead(t, strings.Repeat("a,", most)+"a{}b{}", b)
	checkRead(t, "a{"+strings.Repeat("b:c;", 32)+"}", style("a", strings.Repeat("b:c;", 32)))
	checkRead(t, "a{"+strings.Repeat("b:c;", 31)+"d:e;f:g}", style("a", strings.Repeat("b:c;", 31)+"d:e"))
}

func TestWhatDoesNotCountAtTheTop(t *testing.T) {
	a, b := style("a", ""), style("b", "")
	for s, want := range map[string][]api.Rule{
		"<!--":                     nil,
		"-->":                      nil,
		"<!-- a{} -->":             {a},
		"<!--a{}-->":               {a},
		"-->a{}<!--b{}":            {a, b},
		"--><!---->a{}--> <!--b{}": {a, b},
		"<!--{}a{}":                {a},
		"<!--@layer a;-->":         {names(name("a"))},
		"@layer a;-->@layer b":     {names(name("a")), names(name("b"))},
		"@layer/**/-->a;b{}":       {b},
		"@layer a/**/-->;b{}":      {b},
		"@layer a -->;b{}":         {b},
		"@layer <!--{}b{}":         {b},
		"a<!--{}b{}":               {b},
		"a -->b{}b{}":              {b},
		"5<!--a{}b{}":              {b},
		"a{<!--}b{}":               {a, b},
		"a{--> b:c}":               {a},
		"@media{<!--}":             {media("")},
		"@media{<!--a{}-->b{}}":    {media("")},
		"@media{a{}-->b{}a{}}":     {media("", a, a)},
		"@layer{--> a{}}":          {bare()},
		"@layer{<!--@layer a;b{}}": {bare()},
		"@supports f(){a{}<!--}":   {supports("f()", a)},
		"@media{<!-- ;a{}}-->b{}":  {media(""), b},
	} {
		checkRead(t, s, want...)
	}
}

// P11.2: at-rules.

func TestConditions(t *testing.T) {
	a, b := style("a", ""), style("b", "")
	for s, want := range map[string][]api.Rule{
		"@media{}":                                   {media("")},
		"@media {":                                   {media("")},
		"@media":                                     nil,
		"@media screen":                              nil,
		"@media;b{}":                                 {b},
		"@media screen;b{}":                          {b},
		"@media screen{}":                            {media("screen")},
		"@MEDIA Screen{}":                            {media("screen")},
		`@m\65 dia screen{}`:                         {media("screen")},
		"@media/**/screen/**/{}":                     {media("screen")},
		"@media print, (foo) {a{}}":                  {media("print,5", a)},
		"@media(min-width:5px){a{}b{}}":              {media("(min-width:5px)", a, b)},
		"@media{a{}":                                 {media("", a)},
		"@media{a{}}b{}":                             {media("", a), b},
		"@media{a{}}}b{}b{}":                         {media("", a), b},
		"@media{a{}b}b{}":                            {media("", a), b},
		"@media{a{}b;}":                              {media("", a)},
		"@media{;a{}b{}}":                            {media("", b)},
		"@media{a:b}":                                {media("")},
		"@media{a:b;c{}}":                            {media("")},
		"@media{{}a{}}":                              {media("", a)},
		"@media{5{}a{}x;{}}":                         {media("", a)},
		"@media print{}":                             {media("print")},
		"@media 5{a{}}b{}":                           {media("5", a), b},
		"@media a b{a{}}b{}":                         {media("not all", a), b},
		"@media }{a{}}b{}":                           {media("5", a), b},
		"@media(;){a{}}b{}":                          {media("5", a), b},
		"@media[{};]{a{}}b{}":                        {media("5", a), b},
		"@media f({a{}}){a{}}":                       {media("5", a)},
		"@media @x{a{}}":                             {media("5", a)},
		"@media{@media{a{}}b{}}a{}":                  {media("", media("", a), b), a},
		"@media{@media{@media{@supports f(){":        {media("", media("", media("", supports("f()"))))},
		"@media{}@media{}":                           {media(""), media("")},
		"@media{};a{}b{}":                            {media(""), b},
		"@supports (a:b){}":                          {supports("(a:b)")},
		"@supports(a:b){a{}}":                        {supports("(a:b)", a)},
		"@SUPPORTS not (A:b!important){a{}b{}}":      {supports("not (a:b!important)", a, b)},
		"@supports/**/f(){}":                         {supports("f()")},
		"@supports f() or ((a:b) and (c:d)){a{}}":    {supports("f() or ((a:b) and (c:d))", a)},
		"@supports (a;b){a{}}":                       {supports("(unknown)", a)},
		"@supports{a{}}b{}":                          {b},
		"@supports {a{}}b{}":                         {b},
		"@supports x{a{}}b{}":                        {b},
		"@supports a:b{a{}}b{}":                      {b},
		"@supports (a:b)(c:d){a{}}b{}":               {b},
		"@supports (a:b) and (c:d) or (e:f){a{}}b{}": {b},
		"@supports not(a:b){a{}}b{}":                 {supports("not(a:b)", a), b},
		"@supports (a:b)":                            nil,
		"@supports (a:b);b{}":                        {b},
		"@supports (a:b){a{}":                        {supports("(a:b)", a)},
		"@supports;b{}":                              {b},
		"@medias{a{}}b{}":                            {b},
		"@media-x{a{}}b{}":                           {b},
		"@support (a:b){a{}}b{}":                     {b},
		"@import 'x' screen;b{}":                     {b},
		"@import url(x)":                             nil,
		"@charset 'x';b{}":                           {b},
		"@namespace a;b{}":                           {b},
		"@font-face{a:b}b{}":                         {b},
		"@font-face{a:b;}b{}":                        {b},
		"@page :first{a:b}b{}":                       {b},
		"@x a{}b{}":                                  {b},
		"@x{@media{a{}}}b{}":                         {b},
		"@x y z;b{}":                                 {b},
		"@x(y;z{}) z;b{}":                            {b},
		"@x[y;z{}]{;a{}}b{}":                         {b},
		"@x}y;b{}":                                   {b},
		"@x @media;b{}":                              {b},
		"@x @media{a{}}b{}":                          {b},
		"@x":                                         nil,
		"@x;":                                        nil,
		"@x{}":                                       nil,
		"a{}@x":                                      {a},
		"a @media{b{}}a{}":                           {a},
		"@media{a @media{b{}}a{}}":                   {media("", a)},
		"@media{@x;a{}@x{b{}}b{}@x}":                 {media("", a, b)},
		"@media{a{}@x}b{}":                           {media("", a), b},
		"@media{@import x;}":                         {media("")},
	} {
		checkRead(t, s, want...)
	}
	checkRead(t, "@media "+strings.Repeat("a,", most-1)+"a{a{}}b{}", media(strings.Repeat("a,", most-1)+"a", a), b)
	checkRead(t, "@media "+strings.Repeat("a,", most)+"a{a{}}b{}", b)
}

func TestLayers(t *testing.T) {
	a, b := style("a", ""), style("b", "")
	x, xy := name("x"), name("x", "y")
	for s, want := range map[string][]api.Rule{
		"@layer{}":                      {bare()},
		"@layer {":                      {bare()},
		"@layer /**/ {a{}}":             {bare(a)},
		"@layer x{}":                    {layer(x)},
		"@layer x{":                     {layer(x)},
		"@LAYER x{a{}b{}}b{}":           {layer(x, a, b), b},
		`@l\61yer x{a{}}`:               {layer(x, a)},
		"@layer/**/x/**/{}":             {layer(x)},
		"@layer  x  {}":                 {layer(x)},
		"@layer x.y{a{}}":               {layer(xy, a)},
		"@layer x/**/./**/y{a{}}":       {layer(xy, a)},
		"@layer x.y.x{}":                {layer(name("x", "y", "x"))},
		"@layer X.x{}":                  {layer(name("X", "x"))},
		`@layer x\.y.\{{}`:              {layer(name("x.y", "{"))},
		"@layer é.--.-x{}":              {layer(name("é", "--", "-x"))},
		"@layer media.layer{}":          {layer(name("media", "layer"))},
		"@layer x{@layer y{a{}}}":       {layer(x, layer(name("y"), a))},
		"@layer x{@layer{@layer}}":      {layer(x, bare())},
		"@layer x;":                     {names(x)},
		"@layer x":                      {names(x)},
		"@layer x;b{}":                  {names(x), b},
		"@layer x.y;":                   {names(xy)},
		"@layer x,y":                    {names(x, name("y"))},
		"@layer x , x.y,x ;b{}":         {names(x, xy, x), b},
		"@layer/**/x/**/,/**/y;":        {names(x, name("y"))},
		"@layer{@layer x}b{}":           {bare(names(x)), b},
		"@layer{@layer x;a{}}b{}":       {bare(names(x), a), b},
		"@media{@layer x,y;@layer x{}}": {media("", names(x, name("y")), layer(x))},
		"@layer x;@layer x":             {names(x), names(x)},
		"@layer x;;b{}b{}":              {names(x), b},
	} {
		checkRead(t, s, want...)
	}
	for _, s := range []string{
		",", "x,", ",x", "x,,y", ", ,", "x y", "x .y", "x. y", "x . y", "x.", ".x", ".", "x..y", "x.y.", "x.5", "x.5.y", "x5.5", "5", "'x'", "x 'y'", "x()", "(x)", "[x]", "x>y", "x+y", "x*y", "x:y", "#x", "x#y", ".#x", "url(x)", "x!", "x)", "x]", "@x", "x @layer y", "x,y.", "x,.y", "x,y z", "x,5,y", "x.y,(z)", "x/y", "x|y", "--.", "<!--", "x.'y'", "x.y()", "'\n",
	} {
		checkRead(t, "@layer "+s+";b{}", b)
		checkRead(t, "@layer "+s+"{a{}}b{}", b)
		checkRead(t, "@media{b{}@layer "+s, media("", b))
	}
	for _, s := range []string{"", " ", "/**/", "x}", "x,y}"} {
		checkRead(t, "@layer"+s+";b{}", b)
		checkRead(t, "b{}@layer "+s, b)
	}
	for _, s := range []string{"x,y", "x , y", "x,x", "x.y,x"} {
		checkRead(t, "@layer "+s+"{a{}}b{}", b)
	}
	checkRead(t, "b{}@layer x\\", b, names(name("x\ufffd")))
}

func TestLayersThatAreTooMuch(t *testing.T) {
	b := style("b", "")
	deep := strings.Repeat("x.", 15) + "x"
	for _, s := range []string{deep, strings.Repeat("x", 64), strings.Repeat("é", 32), "y." + strings.Repeat("x", 64)} {
		n := strings.Split(s, ".")
		checkRead(t, "@layer "+s+";b{}", names(n), b)
		checkRead(t, "@layer y,"+s+";b{}", names(name("y"), n), b)
		checkRead(t, "@layer "+s+"{b{}}", layer(n, b))
	}
	for _, s := range []string{deep + ".x", strings.Repeat("x", 65), strings.Repeat("é", 32) + "x", "y." + strings.Repeat("x", 65), strings.Repeat("x", 65) + ".y"} {
		checkRead(t, "@layer "+s+";b{}", b)
		checkRead(t, "@layer y,"+s+";b{}", b)
		checkRead(t, "@layer "+s+"{a{}}b{}", b)
	}
	checkRead(t, "@layer "+strings.Repeat("x,", most-1)+"x;b{}", names(slices.Repeat([][]string{name("x")}, most)...), b)
	checkRead(t, "@layer "+strings.Repeat("x,", most)+"x;b{}", b)
	checkRead(t, "@layer "+strings.Repeat("x,", most*3)+"x;b{}", b)
}

// P11.2: as many rules as there is room for.

func TestRoom(t *testing.T) {
	a, b := style("a", ""), style("b", "")
	as := func(count int) string { return strings.Repeat("a{}", count) }
	for s, want := range map[string][]api.Rule{
		as(64):                                          many(a, 64),
		as(65):                                          many(a, 64),
		as(200):                                         many(a, 64),
		as(63) + "b{}a{}":                               append(many(a, 63), b),
		as(64) + "b{}":                                  many(a, 64),
		as(63) + "@layer x;":                            append(many(a, 63), names(name("x"))),
		as(64) + "@layer x;":                            many(a, 64),
		"@layer x,y,z;" + as(64):                        append(rules(names(name("x"), name("y"), name("z"))), many(a, 63)...),
		"@media{" + as(63) + "}b{}":                     {media("", many(a, 63)...)},
		"@media{" + as(64) + "}b{}":                     {media("", many(a, 63)...)},
		"@media{" + as(62) + "}b{}a{}":                  {media("", many(a, 62)...), b},
		as(63) + "@media{b{}}":                          append(many(a, 63), media("")),
		as(63) + "@supports f(){b{}}b{}":                append(many(a, 63), supports("f()")),
		as(64) + "@media{b{}}":                          many(a, 64),
		as(62) + "@media{b{}a{}}a{}":                    append(many(a, 62), media("", b)),
		as(61) + "@media{@layer{b{}b{}}b{}}b{}":         append(many(a, 61), media("", bare(b))),
		as(61) + "@media{@layer x{@layer{b{}}b{}}}b{}":  append(many(a, 61), media("", layer(name("x"), bare()))),
		as(60) + "@media{@layer{b{}}}b{}b{}":            append(many(a, 60), media("", bare(b)), b),
		"@media{@layer{" + as(70) + "}b{}}b{}":          {media("", bare(many(a, 62)...))},
		strings.Repeat("@media{b{}}", 33):               many(media("", b), 32),
		strings.Repeat("@layer{@media{b{}}}", 22) + "b": append(many(bare(media("", b)), 21), bare()),
		// What gives no rule, and what is in it, does not count.
		strings.Repeat("5{}", 100) + "a{}":                  {a},
		"@x{" + as(70) + "}" + as(64):                       many(a, 64),
		"@supports x{" + as(70) + "}" + as(65):              many(a, 64),
		"@layer x y{" + as(70) + "}" + as(65):               many(a, 64),
		"@media{" + strings.Repeat("{}", 70) + "}" + as(63): append(rules(media("")), many(a, 63)...),
		as(63) + strings.Repeat("@x;", 70) + "b{}b{}":       append(many(a, 63), b),
		as(63) + "5{}@layer;@supports{}b{}":                 append(many(a, 63), b),
	} {
		checkRead(t, s, want...)
	}
}

func TestReadErrors(t *testing.T) {
	for s, want := range map[string]api.Errno{
		"a{}" + strings.Repeat(" ", 3997):                         api.OK,
		"a{}" + strings.Repeat(" ", 3998):                         api.ErrLong,
		strings.Repeat("(", 4001):                                 api.ErrLong,
		strings.Repeat(",", 1497) + "a{}":                         api.OK,
		strings.Repeat(",", 1498) + "a{}":                         api.ErrMany,
		strings.Repeat("(", 1501):                                 api.ErrMany,
		strings.Repeat("(", 1500):                                 api.ErrDeep,
		strings.Repeat("@media{", 16) + strings.Repeat("}", 16):   api.OK,
		strings.Repeat("@media{", 17):                             api.ErrDeep,
		"5" + strings.Repeat("[", 16):                             api.OK,
		"5" + strings.Repeat("[", 17):                             api.ErrDeep,
		"a{}b{}5" + strings.Repeat("[", 17):                       api.ErrDeep,
		strings.Repeat("a{}", 70) + strings.Repeat("(", 17):       api.ErrDeep,
		strings.Repeat("{", 16) + strings.Repeat(",", 1468):       api.OK,
		strings.Repeat("{", 16) + strings.Repeat(",", 1469):       api.ErrMany,
		strings.Repeat("{", 17) + strings.Repeat(",", 1469):       api.ErrDeep,
		strings.Repeat("\x00", 3990) + "{}":                       api.OK,
		strings.Repeat("@layer{", 13) + ":is(:not(:where(a)))b{}": api.OK,
		strings.Repeat("@layer{", 14) + ":is(:not(:where(a)))b{}": api.ErrDeep,
	} {
		x, e := sheet.Read(s)
		if e != want || e != api.OK && len(x.Rules) > 0 {
			t.Errorf("Read(%.50q of %d bytes) = %d rules, %v; want %v", s, len(s), len(x.Rules), e, want)
		}
		r, e := sheet.Rule(s)
		if want != api.OK && (e != want || !same(r, api.Rule{})) {
			t.Errorf("Rule(%.50q of %d bytes) = %+v, %v; want %v", s, len(s), r, e, want)
		}
	}
}

// P11.3

func TestRule(t *testing.T) {
	a, b := style("a", ""), style("b", "")
	for s, want := range map[string]api.Rule{
		"a{}":                  a,
		" a { b : c } ":        style("a", "b:c"),
		"a{":                   a,
		"/**/a{}/**/":          a,
		"<!-- a{} -->":         a,
		"--><!--a{}\n<!--":     a,
		"a,b{c:d;e:f;;x}":      style("a,b", "c:d;e:f"),
		"@media{}":             media(""),
		"@media print{a{}b{}}": media("print", a, b),
		"@media{5{}a{};x}":     media("", a),
		"@supports f(){a{}":    supports("f()", a),
		"@layer{}":             bare(),
		"@layer x{@layer y}":   layer(name("x"), names(name("y"))),
		"@layer x.y,z;":        names(name("x", "y"), name("z")),
		"@layer x":             names(name("x")),
		"-->@layer x;<!--":     names(name("x")),
		"@media{" + strings.Repeat("a{}", 63) + "}": media("", many(a, 63)...),
		// As in a sheet, there is no room for more.
		"@media{" + strings.Repeat("a{}", 64) + "}":            media("", many(a, 63)...),
		"@media{@layer{" + strings.Repeat("a{}", 90) + "}b{}}": media("", bare(many(a, 62)...)),
	} {
		r, e := sheet.Rule(s)
		if e != api.OK || !same(r, want) {
			t.Errorf("Rule(%q) = %+v, %v; want %+v", s, r, e, want)
		}
		if e := sheet.CheckRule(r); e != api.OK {
			t.Errorf("CheckRule of %q: %v", s, e)
		}
	}
	for _, s := range []string{
		"", " ", "/**/", "<!--", " <!-- --> ",
		"a", "a b", "{}", "{a:b}", ";", "}", "5{}", "a,{}", "a;{}", "a:b",
		"@media", "@media;", "@media screen", "@supports{}", "@supports x{a{}}", "@layer;", "@layer", "@layer x y;", "@layer x,y{}", "@import x;", "@x", "@x{a{}}", "@5{}",
		"@media " + strings.Repeat("a,", most) + "a{}", strings.Repeat("a,", most) + "a{}", "@layer " + strings.Repeat("x,", most) + "x",
		"a{}b{}", "a{} a{}", "a{}b", "b a{}{}", "a{};", "a{}}", "a{})", "a{}5", "5{}a{}", "a{}5{}", "{}a{}", "a{}{}", "@x;a{}", "a{}@x", "a{}@x{}", "@layer x;;", "@layer x;@layer y", "@layer x;}", "@media{}@media{}", "@media{} x", "@media{}};", "a{}<!--b{}", "a{}-->5", ";a{}", "x;a{}",
		strings.Repeat("a{}", 70), "5{}" + strings.Repeat("a{}", 70),
		"@media{" + strings.Repeat("a{}", 63) + "}b{}",
	} {
		if r, e := sheet.Rule(s); e != api.ErrForm || !same(r, api.Rule{}) {
			t.Errorf("Rule(%.100q) = %+v, %v", s, r, e)
		}
	}
}

// P11.1

// checkValid checks whether one rule is valid, alone and with others.
func checkValid(t *testing.T, r api.Rule, valid bool) {
	t.Helper()
	a := style("a", "")
	alone, e := sheet.Count(api.Sheet{Rules: rules(r)})
	behind, f := sheet.Count(api.Sheet{Rules: rules(a, r)})
	if got := sheet.CheckRule(r); got != wanted(valid) || got != e || got != sheet.Check(api.Sheet{Rules: rules(r)}) {
		t.Errorf("CheckRule(%s) = %v, Count = %v; want %v", brief(r), got, e, wanted(valid))
	}
	if !valid {
		if alone != 0 || behind != 0 || f != api.ErrBad {
			t.Errorf("Count with %s = %d, %d, %v", brief(r), alone, behind, f)
		}
		return
	}
	n := count(r)
	if alone != n || n < most && (behind != n+1 || f != api.OK) || n == most && f != api.ErrBad {
		t.Errorf("Count with %s = %d, and %d, %v; want %d", brief(r), alone, behind, f, n)
	}
}

func wanted(valid bool) api.Errno {
	if valid {
		return api.OK
	}
	return api.ErrBad
}

// brief tells some of a rule, of which there may be too much.
func brief(r api.Rule) string {
	return fmt.Sprintf("kind %d, %d selectors, %d decls, condition %d, %d names, %d rules", r.Kind, len(r.Selectors), len(r.Decls), r.Cond.Kind, len(r.Names), len(r.Rules))
}

func TestCheck(t *testing.T) {
	a := style("a", "b:c")
	for _, r := range []api.Rule{
		a,
		style("a, b > :is(), [x]", ""),
		style("a", strings.Repeat("b:c;", 32)),
		style(strings.Repeat("a,", most-1)+"a", "--x:"),
		media(""),
		media("print, screen and (min-width:5px)", a, media("", a)),
		supports("(a:b) and f()"),
		supports("(a:b)", a, supports("f()", a), a),
		bare(),
		layer(name("x")),
		layer(name("x", "y"), a, names(name("y"))),
		names(name("x")),
		names(name("x", "y"), name("x")),
		{Kind: api.RuleLayer, Names: [][]string{}, Rules: rules(), Decls: []api.Decl{}, Selectors: []api.Complex{}, Cond: api.Cond{List: []api.Cond{}, Decl: api.Decl{Value: []api.Value{}}}},
	} {
		checkValid(t, r, true)
		checkValid(t, media("", r), true)
		checkValid(t, bare(a, supports("f()", a, r), a), true)
	}
	if n, e := sheet.Count(api.Sheet{}); sheet.Check(api.Sheet{}) != api.OK || n != 0 || e != api.OK {
		t.Errorf("Count of no rules = %d, %v", n, e)
	}
	badDecl, badLater := a, style("a", "b:c;d:e")
	badDecl.Decls = []api.Decl{{Name: "A", Value: valuesOf("x")}}
	badLater.Decls[1].Value = valuesOf("x;y")
	badSelector, fewSelectors, tooManySelectors, tooManyDecls := style("a,b", ""), style("a", ""), style("a", ""), style("a", "")
	badSelector.Selectors[1].Lead = api.CombChild
	fewSelectors.Selectors = nil
	tooManySelectors.Selectors = must(seltext.Read(strings.Repeat("a,", most-1) + "a"))
	tooManySelectors.Selectors = append(tooManySelectors.Selectors, tooManySelectors.Selectors[0])
	tooManyDecls.Decls = slices.Repeat(style("a", "b:c").Decls, 33)
	asSupports, asMedia := supports("(a:b)"), media("screen")
	asSupports.Kind, asMedia.Kind = api.RuleMedia, api.RuleSupports
	noMedia, noSupports := media(""), supports("f()")
	noMedia.Cond, noSupports.Cond = api.Cond{}, api.Cond{}
	badMedia := media("")
	badMedia.Cond.Kind = api.CondAny
	for _, r := range []api.Rule{
		{},
		{Kind: 6},
		{Kind: 255},
		badDecl, badLater, badSelector, fewSelectors, tooManySelectors, tooManyDecls,
		asSupports, asMedia, noMedia, noSupports, badMedia,
		{Kind: api.RuleNames},
		{Kind: api.RuleLayer, Names: [][]string{name("x"), name("y")}},
	} {
		checkValid(t, r, false)
		checkValid(t, media("", r), false)
		checkValid(t, supports("f()", a, r), false)
		checkValid(t, layer(name("x"), a, bare(r)), false)
	}
}

func TestCheckNames(t *testing.T) {
	x := name("x")
	for _, test := range []struct {
		name  []string
		valid bool
	}{
		{x, true},
		{name("X", "é", " ", ".", "5", "-", "\n", "\xff"), true},
		{slices.Repeat(x, 16), true},
		{slices.Repeat(x, 17), false},
		{slices.Repeat(x, 1000), false},
		{nil, false},
		{name(), false},
		{name(""), false},
		{name("x", ""), false},
		{name("", "x"), false},
		{name("\x00"), false},
		{name("x\x00y"), false},
		{name("x", "x\x00"), false},
		{name(strings.Repeat("x", 64)), true},
		{name(strings.Repeat("x", 65)), false},
		{name("x", strings.Repeat("é", 32)), true},
		{name("x", strings.Repeat("é", 33)), false},
		{name(strings.Repeat("x", 64)+"\x00", "x"), false},
	} {
		checkValid(t, layer(test.name), test.valid)
		checkValid(t, names(test.name), test.valid)
		checkValid(t, names(x, test.name, x), test.valid)
		checkValid(t, names(x, x, test.name), test.valid)
		checkValid(t, layer(x, layer(test.name)), test.valid)
	}
	for _, n := range []int{1, 2, 63, 64, 65, 1000} {
		checkValid(t, names(slices.Repeat([][]string{x}, n)...), n <= most)
	}
}

// Each kind of a rule has what it uses, and nothing else.
func TestCheckTheRest(t *testing.T) {
	const selectors, decls, condition, nameList, ruleList = 0, 1, 2, 3, 4
	a := style("a", "b:c")
	spoil := []func(r *api.Rule){
		func(r *api.Rule) { r.Selectors = a.Selectors },
		func(r *api.Rule) { r.Decls = a.Decls },
		func(r *api.Rule) { r.Cond = supports("f()").Cond },
		func(r *api.Rule) { r.Names = [][]string{name("x")} },
		func(r *api.Rule) { r.Rules = rules(a) },
		func(r *api.Rule) { r.Cond.Name = "x" },
		func(r *api.Rule) { r.Cond.Num = 1 },
		func(r *api.Rule) { r.Cond.Num = -1 },
		func(r *api.Rule) { r.Cond.Decl.Name = "x" },
		func(r *api.Rule) { r.Cond.Decl.Value = valuesOf("x") },
		func(r *api.Rule) { r.Cond.Decl.Important = true },
		func(r *api.Rule) { r.Cond.List = append(slices.Clip(r.Cond.List), api.Cond{}) },
		func(r *api.Rule) { r.Cond.Kind = 9 },
		func(r *api.Rule) { r.Kind = 0 },
		func(r *api.Rule) { r.Kind = 77 },
		func(r *api.Rule) { r.Names = [][]string{nil} },
		func(r *api.Rule) { r.Rules = rules(api.Rule{}) },
	}
	for _, test := range []struct {
		r    api.Rule
		uses []int
	}{
		{style("a", ""), []int{selectors, decls}},
		{style("a", "b:c"), []int{selectors, decls}},
		{media(""), []int{ruleList}},
		{media("screen", a), []int{ruleList}},
		{supports("f()"), []int{condition, ruleList}},
		{supports("not f()", a), []int{condition, ruleList}},
		{bare(), []int{nameList, ruleList}},
		{layer(name("x", "y"), a), []int{nameList, ruleList}},
		{names(name("x")), []int{nameList}},
		{names(name("x"), name("y")), []int{nameList}},
	} {
		for i, change := range spoil {
			r := test.r
			change(&r)
			checkValid(t, r, slices.Contains(test.uses, i))
			checkValid(t, media("", a, r), slices.Contains(test.uses, i))
		}
	}
}

// blocks is a text of as many blocks, each in the next one.
func blocks(count int) string { return strings.Repeat("(", count) + strings.Repeat(")", count) }

func TestCheckDepth(t *testing.T) {
	a, n := style("a", ""), names(name("x"))
	for _, test := range []struct {
		r     api.Rule
		depth int
	}{
		{n, 0},
		{a, 1},
		{style("a", "b:c"), 1},
		{style("a", "--b:"), 1},
		{style("a", "b:"+blocks(1)), 2},
		{style("a", "b:"+blocks(4)+";c:"+blocks(2)), 5},
		{style("a", "c:"+blocks(2)+";b:"+blocks(4)), 5},
		{style("a", "b:"+blocks(15)), 16},
		{style("a", "b:"+blocks(16)), 17},
		{style("a:root.b#c", ""), 1},
		{style("[a]", ""), 1},
		{style(":is([a])", ""), 2},
		{style(":is([a])", "b:"+blocks(1)), 2},
		{style(":is([a])", "b:"+blocks(2)), 3},
		{style("a, b :is([a])", ""), 2},
		{style(":is(a [a], b), b", ""), 2},
		{style(":is(:is(:is()))", ""), 3},
		{style(":where(:where())", ""), 2},
		{style(":where(:where(a))", ""), 2},
		{style(":not(:not(:link))", ""), 2},
		{style(":has(> :not(a))", ""), 2},
		{style(":has(:not(a))", ""), 2},
		{style(":has(~ a > [b])", ""), 2},
		{style(":is(:first-child)", ""), 1},
		{style(":is(:is(:first-child, :last-child))", ""), 2},
		{style(":is(:is(:nth-child(1)))", ""), 2},
		{style(":is(:is(:nth-child(2)))", ""), 3},
		{style(":is(:is(:nth-last-child(1)))", ""), 2},
		{style(":is(:is(:nth-last-child(n)))", ""), 3},
		{style(":is(:nth-child(1 of a))", ""), 2},
		{style(":is(:nth-child(1 of [a]))", ""), 3},
		{style(":nth-last-child(2 of :nth-child(1 of :not([a])))", ""), 4},
		{style(":is(:is(:is([a])))", ""), 4},
		{media(""), 1},
		{media("(min-width:5px)"), 1},
		{media("", n), 1},
		{media("", n, a, n), 2},
		{media("", a, media("", a), a), 3},
		{media("", style("a", "b:"+blocks(3))), 5},
		{media("", style(":is([a])", "")), 3},
		{supports("f()"), 1},
		{supports("(a:b)"), 1},
		{supports("not (a:b)"), 1},
		{supports("(a:" + blocks(1) + ")"), 2},
		{supports("(a:"+blocks(1)+")", a), 2},
		{supports("(a:"+blocks(1)+")", media("", a)), 3},
		{supports("(a:" + blocks(15) + ")"), 16},
		{supports("not (not (not f()))"), 3},
		{supports("f() and (f() or f())"), 2},
		{supports("(f() or f()) and f()"), 2},
		{supports("f() and ((a:" + blocks(1) + ") or f())"), 3},
		{supports("(not (a:" + blocks(2) + ")) or f()"), 4},
		{bare(), 1},
		{layer(name("x", "y", "z")), 1},
		{layer(name("x"), bare(n)), 2},
	} {
		for inner := range 20 {
			checkValid(t, in(inner+1, media(""), test.r), inner+1+test.depth <= 16)
			checkValid(t, in(inner+1, layer(name("x")), a, test.r, a), max(inner+2, inner+1+test.depth) <= 16)
			checkValid(t, in(inner+1, supports("f()"), n, test.r), inner+1+test.depth <= 16)
		}
		checkValid(t, test.r, test.depth <= 16)
	}
}

func TestCheckHowMany(t *testing.T) {
	a := style("a", "")
	for _, test := range []struct {
		rules []api.Rule
		count int
	}{
		{nil, 0},
		{many(a, 63), 63},
		{many(a, 64), 64},
		{many(a, 65), 65},
		{many(a, 100000), 100000},
		{rules(media("", many(a, 62)...)), 63},
		{rules(media("", many(a, 63)...)), 64},
		{rules(media("", many(a, 64)...)), 65},
		{rules(media("", bare(many(a, 62)...))), 64},
		{rules(media("", bare(many(a, 63)...))), 65},
		{rules(bare(many(a, 30)...), bare(many(a, 32)...)), 64},
		{rules(bare(many(a, 30)...), bare(many(a, 33)...)), 65},
		{rules(bare(many(a, 31)...), bare(many(a, 31)...), a), 65},
		{many(media("", bare()), 32), 64},
		{many(media("", bare()), 33), 66},
		{rules(in(10, bare(), many(a, 54)...)), 64},
		{rules(in(10, bare(), many(a, 55)...)), 65},
		{many(names(name("x"), name("y"), name("z")), 64), 64},
	} {
		if got := count(test.rules...); got != test.count {
			t.Fatalf("there are %d; want %d", got, test.count)
		}
		x := api.Sheet{Rules: test.rules}
		n, e := sheet.Count(x)
		if test.count <= most && (n != test.count || e != api.OK) || test.count > most && (n != 0 || e != api.ErrBad) || e != sheet.Check(x) {
			t.Errorf("Count of %d = %d, %v; Check = %v", test.count, n, e, sheet.Check(x))
		}
		for _, r := range test.rules[:min(len(test.rules), 2)] {
			checkValid(t, r, count(r) <= most)
		}
	}
}

// Rules may be in themselves, and share lists in more ways than could ever be gone; so may all that is in them.
func TestCheckEnds(t *testing.T) {
	a := style("a", "b:c")
	for _, outer := range []api.Rule{media(""), supports("f()"), layer(name("x"))} {
		for _, l := range [][]api.Rule{many(a, 1), many(a, 3), many(a, 2000)} {
			l[0] = outer
			l[0].Rules = l
			checkValid(t, l[0], false)
			checkValid(t, media("", l...), false)
		}
		shared := outer
		for range 15 {
			shared = in(1, outer, slices.Repeat(rules(shared), 1000)...)
		}
		checkValid(t, shared, false)
		tail := many(outer, 3)
		tail[1].Rules, tail[0].Rules = tail[2:], tail[1:]
		if n, e := sheet.Count(api.Sheet{Rules: tail}); n != 7 || e != api.OK {
			t.Errorf("Count of tails = %d, %v", n, e)
		}
	}
	values := valuesOf("()")
	values[0].List = values
	looped := a
	looped.Decls = []api.Decl{{Name: "b", Value: values}}
	checkValid(t, looped, false)
	selectors := must(seltext.Read(":is(a)"))
	selectors[0].Parts[0].Simples[0].List = selectors
	looped = a
	looped.Selectors = selectors
	checkValid(t, looped, false)
	conds := []api.Cond{{Kind: api.CondNot}}
	conds[0].List = conds
	looped = supports("f()", a)
	looped.Cond = conds[0]
	checkValid(t, looped, false)
	looped.Kind = api.RuleMedia
	checkValid(t, looped, false)
	wide := style("a", "")
	wide.Selectors[0].Parts[0].Simples = slices.Repeat(style(":is()", "").Selectors[0].Parts[0].Simples, most)
	wide.Selectors[0].Parts = slices.Repeat(wide.Selectors[0].Parts, most)
	wide.Selectors[0].Combs = slices.Repeat([]uint8{api.CombChild}, most-1)
	wide.Selectors = slices.Repeat(wide.Selectors, most)
	checkValid(t, wide, true)
}
