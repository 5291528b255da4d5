package tests

import (
	"math"
	"reflect"
	"slices"
	"strings"
	"testing"

	"loop.example/scopegraphs/impl"
)

// noNames are texts that are no names.
var noNames = []string{"", "xy", "xx", "X", "`", "{", "0", " ", "-", "?x", "!x", "x=1", "x ", " x", "x\x00", "\x00", "\xff", "é", strings.Repeat("x", 1000)}

// A lookupAnswer is what the functions of chapter 3 must return for a scope and a name, with places as texts.
type lookupAnswer struct {
	own, imported, found string
	at, way              int
}

// checkLookup compares all functions that take a scope and a name.
func checkLookup(t *testing.T, g impl.Graph, s int, name string, want lookupAnswer) {
	t.Helper()
	lists := []struct {
		what string
		f    func(impl.Graph, int, string) ([]impl.Place, bool)
		want string
	}{{"OwnOf", impl.OwnOf, want.own}, {"ImportedOf", impl.ImportedOf, want.imported}, {"LookUp", impl.LookUp, want.found}}
	for _, c := range lists {
		if list, ok := c.f(g, s, name); !ok || impl.FormatPlaces(list) != c.want {
			t.Errorf("%s(%q, %d, %q) = %v, %v, want %s", c.what, impl.FormatGraph(g), s, name, list, ok, c.want)
		}
	}
	if at, way := impl.LookUpWay(g, s, name); at != want.at || way != want.way {
		t.Errorf("LookUpWay(%q, %d, %q) = %d, %d, want %d, %d", impl.FormatGraph(g), s, name, at, way, want.at, want.way)
	}
}

// checkNoLookup checks that all functions that take a scope and a name refuse these.
func checkNoLookup(t *testing.T, g impl.Graph, s int, name string) {
	t.Helper()
	for what, f := range map[string]func(impl.Graph, int, string) ([]impl.Place, bool){"OwnOf": impl.OwnOf, "ImportedOf": impl.ImportedOf, "LookUp": impl.LookUp} {
		if list, ok := f(g, s, name); ok || len(list) != 0 {
			t.Errorf("%s(%v, %d, %q) = %v, %v", what, g, s, name, list, ok)
		}
	}
	if at, way := impl.LookUpWay(g, s, name); at != -1 || way != impl.WayNone {
		t.Errorf("LookUpWay(%v, %d, %q) = %d, %d", g, s, name, at, way)
	}
}

// checkImports compares the scopes that a scope imports.
func checkImports(t *testing.T, g impl.Graph, s int, want []int) {
	t.Helper()
	if list, ok := impl.ImportedScopes(g, s); !ok || !slices.Equal(list, want) {
		t.Errorf("ImportedScopes(%q, %d) = %v, %v, want %v", impl.FormatGraph(g), s, list, ok, want)
	}
}

// checkTarget compares the scope that an item brings in.
func checkTarget(t *testing.T, g impl.Graph, p impl.Place, want int) {
	t.Helper()
	if s := impl.ImportTarget(g, p); s != want {
		t.Errorf("ImportTarget(%q, %v) = %d, want %d", impl.FormatGraph(g), p, s, want)
	}
}

// checkCircles compares the scopes that import themselves.
func checkCircles(t *testing.T, g impl.Graph, want []int) {
	t.Helper()
	if list, ok := impl.ImportCircles(g); !ok || !slices.Equal(list, want) {
		t.Errorf("ImportCircles(%q) = %v, %v, want %v", impl.FormatGraph(g), list, ok, want)
	}
}

func TestLookUp(t *testing.T) {
	const none, own, imported = impl.WayNone, impl.WayOwn, impl.WayImported
	cases := []struct {
		why, text string
		s         int
		name      string
		want      lookupAnswer
	}{
		{"the example of the document", "-,x,m=1;0,x;0,!m,?x", 2, "x", lookupAnswer{"-", "1.0", "1.0", 2, imported}},
		{"own ahead of imported and around", "-,x,m=1;0,x;0,!m,x,?x", 2, "x", lookupAnswer{"2.1", "1.0", "2.1", 2, own}},
		{"around if not imported", "-,x,m=1;0,y;0,!m,?x", 2, "x", lookupAnswer{"-", "-", "0.0", 0, own}},
		{"nothing anywhere", "-,y,m=1;0,y;0,!m,?x", 2, "x", lookupAnswer{"-", "-", "-", -1, none}},
		{"an empty graph", "-", 0, "x", lookupAnswer{"-", "-", "-", -1, none}},
		{"two own ones", "-,x,?x,x", 0, "x", lookupAnswer{"0.0 0.2", "-", "0.0 0.2", 0, own}},
		{"a module is a declaration", "-,x,m=1,m;0", 1, "m", lookupAnswer{"-", "-", "0.1 0.2", 0, own}},
		{"references and imports are none", "-,?x,!x", 0, "x", lookupAnswer{"-", "-", "-", -1, none}},
		{"one own ahead of two around", "-,x,x;0,x", 1, "x", lookupAnswer{"1.0", "-", "1.0", 1, own}},
		{"the nearest one around", "-,x;0,x;1;2", 3, "x", lookupAnswer{"-", "-", "1.0", 1, own}},
		{"not from the inside", "-;0,x", 0, "x", lookupAnswer{"-", "-", "-", -1, none}},
		{"not from beside", "-;0,x;0", 2, "x", lookupAnswer{"-", "-", "-", -1, none}},
		{"in the order of imports", "-,m=1,n=2;0,x;0,x;0,!n,!m,?x", 3, "x", lookupAnswer{"-", "2.0 1.0", "2.0 1.0", 3, imported}},
		{"several of each imported scope", "-,m=1,n=2;0,x,y,x;0,?x,x;0,!m,!n", 3, "x", lookupAnswer{"-", "1.0 1.2 2.1", "1.0 1.2 2.1", 3, imported}},
		{"the same scope imported twice", "-,m=1,n=2;0,x;0,x;0,!m,!n,!m,!n", 3, "x", lookupAnswer{"-", "1.0 2.0", "1.0 2.0", 3, imported}},
		{"imported from the outside", "-,m=1,!m;0,x;0,?x", 2, "x", lookupAnswer{"-", "-", "1.0", 0, imported}},
		{"imported inside ahead of own around", "-,x,m=1;0,x;0,x,!m;2", 3, "x", lookupAnswer{"-", "-", "2.0", 2, own}},
		{"imported outside behind own around", "-,m=1,!m;0,x;0,x;2", 3, "x", lookupAnswer{"-", "-", "2.0", 2, own}},
		{"not what is around an imported scope", "-,m=1;0,x,n=2;1,y;0,!m;3,!n,?x", 4, "x", lookupAnswer{"-", "-", "1.0", 3, imported}},
		{"nor what is around it if nothing else is", "-,m=1,!m;0,n=3;0,y;1;0,!n", 4, "y", lookupAnswer{"-", "-", "-", -1, none}},
		{"not what is imported there", "-,m=1,n=2;0,!n;0,x;0,!m,?x", 3, "x", lookupAnswer{"-", "-", "-", -1, none}},
		{"not what is within it", "-,m=1;0;1,x;0,!m", 3, "x", lookupAnswer{"-", "-", "-", -1, none}},
		{"an import does not help another one beside it", "-,m=1;0,n=2;1,x;0,!m,!n,?x", 3, "x", lookupAnswer{"-", "-", "-", -1, none}},
		{"nor one ahead of it", "-,m=1;0,n=2;1,x;0,!n,!m,?x", 3, "x", lookupAnswer{"-", "-", "-", -1, none}},
		{"an import helps one within", "-,m=1;0,n=2;1,x;0,!m;3,!n,?x", 4, "x", lookupAnswer{"-", "2.0", "2.0", 4, imported}},
		{"an import of two modules brings in none", "-,m=1,m=2,!m;0,x;0,x", 0, "x", lookupAnswer{"-", "-", "-", -1, none}},
		{"an import of a module and a plain one", "-,m=1,m,!m;0,x", 0, "x", lookupAnswer{"-", "-", "-", -1, none}},
		{"an import of a plain declaration", "-,m,x;0,!m", 1, "x", lookupAnswer{"-", "-", "0.1", 0, own}},
		{"a plain one hides a module from an import", "-,m=1;0,x;0,m,!m,?x", 2, "x", lookupAnswer{"-", "-", "-", -1, none}},
		{"a near module ahead of one around", "-,m=1;0,x;0,m=3,!m;2,x", 2, "x", lookupAnswer{"-", "3.0", "3.0", 2, imported}},
		{"an import of a module that is declared behind it", "-,!m,m=1;0,x", 0, "x", lookupAnswer{"-", "1.0", "1.0", 0, imported}},
		{"an import of nothing", "-,x;0,!m,?x", 1, "x", lookupAnswer{"-", "-", "0.0", 0, own}},
		{"a module that imports itself", "-,m=1,x;0,!m,y", 1, "x", lookupAnswer{"-", "-", "0.1", 0, own}},
		{"and has its own ones twice over", "-,m=1,y;0,!m,y", 1, "y", lookupAnswer{"1.1", "1.1", "1.1", 1, own}},
		{"an import of the scope around", "-,m=1;0,x;1,!m", 2, "x", lookupAnswer{"-", "1.0", "1.0", 2, imported}},
		{"modules that import each other", "-,m=1,n=2;0,!n,x;0,!m", 2, "x", lookupAnswer{"-", "1.1", "1.1", 2, imported}},
		{"a module that imports itself by the name of others", "-,m=1;0,m=2;1,m=3;2,!m,?m", 3, "m", lookupAnswer{"-", "-", "2.0", 2, own}},
		{"an import changes what its own name finds", "-,m=1;0,m=2;1;0,!m,?m", 3, "m", lookupAnswer{"-", "1.0", "1.0", 3, imported}},
	}
	for _, c := range cases {
		t.Run(c.why, func(t *testing.T) { checkLookup(t, parse(t, c.text), c.s, c.name, c.want) })
	}
}

func TestImports(t *testing.T) {
	cases := []struct {
		why, text string
		s         int
		targets   []int
		imports   []int
	}{
		{"the example of the document", "-,x,m=1;0,x;0,!m,?x", 2, []int{1, -1}, []int{1}},
		{"no items", "-", 0, nil, nil},
		{"declarations and references bring in none", "-,m=1,?m,x;0", 0, []int{-1, -1, -1}, nil},
		{"a module of its own", "-,m=1,!m;0", 0, []int{-1, 1}, []int{1}},
		{"the order of imports, not of scopes", "-,m=1,n=2,!n,!m;0;0", 0, []int{-1, -1, 2, 1}, []int{2, 1}},
		{"the same scope twice", "-,m=1,!m,!m,!x,x;0", 0, []int{-1, 1, 1, -1, -1}, []int{1}},
		{"the order of the first import of each", "-,m=1,n=2;0;0;0,!n,!m,!n,!m", 3, []int{2, 1, 2, 1}, []int{2, 1}},
		{"none, two and one found", "-,m=1,m=2,n=3;0;0;0;0,!k,!m,!n,?n", 4, []int{-1, -1, 3, -1}, []int{3}},
		{"a module and a plain one", "-,m,m=1;0;0,!m", 2, []int{-1}, nil},
		{"a plain one", "-,m;0,!m", 1, []int{-1}, nil},
		{"two plain ones", "-,m,m;0,!m", 1, []int{-1}, nil},
		{"a plain one ahead of the module around", "-,m=1;0;0,m,!m", 2, []int{-1, -1}, nil},
		{"two modules ahead of the one around", "-,m=1;0;0,m=3,m=4,!m;2;2", 2, []int{-1, -1, -1}, nil},
		{"one module ahead of two around", "-,m=1,m=2;0;0;0,m=4,!m;3", 3, []int{-1, 4}, []int{4}},
		{"a module that imports itself", "-,m=1;0,!m", 1, []int{1}, []int{1}},
		{"a module that imports the one around it", "-,m=1;0,n=2;1,!m,!n", 2, []int{1, 2}, []int{1, 2}},
		{"a module in itself of the same name", "-,m=1;0,m=2,!m;1,!m", 1, []int{-1, 2}, []int{2}},
		{"and what that imports", "-,m=1;0,m=2,!m;1,!m", 2, []int{2}, []int{2}},
		{"not what an import beside brings", "-,m=1;0,n=2;1;0,!m,!n", 3, []int{1, -1}, []int{1}},
		{"what an import around brings", "-,m=1;0,n=2;1;0,!m;3,!n", 4, []int{2}, []int{2}},
		{"what an import far around brings", "-,m=1,!m;0,n=2;1;0;3;4,!n", 5, []int{2}, []int{2}},
		{"two modules by two imports around", "-,m=1,n=2,!m,!n;0,k=3;0,k=4;1;2;0,!k", 5, []int{-1}, nil},
		{"one module by two imports around", "-,m=1,n=2,!m,!n,!m;0,k=3;0;1;0,!k", 4, []int{3}, []int{3}},
		{"an import of what is not around", "-;0,m=2;1;0,!m", 3, []int{-1}, nil},
		{"an import in the first scope finds no parent", "-,!m;0,m=2;1", 0, []int{-1}, nil},
	}
	for _, c := range cases {
		t.Run(c.why, func(t *testing.T) {
			g := parse(t, c.text)
			checkImports(t, g, c.s, c.imports)
			for i, want := range c.targets {
				checkTarget(t, g, impl.Place{Scope: c.s, Index: i}, want)
			}
		})
	}
}

func TestImportCircles(t *testing.T) {
	cases := []struct {
		why, text string
		want      []int
	}{
		{"the example of the document", "-,x,m=1;0,x;0,!m,?x", nil},
		{"one scope", "-", nil},
		{"a module that imports itself", "-,m=1;0,!m", []int{1}},
		{"a module that imports what is around it", "-,m=1;0,n=2;1,!m", nil},
		{"a module that is imported around it", "-,m=1;0,!n,n=2;1,!m", []int{1, 2}},
		{"its own module only", "-,m=1,!m;0", nil},
		{"two modules", "-,m=1,n=2;0,!n;0,!m", []int{1, 2}},
		{"two modules and the scope around", "-,m=1,n=2,!m;0,!n;0,!m", []int{1, 2}},
		{"three modules against the order of numbers", "-,a=1,b=2,c=3;0,!c;0,!a;0,!b", []int{1, 2, 3}},
		{"scopes on the way there and from there are not in it", "-,a=1,b=2,c=3,d=4;0,!b;0,!c;0,!b,!d;0;0,!a", []int{2, 3}},
		{"two circles", "-,a=1,b=2,c=3,d=4,e=5;0,!b;0,!a;0,!c;0,!e;0,!d", []int{1, 2, 3, 4, 5}},
		{"five in a row without a circle", "-,a=1,b=2,c=3,d=4,e=5;0,!b;0,!c;0,!d;0,!e;0", nil},
		{"five in a circle", "-,a=1,b=2,c=3,d=4,e=5;0,!b;0,!c;0,!d;0,!e;0,!a", []int{1, 2, 3, 4, 5}},
		{"two modules of one name form none", "-,m=1,m=2;0,!m;0,!m", nil},
	}
	for _, c := range cases {
		t.Run(c.why, func(t *testing.T) { checkCircles(t, parse(t, c.text), c.want) })
	}
}

// TestLookUpEveryName holds names against noNames: each byte alone is a name just if it is a letter.
func TestLookUpEveryName(t *testing.T) {
	g := parse(t, "-,a,b,y,z,m=1;0,m,!m")
	for b := range 256 {
		name := string([]byte{byte(b)})
		at := strings.Index("abyzm", name)
		switch {
		case name < "a" || name > "z":
			checkNoLookup(t, g, 0, name)
		case at < 0:
			checkLookup(t, g, 0, name, lookupAnswer{"-", "-", "-", -1, impl.WayNone})
		default:
			place := impl.FormatPlaces([]impl.Place{{Index: at}})
			checkLookup(t, g, 0, name, lookupAnswer{place, "-", place, 0, impl.WayOwn})
		}
	}
}

func TestNoLookups(t *testing.T) {
	for _, c := range validGraphs {
		size := len(c.graph.Scopes)
		for _, s := range append([]int{size}, noScopes...) {
			if s >= 0 && s < size {
				continue
			}
			checkNoLookup(t, c.graph, s, "x")
			if list, ok := impl.ImportedScopes(c.graph, s); ok || len(list) != 0 {
				t.Errorf("ImportedScopes(%q, %d) = %v, %v", c.text, s, list, ok)
			}
			checkTarget(t, c.graph, impl.Place{Scope: s}, -1)
		}
		for s, scope := range c.graph.Scopes {
			for _, name := range noNames {
				checkNoLookup(t, c.graph, s, name)
			}
			for _, i := range []int{-1, -2, len(scope.Items), impl.MaxItems, math.MaxInt, math.MinInt} {
				checkTarget(t, c.graph, impl.Place{Scope: s, Index: i}, -1)
			}
		}
	}
}

func TestLookupsOfInvalidGraphs(t *testing.T) {
	for what, g := range invalidGraphs {
		t.Run(what, func(t *testing.T) {
			for _, s := range append([]int{0, 1, 2, 3, 4}, noScopes...) {
				checkNoLookup(t, g, s, "x")
				checkNoLookup(t, g, s, "m")
				checkNoLookup(t, g, s, "")
				if list, ok := impl.ImportedScopes(g, s); ok || len(list) != 0 {
					t.Errorf("ImportedScopes = %v, %v", list, ok)
				}
				for _, i := range []int{0, 1, 5, -1} {
					if target := impl.ImportTarget(g, impl.Place{Scope: s, Index: i}); target != -1 {
						t.Errorf("ImportTarget(%d.%d) = %d", s, i, target)
					}
				}
			}
			if list, ok := impl.ImportCircles(g); ok || len(list) != 0 {
				t.Errorf("ImportCircles = %v, %v", list, ok)
			}
		})
	}
	// The import would be one of a module if the graph were valid.
	for _, g := range []impl.Graph{graph(scope(-1, module("m", 1), imports("m")), scope(1)), graph(scope(-1, module("m", 1), imports("m"), refers("X")), scope(0))} {
		if target := impl.ImportTarget(g, impl.Place{Index: 1}); target != -1 {
			t.Errorf("ImportTarget(%v) = %d", g, target)
		}
	}
}

// modelNames are the names of which each model knows.
const modelNames = "mnx"

// namesFor returns the names of which the model of a graph knows: those of each model, and what other ones the graph has.
func namesFor(g impl.Graph) string {
	names := modelNames
	for _, scope := range g.Scopes {
		for _, x := range scope.Items {
			if !strings.Contains(names, x.Name) {
				names += x.Name
			}
		}
	}
	return names
}

// A modelScope is what a model knows of a scope: for each item what it would bring in, and for each name what is declared and found.
type modelScope struct {
	targets  []int
	imports  []int
	declared map[string][]impl.Place
	found    map[string][]impl.Place
	answers  map[string]lookupAnswer
}

// A lookupModel answers for a whole graph at once, from the first scope on, since what is around a scope has lower numbers.
type lookupModel []*modelScope

// modelOf goes through the scopes in ascending order, after all declarations.
func modelOf(g impl.Graph) lookupModel {
	var m lookupModel
	for s, scope := range g.Scopes {
		here := &modelScope{declared: map[string][]impl.Place{}, found: map[string][]impl.Place{}, answers: map[string]lookupAnswer{}}
		for i, x := range scope.Items {
			if x.Kind == impl.ItemDeclares {
				here.declared[x.Name] = append(here.declared[x.Name], impl.Place{Scope: s, Index: i})
			}
		}
		m = append(m, here)
	}
	names := namesFor(g)
	for s, scope := range g.Scopes {
		around := &modelScope{}
		if s > 0 {
			around = m[scope.Parent]
		}
		m[s].resolve(g, scope.Items, around)
		for _, letter := range names {
			m.answer(s, string(letter), around)
		}
	}
	return m
}

// resolve enters what the items of a scope bring in.
func (here *modelScope) resolve(g impl.Graph, items []impl.Item, around *modelScope) {
	for _, x := range items {
		means := here.declared[x.Name]
		if means == nil {
			means = around.found[x.Name]
		}
		target := -1
		if x.Kind == impl.ItemImports && len(means) == 1 {
			target = g.Scopes[means[0].Scope].Items[means[0].Index].Scope
		}
		here.targets = append(here.targets, target)
		if target >= 0 && !slices.Contains(here.imports, target) {
			here.imports = append(here.imports, target)
		}
	}
}

// answer enters what is found for a name from a scope.
func (m lookupModel) answer(s int, name string, around *modelScope) {
	here := m[s]
	own := here.declared[name]
	var imported []impl.Place
	for _, r := range here.imports {
		imported = append(imported, m[r].declared[name]...)
	}
	answer := lookupAnswer{at: -1}
	switch {
	case own != nil:
		here.found[name], answer.at, answer.way = own, s, impl.WayOwn
	case imported != nil:
		here.found[name], answer.at, answer.way = imported, s, impl.WayImported
	case around.found[name] != nil:
		here.found[name], answer.at, answer.way = around.found[name], around.answers[name].at, around.answers[name].way
	}
	answer.own, answer.imported, answer.found = impl.FormatPlaces(own), impl.FormatPlaces(imported), impl.FormatPlaces(here.found[name])
	here.answers[name] = answer
}

// circles joins each two ways of importing, over each scope between them.
func (m lookupModel) circles() []int {
	var gets [impl.MaxScopes][impl.MaxScopes]bool
	for s, here := range m {
		for _, r := range here.imports {
			gets[s][r] = true
		}
	}
	for by := range gets {
		for s := range gets {
			for r := range gets {
				gets[s][r] = gets[s][r] || gets[s][by] && gets[by][r]
			}
		}
	}
	var list []int
	for s := range gets {
		if gets[s][s] {
			list = append(list, s)
		}
	}
	return list
}

// checkModel compares all functions of the chapter with the model of a graph.
func checkModel(t *testing.T, g impl.Graph, m lookupModel) {
	t.Helper()
	for s, here := range m {
		checkImports(t, g, s, here.imports)
		for i, want := range here.targets {
			checkTarget(t, g, impl.Place{Scope: s, Index: i}, want)
		}
		for name, want := range here.answers {
			checkLookup(t, g, s, name, want)
		}
	}
	checkCircles(t, g, m.circles())
	// One graph is enough to tell what is wrong.
	if t.Failed() {
		t.FailNow()
	}
}

// itemLists returns all lists of at most some number of the items.
func itemLists(items []impl.Item, most int) [][]impl.Item {
	lists := [][]impl.Item{nil}
	for from := 0; most > 0; most-- {
		end := len(lists)
		for _, list := range lists[from:end] {
			for _, x := range items {
				lists = append(lists, append(slices.Clone(list), x))
			}
		}
		from = end
	}
	return lists
}

// TestAllSmallLookups goes through two modules m and n, beside each other or one in the other, with all lists of at most two of four items ahead of them in each scope.
func TestAllSmallLookups(t *testing.T) {
	t.Parallel()
	items := []impl.Item{declares("m"), declares("x"), imports("m"), imports("n")}
	lists := itemLists(items, 2)
	for _, parent := range []int{0, 1} {
		for _, first := range lists {
			for _, second := range lists {
				for _, third := range lists {
					scopes := []impl.Scope{scope(-1, first...), scope(0, second...), scope(parent, third...)}
					scopes[0].Items = append(slices.Clone(first), module("m", 1))
					scopes[parent].Items = append(slices.Clone(scopes[parent].Items), module("n", 2))
					g := graph(scopes...)
					checkModel(t, g, modelOf(g))
				}
			}
		}
	}
}

// A graphMaker makes graphs by a rule that looks like chance, and is the same each time.
type graphMaker struct{ state uint64 }

// below returns the next number from 0 to one below a limit.
func (m *graphMaker) below(limit int) int {
	m.state = m.state*6364136223846793005 + 1442695040888963407
	return int(m.state >> 33 % uint64(limit))
}

// graph makes a graph of some number of scopes with full lists of items, in which about half of all scopes are of modules.
func (m *graphMaker) graph(size int) impl.Graph {
	g := impl.Graph{Scopes: []impl.Scope{{Parent: -1}}}
	for s := 1; s < size; s++ {
		g.Scopes = append(g.Scopes, impl.Scope{Parent: m.below(s)})
		if parent := &g.Scopes[g.Scopes[s].Parent]; m.below(4) > 0 && len(parent.Items) < impl.MaxItems {
			parent.Items = append(parent.Items, module(m.name(), s))
		}
	}
	for s := range g.Scopes {
		list := &g.Scopes[s].Items
		for len(*list) < impl.MaxItems && m.below(6) > 0 {
			x := [...]impl.Item{declares("x"), declares(m.name()), refers(m.name()), imports(m.name()), imports(m.name()), imports(m.name())}[m.below(6)]
			*list = slices.Insert(*list, m.below(len(*list)+1), x)
		}
	}
	return g
}

// name makes one of the names of which a model knows.
func (m *graphMaker) name() string { return string(modelNames[m.below(len(modelNames))]) }

// TestManyLookups goes through graphs of all sizes, and counts what they show, so that the test is known to see it.
func TestManyLookups(t *testing.T) {
	t.Parallel()
	m := &graphMaker{}
	ways := map[int]int{}
	imported, circles := 0, 0
	for i := range 12000 {
		g := m.graph(1 + i%impl.MaxScopes)
		if !impl.GraphValid(g) {
			t.Fatalf("%v is not valid", g)
		}
		model := modelOf(g)
		checkModel(t, g, model)
		for _, here := range model {
			imported += len(here.imports)
			for _, want := range here.answers {
				ways[want.way]++
			}
		}
		circles += len(model.circles())
	}
	if ways[impl.WayNone] < 4000 || ways[impl.WayOwn] < 4000 || ways[impl.WayImported] < 4000 || imported < 4000 || circles < 1000 {
		t.Errorf("ways %v, imported scopes %d, circles %d", ways, imported, circles)
	}
}

// TestLookupsStay checks that no function of lookups changes a graph, or the memory behind its scopes and items.
func TestLookupsStay(t *testing.T) {
	build := func() ([]impl.Item, []impl.Scope) {
		items := []impl.Item{module("m", 1), declares("x"), imports("m"), refers("spare")}
		return items, []impl.Scope{{Parent: -1, Items: items[:3]}, {Parent: 0, Items: []impl.Item{declares("y"), imports("m")}}, {Parent: 7}}
	}
	items, scopes := build()
	g := impl.Graph{Scopes: scopes[:2]}
	for s := -1; s < 3; s++ {
		for _, name := range []string{"m", "x", "y", ""} {
			impl.OwnOf(g, s, name)
			impl.ImportedOf(g, s, name)
			impl.LookUp(g, s, name)
			impl.LookUpWay(g, s, name)
		}
		impl.ImportedScopes(g, s)
		impl.ImportTarget(g, impl.Place{Scope: s, Index: 2})
	}
	impl.ImportCircles(g)
	if wantItems, wantScopes := build(); !reflect.DeepEqual(items, wantItems) || !reflect.DeepEqual(scopes, wantScopes) {
		t.Errorf("items became %v, scopes %v", items, scopes)
	}
}

// TestLookupListsAreNew checks that lists share no memory, their unused capacity included.
func TestLookupListsAreNew(t *testing.T) {
	g := parse(t, "-,m=1,n=2,x,x;0,x,x,!m,!n;0,x,!n,!m")
	numbers := map[string]func() []int{
		"ImportedScopes": func() []int { list, _ := impl.ImportedScopes(g, 1); return list },
		"ImportCircles":  func() []int { list, _ := impl.ImportCircles(g); return list },
	}
	for what, f := range numbers {
		checkNew(t, what, f, 9)
	}
	places := map[string]func() []impl.Place{
		"OwnOf":      func() []impl.Place { list, _ := impl.OwnOf(g, 1, "x"); return list },
		"ImportedOf": func() []impl.Place { list, _ := impl.ImportedOf(g, 2, "x"); return list },
		"LookUp":     func() []impl.Place { list, _ := impl.LookUp(g, 0, "x"); return list },
	}
	for what, f := range places {
		checkNew(t, what, f, impl.Place{Scope: 9, Index: 9})
	}
}

// checkNew writes over one list that a function returns, and compares others before and after that.
func checkNew[E comparable](t *testing.T, what string, f func() []E, other E) {
	t.Helper()
	first, second := f(), f()
	want := slices.Clone(second)
	if len(want) < 2 {
		t.Errorf("%s = %v, which is too short to tell", what, want)
	}
	for i := range first[:cap(first)] {
		first[:cap(first)][i] = other
	}
	if third := f(); !slices.Equal(second, want) || !slices.Equal(third, want) {
		t.Errorf("%s = %v and %v, want %v", what, second, third, want)
	}
}

func TestWays(t *testing.T) {
	if impl.WayNone != 0 || impl.WayOwn != 1 || impl.WayImported != 2 {
		t.Error("a way has another number")
	}
}
