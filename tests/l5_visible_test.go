package tests

import (
	"math"
	"reflect"
	"slices"
	"strings"
	"sync"
	"testing"

	"loop.example/scopegraphs/impl"
)

// alphabet holds all names in ascending order.
const alphabet = "abcdefghijklmnopqrstuvwxyz"

// A visibleAnswer is what the functions of chapter 5 must return for a scope, with places as texts; the free names are all but the visible ones.
type visibleAnswer struct {
	visible, clashes, seen, hidden string
}

// without returns the letters of the alphabet that are not among some names.
func without(names string) string {
	free := alphabet
	for _, name := range names {
		free = strings.ReplaceAll(free, string(name), "")
	}
	return free
}

// checkVisible compares all functions of scopes.
func checkVisible(t *testing.T, g impl.Graph, s int, want visibleAnswer) {
	t.Helper()
	texts := []struct {
		what string
		f    func(impl.Graph, int) (string, bool)
		want string
	}{{"VisibleNames", impl.VisibleNames, want.visible}, {"ClashesOf", impl.ClashesOf, want.clashes}, {"FreeNames", impl.FreeNames, without(want.visible)}}
	for _, c := range texts {
		if names, ok := c.f(g, s); !ok || names != c.want {
			t.Errorf("%s(%q, %d) = %q, %v, want %q", c.what, impl.FormatGraph(g), s, names, ok, c.want)
		}
	}
	lists := []struct {
		what string
		f    func(impl.Graph, int) ([]impl.Place, bool)
		want string
	}{{"SeenFrom", impl.SeenFrom, want.seen}, {"HiddenFrom", impl.HiddenFrom, want.hidden}}
	for _, c := range lists {
		if list, ok := c.f(g, s); !ok || impl.FormatPlaces(list) != c.want {
			t.Errorf("%s(%q, %d) = %v, %v, want %s", c.what, impl.FormatGraph(g), s, list, ok, c.want)
		}
	}
}

// checkNothingVisible checks that all functions of scopes refuse one, which is not the same as to see nothing.
func checkNothingVisible(t *testing.T, g impl.Graph, s int) {
	t.Helper()
	for what, f := range map[string]func(impl.Graph, int) (string, bool){"VisibleNames": impl.VisibleNames, "ClashesOf": impl.ClashesOf, "FreeNames": impl.FreeNames} {
		if names, ok := f(g, s); ok || names != "" {
			t.Errorf("%s(%v, %d) = %q, %v", what, g, s, names, ok)
		}
	}
	for what, f := range map[string]func(impl.Graph, int) ([]impl.Place, bool){"SeenFrom": impl.SeenFrom, "HiddenFrom": impl.HiddenFrom} {
		if list, ok := f(g, s); ok || len(list) != 0 {
			t.Errorf("%s(%v, %d) = %v, %v", what, g, s, list, ok)
		}
	}
}

// checkDeclaration compares what a declaration hides, and from which scopes it is seen alone.
func checkDeclaration(t *testing.T, g impl.Graph, p impl.Place, hides string, sees []int) {
	t.Helper()
	if list, ok := impl.HidesOf(g, p); !ok || impl.FormatPlaces(list) != hides {
		t.Errorf("HidesOf(%q, %v) = %v, %v, want %s", impl.FormatGraph(g), p, list, ok, hides)
	}
	if list, ok := impl.SeesWhere(g, p); !ok || !slices.Equal(list, sees) {
		t.Errorf("SeesWhere(%q, %v) = %v, %v, want %v", impl.FormatGraph(g), p, list, ok, sees)
	}
}

// checkNoDeclaration checks that all functions of declarations refuse a place.
func checkNoDeclaration(t *testing.T, g impl.Graph, p impl.Place) {
	t.Helper()
	if list, ok := impl.HidesOf(g, p); ok || len(list) != 0 {
		t.Errorf("HidesOf(%v, %v) = %v, %v", g, p, list, ok)
	}
	if list, ok := impl.SeesWhere(g, p); ok || len(list) != 0 {
		t.Errorf("SeesWhere(%v, %v) = %v, %v", g, p, list, ok)
	}
}

func TestVisibleFromScopes(t *testing.T) {
	cases := []struct {
		why, text string
		s         int
		want      visibleAnswer
	}{
		{"the example of the document", "-,x,y;0,x", 1, visibleAnswer{"xy", "", "0.1 1.0", "0.0"}},
		{"the graph of the script in the document", "-,x,m=1,?x;0,y,x;0,!m,?y,?x", 2, visibleAnswer{"mxy", "", "0.1 1.0 1.1", "0.0"}},
		{"a scope that sees nothing", "-", 0, visibleAnswer{"", "", "-", "-"}},
		{"scopes around that see nothing either", "-;0;1;2", 3, visibleAnswer{"", "", "-", "-"}},
		{"nothing from within or beside", "-;0,x;0;2,y", 2, visibleAnswer{"", "", "-", "-"}},
		{"references and imports are not seen", "-,?x,!y;0,?z", 1, visibleAnswer{"", "", "-", "-"}},
		{"an import of itself sees nothing", "-;0,!m,m", 0, visibleAnswer{"", "", "-", "-"}},
		{"its own ones", "-,x,m=1;0", 0, visibleAnswer{"mx", "", "0.0 0.1", "-"}},
		{"names in ascending order, places in theirs", "-,z,a;0,y,b;1,m", 2, visibleAnswer{"abmyz", "", "0.0 0.1 1.0 1.1 2.0", "-"}},
		{"a name twice is seen twice", "-,x,x,y;0", 1, visibleAnswer{"xy", "x", "0.0 0.1 0.2", "-"}},
		{"a name five times", "-,x,x,x,x,x", 0, visibleAnswer{"x", "x", "0.0 0.1 0.2 0.3 0.4", "-"}},
		{"one hides two", "-,x,x;0,x", 1, visibleAnswer{"x", "", "1.0", "0.0 0.1"}},
		{"two hide one", "-,x;0,x,x", 1, visibleAnswer{"x", "x", "1.0 1.1", "0.0"}},
		{"two names clash", "-,y,x,y,x,a", 0, visibleAnswer{"axy", "xy", "0.0 0.1 0.2 0.3 0.4", "-"}},
		{"a module and a plain one clash", "-,m,m=1;0", 1, visibleAnswer{"m", "m", "0.0 0.1", "-"}},
		{"a module hides a plain one", "-,m;0,m=2;1", 2, visibleAnswer{"m", "", "1.0", "0.0"}},
		{"one hides those of two scopes", "-,x;0,y,x;1,x", 2, visibleAnswer{"xy", "", "1.0 2.0", "0.0 1.1"}},
		{"hidden further in does not count", "-,x;0,x;1,x", 0, visibleAnswer{"x", "", "0.0", "-"}},
		{"nor what is hidden beside", "-,x;0,x;0", 2, visibleAnswer{"x", "", "0.0", "-"}},
		{"a reference hides nothing", "-,x;0,?x", 1, visibleAnswer{"x", "", "0.0", "-"}},
		{"an import alone hides nothing", "-,x;0,!x", 1, visibleAnswer{"x", "", "0.0", "-"}},
		{"an imported one hides the one around", "-,x,m=1;0,x;0,!m", 2, visibleAnswer{"mx", "", "0.1 1.0", "0.0"}},
		{"an imported one hides two around", "-,x,x,m=1;0,x;0,!m", 2, visibleAnswer{"mx", "", "0.2 1.0", "0.0 0.1"}},
		{"two imported ones hide one around", "-,x,m=1;0,x,x;0,!m", 2, visibleAnswer{"mx", "x", "0.1 1.0 1.1", "0.0"}},
		{"an imported one that is not around is not hidden", "-,m=1;0,x;0,!m,x", 2, visibleAnswer{"mx", "", "0.0 2.1", "-"}},
		{"two scopes are imported, seen in the order of places", "-,m=1,n=2;0,x;0,x;0,!n,!m", 3, visibleAnswer{"mnx", "x", "0.0 0.1 1.0 2.0", "-"}},
		{"one scope is imported twice", "-,m=1;0,x;0,!m,!m", 2, visibleAnswer{"mx", "", "0.0 1.0", "-"}},
		{"not what an imported scope imports", "-,m=1,n=2;0,x;0,!m;0,!n", 3, visibleAnswer{"mn", "", "0.0 0.1", "-"}},
		{"not what is around or within an imported scope", "-,m=1;0,n=2,!n,y;1,x;0,!m", 3, visibleAnswer{"mny", "", "0.0 1.0 1.2", "-"}},
		{"imported around hides further out", "-,x,m=1;0,x;0,!m;2", 3, visibleAnswer{"mx", "", "0.1 1.0", "0.0"}},
		{"an own one hides what is imported around", "-,m=1,!m;0,x;0,x", 2, visibleAnswer{"mx", "", "0.0 2.0", "-"}},
		{"a scope around that is imported hides what is between", "-,m=1;0,x;1,x;2,!m", 3, visibleAnswer{"mx", "", "0.0 1.0", "2.0"}},
		{"an import of two modules hides nothing", "-,x,m=1,m=2;0,x;0,x;0,!m", 3, visibleAnswer{"mx", "m", "0.0 0.1 0.2", "-"}},
		{"an imported module hides that by which it is imported", "-,m=1;0,m=2;1;0,!m", 3, visibleAnswer{"m", "", "1.0", "0.0"}},
		{"a module that imports itself", "-,m=1,y;0,!m,y,y", 1, visibleAnswer{"my", "y", "0.0 1.1 1.2", "0.1"}},
		{"a module within itself", "-,m=1,x;0,m=2,!m;1,x", 1, visibleAnswer{"mx", "", "1.0 2.0", "0.0 0.1"}},
		{"all letters", "-,a,b,c,d,e;0,f,g,h,i,j;1,k,l,m,n,o;2,p,q,r,s,t;3,u,v,w,x,y;4,z", 5, visibleAnswer{alphabet, "", "0.0 0.1 0.2 0.3 0.4 1.0 1.1 1.2 1.3 1.4 2.0 2.1 2.2 2.3 2.4 3.0 3.1 3.2 3.3 3.4 4.0 4.1 4.2 4.3 4.4 5.0", "-"}},
		{"all letters backwards, some again", "-,a,z,y,x,w;0,v,u,t,s,r;1,q,p,o,n,m;2,l,k,j,i,h;3,g,f,e,d,c;4,b,a,z,z", 5, visibleAnswer{alphabet, "z", "0.2 0.3 0.4 1.0 1.1 1.2 1.3 1.4 2.0 2.1 2.2 2.3 2.4 3.0 3.1 3.2 3.3 3.4 4.0 4.1 4.2 4.3 4.4 5.0 5.1 5.2 5.3", "0.0 0.1"}},
		{"full scopes that hide each other", "-,x,x,x,x,x;0,x,x,x,x,x;1,x,x,x,x,x;2,x,x,x,x,x;3,x,x,x,x,x;4,x,x,x,x,x", 5, visibleAnswer{"x", "x", "5.0 5.1 5.2 5.3 5.4", "0.0 0.1 0.2 0.3 0.4 1.0 1.1 1.2 1.3 1.4 2.0 2.1 2.2 2.3 2.4 3.0 3.1 3.2 3.3 3.4 4.0 4.1 4.2 4.3 4.4"}},
	}
	for _, c := range cases {
		t.Run(c.why, func(t *testing.T) { checkVisible(t, parse(t, c.text), c.s, c.want) })
	}
}

func TestHidesAndSees(t *testing.T) {
	at := func(s, i int) impl.Place { return impl.Place{Scope: s, Index: i} }
	cases := []struct {
		why, text string
		p         impl.Place
		hides     string
		sees      []int
	}{
		{"the example of the document", "-,x,y;0,x", at(1, 0), "0.0", []int{1}},
		{"it is hidden from within", "-,x,y;0,x", at(0, 0), "-", []int{0}},
		{"the script of the document hides", "-,x,m=1,?x;0,y,x;0,!m,?y,?x", at(1, 1), "0.0", []int{1, 2}},
		{"the script of the document sees", "-,x,m=1,?x;0,y,x;0,!m,?y,?x", at(0, 0), "-", []int{0}},
		{"one declaration", "-,x", at(0, 0), "-", []int{0}},
		{"it is seen from all scopes", "-,x;0;1;0;3;4", at(0, 0), "-", []int{0, 1, 2, 3, 4, 5}},
		{"not from around or beside", "-;0,x;1;0", at(1, 0), "-", []int{1, 2}},
		{"in the order of scopes", "-,m=4;0;1;0,!m;0,x", at(4, 0), "-", []int{3, 4}},
		{"one of two is not seen alone", "-,x,x;0", at(0, 1), "-", nil},
		{"two hide the same", "-,x;0,x,x", at(1, 1), "0.0", nil},
		{"one hides two", "-,x,?x,x;0,x", at(1, 0), "0.0 0.2", []int{1}},
		{"only the nearest ones are hidden", "-,x,x;0,x;1,x;2", at(2, 0), "1.0", []int{2, 3}},
		{"over a scope without the name", "-,x;0,y;1,x", at(2, 0), "0.0", []int{2}},
		{"other names are not hidden", "-,y,?x;0,x", at(1, 0), "-", []int{1}},
		{"a module hides a plain one", "-,m;0,m=2;1", at(1, 0), "0.0", []int{1, 2}},
		{"a plain one hides a module", "-,m=1;0;0,m", at(2, 0), "0.0", []int{2}},
		{"an imported one is hidden", "-,m=1;0,x;0,!m,x", at(2, 1), "1.0", []int{2}},
		{"an imported one ahead of that around", "-,x,m=1;0,x;0,!m,x", at(2, 1), "1.0", []int{2}},
		{"those of all imported scopes, in the order of imports", "-,x,m=1,n=2;0,x;0,x,x;0,!n,!m,x", at(3, 2), "2.0 2.1 1.0", []int{3}},
		{"an imported one is seen alone", "-,x,m=1;0,x;0,!m", at(1, 0), "0.0", []int{1, 2}},
		{"the one around is hidden by an imported one", "-,x,m=1;0,x;0,!m;2", at(0, 0), "-", []int{0}},
		{"two imported ones are not seen alone", "-,m=1,n=2;0,x;0,x;0,!m,!n", at(1, 0), "-", []int{1}},
		{"imported and not hidden two scopes within", "-,m=1;0,x;0,!m;2;3;4,x", at(1, 0), "-", []int{1, 2, 3, 4}},
		{"an imported one of the scope around", "-,m=1,!m;0,x;0,x", at(2, 0), "1.0", []int{2}},
		{"no imported one of that name", "-,x,m=1;0,y;0,!m,x", at(2, 1), "0.0", []int{2}},
		{"a module by which is imported is hidden by what is", "-,m=1;0,m=2;1;0,!m", at(0, 0), "-", []int{0}},
		{"in the first scope an imported one is hidden", "-,x,m=1,!m;0,x", at(0, 0), "1.0", []int{0}},
		{"in the first scope nothing else is", "-,x;0,x", at(0, 0), "-", []int{0}},
		{"behind itself if the module imports itself", "-,m=1,x;0,!m,x", at(1, 1), "1.1", []int{1}},
		{"behind both of the module that imports itself", "-,m=1,x;0,!m,x,x", at(1, 2), "1.1 1.2", nil},
		{"behind itself if the scope around imports it", "-,m=1,!m;0,x", at(1, 0), "1.0", []int{0, 1}},
		{"not behind itself if that has its own one", "-,m=1,x,!m;0,x", at(1, 0), "0.1", []int{1}},
		{"modules in each other of one name", "-,m=1;0,m=2;1,m=3;2,m=4;3,m=5;4,m", at(4, 0), "3.0", []int{4}},
		{"the last one of all", "-;0;0;0;0;0,a,b,c,d,x", at(5, 4), "-", []int{5}},
	}
	for _, c := range cases {
		t.Run(c.why, func(t *testing.T) { checkDeclaration(t, parse(t, c.text), c.p, c.hides, c.sees) })
	}
}

// TestEveryLetter declares each letter alone around a scope, and again in it.
func TestEveryLetter(t *testing.T) {
	for _, letter := range alphabet {
		name := string(letter)
		g := graph(scope(-1, declares(name)), scope(0, declares(name), declares(name)))
		checkVisible(t, g, 0, visibleAnswer{name, "", "0.0", "-"})
		checkVisible(t, g, 1, visibleAnswer{name, name, "1.0 1.1", "0.0"})
		checkDeclaration(t, g, impl.Place{}, "-", []int{0})
		checkDeclaration(t, g, impl.Place{Scope: 1, Index: 1}, "0.0", nil)
	}
}

func TestNothingVisible(t *testing.T) {
	for _, c := range validGraphs {
		for _, s := range append([]int{len(c.graph.Scopes)}, noScopes...) {
			if s < 0 || s >= len(c.graph.Scopes) {
				checkNothingVisible(t, c.graph, s)
				checkNoDeclaration(t, c.graph, impl.Place{Scope: s})
			}
		}
		for s, scope := range c.graph.Scopes {
			for i, x := range scope.Items {
				if x.Kind != impl.ItemDeclares {
					checkNoDeclaration(t, c.graph, impl.Place{Scope: s, Index: i})
				}
			}
			for _, i := range []int{-1, -2, len(scope.Items), impl.MaxItems, math.MaxInt, math.MinInt} {
				checkNoDeclaration(t, c.graph, impl.Place{Scope: s, Index: i})
			}
		}
	}
}

func TestVisibleInInvalidGraphs(t *testing.T) {
	for what, g := range invalidGraphs {
		t.Run(what, func(t *testing.T) {
			for s := -1; s <= impl.MaxScopes+1; s++ {
				checkNothingVisible(t, g, s)
				for i := -1; i <= impl.MaxItems+1; i++ {
					checkNoDeclaration(t, g, impl.Place{Scope: s, Index: i})
				}
			}
		})
	}
}

// visible tells what is visible from a scope; chain holds this one and those around it.
func (m lookupModel) visible(g impl.Graph, s int) visibleAnswer {
	chain := map[int]bool{}
	for around := s; around >= 0; around = g.Scopes[around].Parent {
		chain[around] = true
	}
	var a visibleAnswer
	for _, letter := range modelNames {
		found := m[s].found[string(letter)]
		if len(found) > 0 {
			a.visible += string(letter)
		}
		if len(found) > 1 {
			a.clashes += string(letter)
		}
	}
	var seen, hidden []impl.Place
	for at, scope := range g.Scopes {
		for i, x := range scope.Items {
			p := impl.Place{Scope: at, Index: i}
			switch {
			case x.Kind != impl.ItemDeclares:
			case slices.Contains(m[s].found[x.Name], p):
				seen = append(seen, p)
			case chain[at]:
				hidden = append(hidden, p)
			}
		}
	}
	a.seen, a.hidden = impl.FormatPlaces(seen), impl.FormatPlaces(hidden)
	return a
}

// hides tells what comes behind the declarations of a name in a scope.
func (m lookupModel) hides(g impl.Graph, s int, name string) string {
	imported := m[s].answers[name].imported
	switch {
	case imported != "-":
		return imported
	case s == 0:
		return "-"
	}
	return impl.FormatPlaces(m[g.Scopes[s].Parent].found[name])
}

// sees tells from which scopes just one declaration is found.
func (m lookupModel) sees(name string, p impl.Place) []int {
	var list []int
	for s, here := range m {
		if slices.Equal(here.found[name], []impl.Place{p}) {
			list = append(list, s)
		}
	}
	return list
}

// checkVisibleModel compares all functions of the chapter with the model of a graph, and counts what they show.
func checkVisibleModel(t *testing.T, g impl.Graph, m lookupModel, counts map[string]int) {
	t.Helper()
	count := func(what string, is bool) {
		if is {
			counts[what]++
		}
	}
	for s, scope := range g.Scopes {
		want := m.visible(g, s)
		checkVisible(t, g, s, want)
		count("see nothing", want.visible == "")
		count("clash", want.clashes != "")
		count("hide", want.hidden != "-")
		for i, x := range scope.Items {
			p := impl.Place{Scope: s, Index: i}
			if x.Kind != impl.ItemDeclares {
				checkNoDeclaration(t, g, p)
				continue
			}
			hides, sees := m.hides(g, s, x.Name), m.sees(x.Name, p)
			checkDeclaration(t, g, p, hides, sees)
			count("hide nothing", hides == "-")
			count("hide several", strings.Contains(hides, " "))
			count("hide themselves", slices.Contains(strings.Fields(hides), impl.FormatPlaces([]impl.Place{p})))
			count("are seen alone nowhere", len(sees) == 0)
			count("are seen alone elsewhere", len(sees) > 0 && sees[0] < s)
		}
	}
	// One graph is enough to tell what is wrong.
	if t.Failed() {
		t.FailNow()
	}
}

// checkCounts checks that a test has seen enough of each thing.
func checkCounts(t *testing.T, counts map[string]int) {
	t.Helper()
	for _, what := range []string{"see nothing", "clash", "hide", "hide nothing", "hide several", "hide themselves", "are seen alone nowhere", "are seen alone elsewhere"} {
		if counts[what] < 100 {
			t.Errorf("only %d %s", counts[what], what)
		}
	}
}

// TestAllSmallVisible goes through a module m beside a scope, with all lists of at most two of four items ahead of it and in each of these scopes.
func TestAllSmallVisible(t *testing.T) {
	lists := itemLists([]impl.Item{declares("m"), declares("x"), refers("x"), imports("m")}, 2)
	for _, first := range lists {
		for _, second := range lists {
			for _, third := range lists {
				g := graph(scope(-1, append(slices.Clone(first), module("m", 1))...), scope(0, second...), scope(0, third...))
				checkVisibleModel(t, g, modelOf(g), map[string]int{})
			}
		}
	}
}

// TestManyVisible goes through graphs of all sizes.
func TestManyVisible(t *testing.T) {
	t.Parallel()
	maker := &graphMaker{}
	counts := map[string]int{}
	for i := range 6000 {
		g := maker.graph(1 + i%impl.MaxScopes)
		checkVisibleModel(t, g, modelOf(g), counts)
	}
	checkCounts(t, counts)
}

// TestSeenOrHidden checks the promise by itself: each declaration in a scope or around it is either seen from there or hidden, and what is seen elsewhere is of a scope that is imported.
func TestSeenOrHidden(t *testing.T) {
	maker := &graphMaker{}
	for i := range 1500 {
		g := maker.graph(1 + i%impl.MaxScopes)
		declared, _ := impl.PlacesOf(g, impl.ItemDeclares)
		for s := range g.Scopes {
			chain, _ := impl.ChainOf(g, s)
			seen, _ := impl.SeenFrom(g, s)
			hidden, _ := impl.HiddenFrom(g, s)
			var imported []int
			for _, around := range chain {
				more, _ := impl.ImportedScopes(g, around)
				imported = append(imported, more...)
			}
			for _, p := range declared {
				isSeen, isHidden, isAround := slices.Contains(seen, p), slices.Contains(hidden, p), slices.Contains(chain, p.Scope)
				if isSeen && isHidden || isAround != (isSeen || isHidden) && !(isSeen && slices.Contains(imported, p.Scope)) {
					t.Fatalf("in %q, %v from %d: seen %v, hidden %v, around %v", impl.FormatGraph(g), p, s, isSeen, isHidden, isAround)
				}
			}
		}
	}
}

// TestSeesAtOnce calls a function that has goroutines of its own from several ones with one graph.
func TestSeesAtOnce(t *testing.T) {
	g := parse(t, "-,x,m=1;0,x;0,!m;2;3,x;4")
	var wait sync.WaitGroup
	for range 8 {
		wait.Go(func() {
			for range 200 {
				if list, ok := impl.SeesWhere(g, impl.Place{Scope: 1}); !ok || !slices.Equal(list, []int{1, 2, 3}) {
					t.Errorf("SeesWhere = %v, %v", list, ok)
				}
			}
		})
	}
	wait.Wait()
}

// TestVisibleStays checks that no function of the chapter changes a graph, or the memory behind its scopes and items.
func TestVisibleStays(t *testing.T) {
	build := func() ([]impl.Item, []impl.Scope) {
		items := []impl.Item{module("m", 1), declares("x"), imports("m"), refers("spare")}
		return items, []impl.Scope{{Parent: -1, Items: items[:3]}, {Parent: 0, Items: []impl.Item{declares("y"), declares("x")}}, {Parent: 7}}
	}
	items, scopes := build()
	g := impl.Graph{Scopes: scopes[:2]}
	for s := -1; s < 3; s++ {
		impl.VisibleNames(g, s)
		impl.FreeNames(g, s)
		impl.ClashesOf(g, s)
		impl.SeenFrom(g, s)
		impl.HiddenFrom(g, s)
		for i := -1; i < 4; i++ {
			impl.HidesOf(g, impl.Place{Scope: s, Index: i})
			impl.SeesWhere(g, impl.Place{Scope: s, Index: i})
		}
	}
	if wantItems, wantScopes := build(); !reflect.DeepEqual(items, wantItems) || !reflect.DeepEqual(scopes, wantScopes) {
		t.Errorf("items became %v, scopes %v", items, scopes)
	}
}

// TestVisibleListsAreNew checks that lists share no memory, their unused capacity included.
func TestVisibleListsAreNew(t *testing.T) {
	g := parse(t, "-,m=1,x,x;0,x,x,y;0,x,y;0,!m,x")
	places := map[string]func() []impl.Place{
		"SeenFrom":             func() []impl.Place { list, _ := impl.SeenFrom(g, 1); return list },
		"HiddenFrom":           func() []impl.Place { list, _ := impl.HiddenFrom(g, 2); return list },
		"HidesOf around":       func() []impl.Place { list, _ := impl.HidesOf(g, impl.Place{Scope: 2}); return list },
		"HidesOf what imports": func() []impl.Place { list, _ := impl.HidesOf(g, impl.Place{Scope: 3, Index: 1}); return list },
	}
	for what, f := range places {
		checkNew(t, what, f, impl.Place{Scope: 9, Index: 9})
	}
	checkNew(t, "SeesWhere", func() []int { list, _ := impl.SeesWhere(g, impl.Place{}); return list }, 9)
}
