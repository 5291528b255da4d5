package tests

import (
	"math"
	"reflect"
	"slices"
	"strings"
	"testing"

	"loop.example/scopegraphs/impl"
)

// place reads a place of a table of cases.
func place(t *testing.T, text string) impl.Place {
	t.Helper()
	p, ok := impl.ParsePlace(text)
	if !ok {
		t.Fatalf("ParsePlace(%q) fails", text)
	}
	return p
}

// placeText writes one place.
func placeText(p impl.Place) string { return impl.FormatPlaces([]impl.Place{p}) }

// checkUsers compares the items that mean a declaration alone.
func checkUsers(t *testing.T, g impl.Graph, p impl.Place, want string) {
	t.Helper()
	if list, ok := impl.UsersOf(g, p); !ok || impl.FormatPlaces(list) != want {
		t.Errorf("UsersOf(%q, %v) = %v, %v, want %s", impl.FormatGraph(g), p, list, ok, want)
	}
}

// checkUnused compares the declarations that no item means.
func checkUnused(t *testing.T, g impl.Graph, want string) {
	t.Helper()
	if list, ok := impl.UnusedOf(g); !ok || impl.FormatPlaces(list) != want {
		t.Errorf("UnusedOf(%q) = %v, %v, want %s", impl.FormatGraph(g), list, ok, want)
	}
}

// checkRemoved compares the graph without an item.
func checkRemoved(t *testing.T, g impl.Graph, p impl.Place, want string) {
	t.Helper()
	if h, ok := impl.RemoveItem(g, p); !ok || impl.FormatGraph(h) != want {
		t.Errorf("RemoveItem(%q, %v) = %v, %v, want %q", impl.FormatGraph(g), p, h, ok, want)
	}
}

// checkChanged compares the items that mean something else without one, and whether this can be removed.
func checkChanged(t *testing.T, g impl.Graph, p impl.Place, want string) {
	t.Helper()
	if list, ok := impl.ChangedBy(g, p); !ok || impl.FormatPlaces(list) != want {
		t.Errorf("ChangedBy(%q, %v) = %v, %v, want %s", impl.FormatGraph(g), p, list, ok, want)
	}
	if can := impl.CanRemove(g, p); can != (want == "-") {
		t.Errorf("CanRemove(%q, %v) = %v", impl.FormatGraph(g), p, can)
	}
}

// checkCleaned compares the graph without all that can be removed.
func checkCleaned(t *testing.T, g impl.Graph, want string) {
	t.Helper()
	if h, ok := impl.RemoveUnused(g); !ok || impl.FormatGraph(h) != want {
		t.Errorf("RemoveUnused(%q) = %v, %v, want %q", impl.FormatGraph(g), h, ok, want)
	}
}

// checkNoUsers checks that there are no users of a place, which is not the same as a declaration without any.
func checkNoUsers(t *testing.T, g impl.Graph, p impl.Place) {
	t.Helper()
	if list, ok := impl.UsersOf(g, p); ok || len(list) != 0 {
		t.Errorf("UsersOf(%v, %v) = %v, %v", g, p, list, ok)
	}
}

// checkNothingRemoved checks that all functions refuse a place at which there is no item.
func checkNothingRemoved(t *testing.T, g impl.Graph, p impl.Place) {
	t.Helper()
	checkNoUsers(t, g, p)
	if h, ok := impl.RemoveItem(g, p); ok || len(h.Scopes) != 0 {
		t.Errorf("RemoveItem(%v, %v) = %v, %v", g, p, h, ok)
	}
	if list, ok := impl.ChangedBy(g, p); ok || len(list) != 0 {
		t.Errorf("ChangedBy(%v, %v) = %v, %v", g, p, list, ok)
	}
	if impl.CanRemove(g, p) {
		t.Errorf("CanRemove(%v, %v) is true", g, p)
	}
}

func TestUsersOfDeclarations(t *testing.T) {
	cases := []struct{ why, text, p, want string }{
		{"the graph of the script in the document", "-,x,m=1,?x;0,y,x;0,!m,?y,?x", "0.1", "2.0"},
		{"one reference", "-,x,?x", "0.0", "0.1"},
		{"one import", "-,m=1;0,!m", "0.0", "1.0"},
		{"an import of what is no module", "-,x,!x", "0.0", "0.1"},
		{"none", "-,x", "0.0", "-"},
		{"not itself", "-,x,y,?y", "0.0", "-"},
		{"not other declarations of its name", "-,x;0,x", "0.0", "-"},
		{"references and imports in the order of places", "-,!m,?m,m=1,?m,!m;0,?m,!m;1,!m;0,?m", "0.2", "0.0 0.1 0.3 0.4 1.0 1.1 2.0 3.0"},
		{"from all scopes", "-,x;0,?x;1,?x;2,?x;0,?x;4,?x", "0.0", "1.0 2.0 3.0 4.0 5.0"},
		{"full scopes", "-,x,?x,?x,?x,?x;0,!x,!x,!x,!x,!x", "0.0", "0.1 0.2 0.3 0.4 1.0 1.1 1.2 1.3 1.4"},
		{"not what means it with another one", "-,x,x,?x,!x", "0.0", "-"},
		{"nor the other one", "-,x,x,?x,!x", "0.1", "-"},
		{"with others here, alone there", "-,m=1,n=2;0,x,?x;0,x;0,!m,!n,?x;0,!m,?x", "1.0", "1.1 4.1"},
		{"not what means one that hides it", "-,x,?x;0,x,?x", "0.0", "0.1"},
		{"but the one that hides", "-,x,?x;0,x,?x", "1.0", "1.1"},
		{"an imported one", "-,x,m=1;0,x;0,!m,?x", "1.0", "2.1"},
		{"the one that an imported one hides", "-,x,m=1;0,x;0,!m,?x", "0.0", "-"},
		{"an import of a name means the one around, a reference the imported one", "-,m=1;0,m=2;1;0,!m,?m", "0.0", "3.0"},
		{"and that is meant by the reference alone", "-,m=1;0,m=2;1;0,!m,?m", "1.0", "3.1"},
		{"from within the module itself", "-,m=1;0,?m,!m", "0.0", "1.0 1.1"},
		{"not from outside", "-,?x,!x;0,x;0,?x", "1.0", "-"},
		{"what is imported in a scope is not meant by the import", "-,m=1;0,x;0,!m", "1.0", "-"},
		{"the last one of all", "-;0;0;0;0;0,!x,?x,?x,?x,x", "5.4", "5.0 5.1 5.2 5.3"},
	}
	for _, c := range cases {
		t.Run(c.why, func(t *testing.T) { checkUsers(t, parse(t, c.text), place(t, c.p), c.want) })
	}
}

func TestUnused(t *testing.T) {
	cases := []struct{ why, text, want string }{
		{"the graph of the script in the document", "-,x,m=1,?x;0,y,x;0,!m,?y,?x", "-"},
		{"the example of the document", "-,m=1,x;0,x;0,!m,?x", "0.1"},
		{"no items", "-;0", "-"},
		{"no declarations", "-,?x,!x", "-"},
		{"one declaration", "-,x", "0.0"},
		{"all of them, in the order of places", "-,x,m=2,x;0,y,x;0,m,z;2,x", "0.0 0.1 0.2 1.0 1.1 2.0 2.1 3.0"},
		{"full scopes", "-,e,d,c,b,a;0,x,x,x,x,x;1,c,b,a,b,c", "0.0 0.1 0.2 0.3 0.4 1.0 1.1 1.2 1.3 1.4 2.0 2.1 2.2 2.3 2.4"},
		{"by one reference", "-,x,y,?y", "0.0"},
		{"by one import", "-,x,m=1,!m;0", "0.0"},
		{"by an import of what is no module", "-,x,y,!y", "0.0"},
		{"several that are meant with each other are used", "-,x,y,y,?y;0,x,?x", "0.0"},
		{"by an import that means several", "-,m=1,m,!m;0", "-"},
		{"imported ones that are meant with each other", "-,m=1,n=2;0,x,y;0,x,z;0,!m,!n,?x", "1.1 2.1"},
		{"hidden ones", "-,x;0,x,?x;1,x", "0.0 2.0"},
		{"to be imported is not to be meant", "-,m=1;0,x;0,!m", "1.0"},
		{"a reference to another scope's name does not count", "-,?x;0,x", "1.0"},
		{"by its own module's scope", "-,m=1,n=2;0,?m;0", "0.1"},
		{"by what comes ahead of it", "-,?x,x;0,y", "1.0"},
	}
	for _, c := range cases {
		t.Run(c.why, func(t *testing.T) { checkUnused(t, parse(t, c.text), c.want) })
	}
}

func TestRemoveItem(t *testing.T) {
	cases := []struct{ why, text, p, want string }{
		{"the only one", "-,x", "0.0", "-"},
		{"a declaration", "-,x,y,?x;0,x", "0.0", "-,y,?x;0,x"},
		{"a reference", "-,x,?x,?x", "0.1", "-,x,?x"},
		{"an import", "-,m=1;0,x;0,!m,?x", "2.0", "-,m=1;0,x;0,?x"},
		{"the first one of five", "-,a,b,c,d,e", "0.0", "-,b,c,d,e"},
		{"the middle one of five", "-,a,b,c,d,e", "0.2", "-,a,b,d,e"},
		{"the last one of five", "-,a,b,c,d,e", "0.4", "-,a,b,c,d"},
		{"one of several that are the same", "-,x,?x,x,?x,x", "0.2", "-,x,?x,?x,x"},
		{"the only one of an inner scope", "-,x;0,y;1,z", "1.0", "-,x;0;1,z"},
		{"one that is meant", "-,x,?x,!x", "0.0", "-,?x,!x"},
		{"the scope of a module stays, as one of a block", "-,m=1,x;0,y;0,!m,?y", "0.0", "-,x;0,y;0,!m,?y"},
		{"and so do other modules", "-,a=3,b=2,c=1;0;0;0", "0.1", "-,a=3,c=1;0;0;0"},
		{"a module within it stays one", "-,m=1;0,n=2;1,x", "0.0", "-;0,n=2;1,x"},
		{"a module in an inner scope", "-,m=1;0,n=2;1,x", "1.0", "-,m=1;0;1,x"},
		{"the last one of the last scope", "-;0;1;0;3;4,a,b,c,d,e", "5.4", "-;0;1;0;3;4,a,b,c,d"},
	}
	for _, c := range cases {
		t.Run(c.why, func(t *testing.T) { checkRemoved(t, parse(t, c.text), place(t, c.p), c.want) })
	}
}

// TestRemovedModules checks that the scope of a module that is removed is one of a block.
func TestRemovedModules(t *testing.T) {
	g := parse(t, "-,m=1,n=2;0,k=3;0;1,x")
	h, _ := impl.RemoveItem(g, impl.Place{})
	if p, ok := impl.ModuleOf(h, 1); ok || p != (impl.Place{}) {
		t.Errorf("ModuleOf = %v, %v", p, ok)
	}
	if list, ok := impl.BlocksOf(h, 0); !ok || !slices.Equal(list, []int{1}) {
		t.Errorf("BlocksOf = %v, %v", list, ok)
	}
	if path, ok := impl.PathOf(h, 3); !ok || path != "k" {
		t.Errorf("PathOf = %q, %v", path, ok)
	}
}

func TestPlaceAfter(t *testing.T) {
	at := func(s, i int) impl.Place { return impl.Place{Scope: s, Index: i} }
	cases := []struct{ p, removed, want impl.Place }{
		{at(1, 2), at(1, 0), at(1, 1)},
		{at(1, 2), at(1, 1), at(1, 1)},
		{at(1, 1), at(1, 0), at(1, 0)},
		{at(1, 2), at(1, 3), at(1, 2)},
		{at(1, 0), at(1, 4), at(1, 0)},
		{at(1, 2), at(0, 0), at(1, 2)},
		{at(1, 2), at(0, 2), at(1, 2)},
		{at(1, 2), at(2, 1), at(1, 2)},
		{at(0, 4), at(0, 0), at(0, 3)},
		{at(5, 4), at(5, 3), at(5, 3)},
		{at(5, 4), at(4, 3), at(5, 4)},
		// No graph is needed, so that numbers past all limits count too.
		{at(9, 100), at(9, 7), at(9, 99)},
		{at(-1, 3), at(-1, 2), at(-1, 2)},
		{at(-1, 3), at(1, 2), at(-1, 3)},
		{at(0, 0), at(0, -1), at(0, -1)},
		{at(0, -1), at(0, 0), at(0, -1)},
		{at(0, math.MaxInt), at(0, math.MinInt), at(0, math.MaxInt-1)},
		{at(0, math.MinInt), at(0, math.MaxInt), at(0, math.MinInt)},
		{at(0, math.MinInt+1), at(0, math.MinInt), at(0, math.MinInt)},
		{at(math.MinInt, 1), at(math.MaxInt, 0), at(math.MinInt, 1)},
	}
	for _, c := range cases {
		if p, ok := impl.PlaceAfter(c.p, c.removed); !ok || p != c.want {
			t.Errorf("PlaceAfter(%v, %v) = %v, %v, want %v", c.p, c.removed, p, ok, c.want)
		}
	}
	for _, p := range []impl.Place{{}, {Scope: 1, Index: 2}, {Scope: 5, Index: 4}, {Scope: -1, Index: -1}, {Scope: math.MaxInt, Index: math.MaxInt}, {Scope: math.MinInt, Index: math.MinInt}} {
		if q, ok := impl.PlaceAfter(p, p); ok || q != (impl.Place{}) {
			t.Errorf("PlaceAfter(%v, %v) = %v, %v", p, p, q, ok)
		}
	}
}

// TestAllPlacesAfter compares each place in a list with where it stands once another one is cut out.
func TestAllPlacesAfter(t *testing.T) {
	var places []impl.Place
	for s := range 3 {
		for i := range impl.MaxItems {
			places = append(places, impl.Place{Scope: s, Index: i})
		}
	}
	for at, removed := range places {
		rest := slices.Delete(slices.Clone(places), at, at+1)
		left := map[int]int{}
		for _, p := range rest {
			want := impl.Place{Scope: p.Scope, Index: left[p.Scope]}
			left[p.Scope]++
			if q, ok := impl.PlaceAfter(p, removed); !ok || q != want {
				t.Errorf("PlaceAfter(%v, %v) = %v, %v, want %v", p, removed, q, ok, want)
			}
		}
	}
}

func TestChangedBy(t *testing.T) {
	cases := []struct{ why, text, p, want string }{
		{"the script of the document", "-,x,m=1,?x;0,y,x;0,!m,?y,?x", "2.0", "2.1 2.2"},
		{"the example of the document, a hidden one", "-,m=1,x;0,x;0,!m,?x", "0.1", "-"},
		{"the example of the document, the import", "-,m=1,x;0,x;0,!m,?x", "2.0", "2.1"},
		{"the example of the document, the module", "-,m=1,x;0,x;0,!m,?x", "0.0", "2.0 2.1"},
		{"the example of the document, the imported one", "-,m=1,x;0,x;0,!m,?x", "1.0", "2.1"},
		{"a reference changes nothing", "-,x,?x,?x", "0.1", "-"},
		{"one that nobody means", "-,x,y,?y", "0.0", "-"},
		{"a name that is missing stays so", "-,x,?y,!z", "0.0", "-"},
		{"what is missing then", "-,x,?x,!x", "0.0", "0.1 0.2"},
		{"not the removed one, though it means something else", "-,x", "0.0", "-"},
		{"places before in order", "-,?x,!x,x,?x,?y;0,?x,y,?x", "0.2", "0.0 0.1 0.3 1.0 1.2"},
		{"one of two that are meant with each other", "-,x,x,?x", "0.0", "0.2"},
		{"the other one", "-,x,x,?x", "0.1", "0.2"},
		{"one of an ambiguous import", "-,m=1,m,!m,?x;0,x", "0.1", "0.2 0.3"},
		{"one that hides another one", "-,x;0,x,?x", "1.0", "1.1"},
		{"one that is hidden", "-,x;0,x,?x", "0.0", "-"},
		{"one that only an index less is left of", "-,a,x,?x;0,?x", "0.0", "-"},
		{"an index less in the middle", "-,x,a,x,?x;0,?x", "0.1", "-"},
		{"an index less in an imported scope", "-,m=1;0,a,x,a,x;0,!m,?x", "1.0", "-"},
		{"one index less, and one that hides", "-,x;0,x,?x,y,?y", "1.0", "1.1"},
		{"a module whose scope nobody imports", "-,m=1;0,x,?x", "0.0", "-"},
		{"a module that hides one", "-,m=1;0,x;0,m=3,!m,?x;2,x", "2.0", "2.1 2.2"},
		{"a module named by its own scope", "-,m=1;0,?m,!m", "0.0", "1.0 1.1"},
		{"an import that brings in nothing", "-,x,!x,!y,?x", "0.1", "-"},
		{"an import of nothing", "-,x,!x,!y,?x", "0.2", "-"},
		{"an import by which nothing is found", "-,m=1,x;0,y;0,!m,?x", "2.0", "-"},
		{"an import by which a scope within finds", "-,m=1;0,x;0,!m;2;3,?x", "2.0", "4.0"},
		{"an import by which an import finds", "-,m=1;0,n=2;1,x;0,!m;3,!n,?x", "3.0", "4.0 4.1"},
		{"an import by which one is hidden", "-,x,m=1;0,x;0,!m,?x", "2.0", "2.1"},
		{"one of two imports of a module", "-,m=1;0,x;0,!m,!m,?x", "2.0", "-"},
		{"the other one of two imports", "-,m=1;0,x;0,!m,!m,?x", "2.1", "-"},
		{"an import of one of two that are meant", "-,m=1,n=2;0,x;0,x;0,!m,!n,?x", "3.0", "3.2"},
		{"the order alone, by the first import of a module", "-,m=1,n=2;0,x;0,x;0,!m,!n,!m,?x", "3.0", "3.3"},
		{"not by its last import", "-,m=1,n=2;0,x;0,x;0,!m,!n,!m,?x", "3.2", "-"},
		{"the order of what only one of them has is the same", "-,m=1,n=2;0,x,x;0,y;0,!m,!n,!m,?x", "3.0", "-"},
		{"an import of a module in itself", "-,m=1;0,!m,x,?x", "1.0", "-"},
		{"declarations mean themselves, wherever they stand then", "-,a,x,m=1;0,x", "0.0", "-"},
	}
	for _, c := range cases {
		t.Run(c.why, func(t *testing.T) { checkChanged(t, parse(t, c.text), place(t, c.p), c.want) })
	}
}

func TestRemoveUnused(t *testing.T) {
	cases := []struct{ why, text, want string }{
		{"the example of the document", "-,m=1,x;0,x;0,!m,?x", "-,m=1;0,x;0,!m,?x"},
		{"the script of the document", "-,q,a=1,?q;0,b,a;0,!a,?b,?a,b", "-,q,a=1,?q;0,a;0,!a,?b,?a,b"},
		{"no items", "-;0;1", "-;0;1"},
		{"a declaration", "-,x", "-"},
		{"an import of nothing", "-,!m", "-"},
		{"references stay", "-,?x,x,?x,?y", "-,?x,x,?x,?y"},
		{"references that mean nothing stay", "-,?x;0,?y", "-,?x;0,?y"},
		{"references that mean several stay, and these too", "-,x,?x,x", "-,x,?x,x"},
		{"nothing can be removed", "-,x,?x;0,x,?x", "-,x,?x;0,x,?x"},
		{"all full scopes", "-,a,b,c,d,e;0,x,x,x,x,x;1,!a,!x,!z,y,z", "-;0;1"},
		{"a module whose scope stays", "-,m=1;0,x,?x", "-;0,x,?x"},
		{"a module that is named only by an import that nobody needs", "-,m=1,!m;0,x", "-;0"},
		{"modules in each other that only imports name", "-,m=1;0,n=2,!m;1,!n", "-;0;1"},
		{"an import of a module in itself", "-,m=1;0,!m,x,?x", "-;0,x,?x"},
		{"an import of what is no module", "-,x,!x,?y", "-,?y"},
		{"an import of several", "-,m=1,m=2,!m;0;0", "-;0;0"},
		{"an import that an import needs", "-,m=1;0,n=2;1,x;0,!m;3,!n,?x", "-,m=1;0,n=2;1,x;0,!m;3,!n,?x"},
		{"and that nobody needs any more", "-,m=1;0,n=2;1,x;0,!m;3,!n,?y", "-;0;1;0;3,?y"},
		{"the first one of two imports goes", "-,m=1,n=2;0,x;0,y;0,!m,!n,!m,?x,?y", "-,m=1,n=2;0,x;0,y;0,!n,!m,?x,?y"},
		{"but the last one where the order counts", "-,m=1,n=2;0,x;0,x;0,!m,!n,!m,?x", "-,m=1,n=2;0,x;0,x;0,!m,!n,?x"},
		{"of two imports of one name the one around goes", "-,m=1,!m;0,x;0,!m,?x", "-,m=1;0,x;0,!m,?x"},
		{"but stays where it is needed", "-,m=1,!m,?x;0,x;0,!m,?x", "-,m=1,!m,?x;0,x;0,?x"},
		{"the hidden one goes", "-,x;0,x,?x", "-;0,x,?x"},
		{"one ahead of what went before it", "-,x,y;0,!x;0,!y,?y", "-,y;0;0,?y"},
	}
	for _, c := range cases {
		t.Run(c.why, func(t *testing.T) { checkCleaned(t, parse(t, c.text), c.want) })
	}
}

func TestNothingRemoved(t *testing.T) {
	for _, c := range validGraphs {
		for _, s := range append([]int{len(c.graph.Scopes)}, noScopes...) {
			if s < 0 || s >= len(c.graph.Scopes) {
				checkNothingRemoved(t, c.graph, impl.Place{Scope: s})
			}
		}
		for s, scope := range c.graph.Scopes {
			for i, x := range scope.Items {
				if x.Kind != impl.ItemDeclares {
					checkNoUsers(t, c.graph, impl.Place{Scope: s, Index: i})
				}
			}
			for _, i := range []int{-1, -2, len(scope.Items), impl.MaxItems, math.MaxInt, math.MinInt} {
				checkNothingRemoved(t, c.graph, impl.Place{Scope: s, Index: i})
			}
		}
	}
}

func TestRemovingFromInvalidGraphs(t *testing.T) {
	for what, g := range invalidGraphs {
		t.Run(what, func(t *testing.T) {
			for s := -1; s <= impl.MaxScopes+1; s++ {
				for i := -1; i <= impl.MaxItems+1; i++ {
					checkNothingRemoved(t, g, impl.Place{Scope: s, Index: i})
				}
			}
			if list, ok := impl.UnusedOf(g); ok || len(list) != 0 {
				t.Errorf("UnusedOf = %v, %v", list, ok)
			}
			if h, ok := impl.RemoveUnused(g); ok || len(h.Scopes) != 0 {
				t.Errorf("RemoveUnused = %v, %v", h, ok)
			}
		})
	}
}

// A rest is what is left of a graph, with where each of its items stood in the whole one, so that items are told apart without counting indices.
type rest struct {
	graph impl.Graph
	stood [][]impl.Place
}

// wholeRest returns a graph of which nothing is removed yet.
func wholeRest(g impl.Graph) rest {
	r := rest{graph: g}
	for s, scope := range g.Scopes {
		var stood []impl.Place
		for i := range scope.Items {
			stood = append(stood, impl.Place{Scope: s, Index: i})
		}
		r.stood = append(r.stood, stood)
	}
	return r
}

// without puts together all but the item that stood at a place.
func (r rest) without(p impl.Place) rest {
	var left rest
	for s, scope := range r.graph.Scopes {
		var items []impl.Item
		var stood []impl.Place
		for i, x := range scope.Items {
			if r.stood[s][i] != p {
				items = append(items, x)
				stood = append(stood, r.stood[s][i])
			}
		}
		left.graph.Scopes = append(left.graph.Scopes, impl.Scope{Parent: scope.Parent, Items: items})
		left.stood = append(left.stood, stood)
	}
	return left
}

// meanings tells, for each item by where it stood, where what it means stood.
func (r rest) meanings() map[impl.Place][]impl.Place {
	m := modelOf(r.graph)
	all := map[impl.Place][]impl.Place{}
	for s, stood := range r.stood {
		for i, p := range stood {
			var list []impl.Place
			for _, q := range m.meaning(r.graph, impl.Place{Scope: s, Index: i}) {
				list = append(list, r.stood[q.Scope][q.Index])
			}
			all[p] = list
		}
	}
	return all
}

// changed tells by where they stood which items mean something else without one of them.
func (r rest) changed(p impl.Place, before map[impl.Place][]impl.Place) []impl.Place {
	return r.differences(before, r.without(p).meanings())
}

// differences tells by where they stood which items are still there and mean something else after a change.
func (r rest) differences(before, after map[impl.Place][]impl.Place) []impl.Place {
	var list []impl.Place
	for _, stood := range r.stood {
		for _, p := range stood {
			if means, isThere := after[p]; isThere && !slices.Equal(means, before[p]) {
				list = append(list, p)
			}
		}
	}
	return list
}

// cleaned removes the first item that can be removed, and again what is first then.
func (r rest) cleaned() rest {
	before := r.meanings()
	for s, scope := range r.graph.Scopes {
		for i, x := range scope.Items {
			if p := r.stood[s][i]; x.Kind != impl.ItemRefers && len(r.changed(p, before)) == 0 {
				return r.without(p).cleaned()
			}
		}
	}
	return r
}

// kindAt returns the kind of the item at a place.
func kindAt(g impl.Graph, p impl.Place) int { return g.Scopes[p.Scope].Items[p.Index].Kind }

// checkUsersModel compares what means declarations with what a graph means by the model.
func checkUsersModel(t *testing.T, r rest, means map[impl.Place][]impl.Place, counts map[string]int) {
	t.Helper()
	var unused []impl.Place
	for _, stood := range r.stood {
		for _, p := range stood {
			if kindAt(r.graph, p) != impl.ItemDeclares {
				checkNoUsers(t, r.graph, p)
				continue
			}
			var alone, others []impl.Place
			for _, list := range r.stood {
				for _, q := range list {
					switch {
					case q == p || !slices.Contains(means[q], p):
					case len(means[q]) == 1:
						alone = append(alone, q)
					default:
						others = append(others, q)
					}
				}
			}
			checkUsers(t, r.graph, p, impl.FormatPlaces(alone))
			switch {
			case alone == nil && others == nil:
				unused = append(unused, p)
			case alone == nil:
				counts["are only meant with others"]++
			case others != nil:
				counts["are meant alone and with others"]++
			}
		}
	}
	checkUnused(t, r.graph, impl.FormatPlaces(unused))
	counts["are unused"] += len(unused)
}

// checkRemovalModel compares what is left without each item, and what this changes, with the model.
func checkRemovalModel(t *testing.T, r rest, means map[impl.Place][]impl.Place, counts map[string]int) {
	t.Helper()
	for s, stood := range r.stood {
		for i, p := range stood {
			left := r.without(p).graph
			if h, ok := impl.RemoveItem(r.graph, p); !ok || !sameGraph(h, left) {
				t.Errorf("RemoveItem(%q, %v) = %v, %v", impl.FormatGraph(r.graph), p, h, ok)
			}
			changed := r.changed(p, means)
			checkChanged(t, r.graph, p, impl.FormatPlaces(changed))
			switch x := r.graph.Scopes[s].Items[i]; {
			case x.Kind == impl.ItemImports && len(changed) > 0:
				counts["are needed imports"]++
			case x.Kind == impl.ItemImports:
				counts["are imports that nobody needs"]++
			case x.Scope != -1 && len(changed) > 1:
				counts["are modules by which several change"]++
			}
		}
	}
}

// checkCleanedModel compares what is left without all that can be removed with the model.
func checkCleanedModel(t *testing.T, r rest, counts map[string]int) {
	t.Helper()
	want := r.cleaned().graph
	h, ok := impl.RemoveUnused(r.graph)
	if !ok || !sameGraph(h, want) {
		t.Errorf("RemoveUnused(%q) = %q, %v, want %q", impl.FormatGraph(r.graph), impl.FormatGraph(h), ok, impl.FormatGraph(want))
	}
	for s, scope := range want.Scopes {
		for _, x := range scope.Items {
			switch {
			case x.Kind == impl.ItemImports:
				counts["are imports that stay"]++
			case x.Scope != -1:
				counts["are modules that stay"]++
			}
		}
		if len(scope.Items) < len(r.graph.Scopes[s].Items) {
			counts["are scopes with less"]++
		}
	}
}

// importing makes a graph with two modules and three scopes that mostly import and refer, so that many imports are needed.
func (m *graphMaker) importing() impl.Graph {
	parent := m.below(2)
	scopes := []impl.Scope{scope(-1, module("m", 1)), scope(0), scope(parent)}
	scopes[parent].Items = append(scopes[parent].Items, module("n", 2))
	for _, within := range []int{0, 3, 3} {
		scopes = append(scopes, scope(m.below(2)*within))
	}
	for s := range scopes {
		items := []impl.Item{declares("x"), declares(m.name()), imports("m"), refers("x")}
		if s > 2 {
			items = []impl.Item{imports("m"), imports("m"), imports("n"), imports("n"), refers("x"), refers("x"), refers(m.name()), declares(m.name())}
		}
		list := &scopes[s].Items
		for len(*list) < impl.MaxItems && m.below(6) > 0 {
			*list = slices.Insert(*list, m.below(len(*list)+1), items[m.below(len(items))])
		}
	}
	return graph(scopes...)
}

// users makes one of two sorts of graphs.
func (m *graphMaker) users(i int) impl.Graph {
	if i%2 == 0 {
		return m.importing()
	}
	return m.graph(1 + i/2%impl.MaxScopes)
}

// stopIfFailed ends a test, since one graph is enough to tell what is wrong.
func stopIfFailed(t *testing.T) {
	t.Helper()
	if t.Failed() {
		t.FailNow()
	}
}

// TestAllSmallUsers goes through a module m beside a scope, with all lists of at most two of four items ahead of it and in each of these scopes.
func TestAllSmallUsers(t *testing.T) {
	t.Parallel()
	lists := itemLists([]impl.Item{declares("m"), declares("x"), refers("x"), imports("m")}, 2)
	counts := map[string]int{}
	for _, first := range lists {
		for _, second := range lists {
			for _, third := range lists {
				r := wholeRest(graph(scope(-1, append(slices.Clone(first), module("m", 1))...), scope(0, second...), scope(0, third...)))
				means := r.meanings()
				checkUsersModel(t, r, means, counts)
				checkRemovalModel(t, r, means, counts)
				checkCleanedModel(t, r, counts)
				stopIfFailed(t)
			}
		}
	}
}

// TestManyUsers goes through graphs of all sizes, and counts what they show, so that the test is known to see it.
func TestManyUsers(t *testing.T) {
	t.Parallel()
	maker := &graphMaker{}
	counts := map[string]int{}
	for i := range 3000 {
		r := wholeRest(maker.users(i))
		means := r.meanings()
		checkUsersModel(t, r, means, counts)
		checkRemovalModel(t, r, means, counts)
		// What is left is found in many steps, so that fewer graphs must do.
		if i%4 < 2 {
			checkCleanedModel(t, r, counts)
		}
		stopIfFailed(t)
	}
	for _, what := range []string{"are unused", "are only meant with others", "are meant alone and with others", "are needed imports", "are imports that nobody needs", "are modules by which several change", "are imports that stay", "are modules that stay", "are scopes with less"} {
		if counts[what] < 50 {
			t.Errorf("only %d %s", counts[what], what)
		}
	}
}

// TestWhatNobodyMeansCanBeRemoved checks the promise by itself: just those declarations can be removed that nobody means, and in the end there are none of these left, while all references mean declarations of the same scopes as before.
func TestWhatNobodyMeansCanBeRemoved(t *testing.T) {
	t.Parallel()
	maker := &graphMaker{}
	for i := range 3000 {
		g := maker.users(i)
		declared, _ := impl.PlacesOf(g, impl.ItemDeclares)
		unused, _ := impl.UnusedOf(g)
		for _, p := range declared {
			if can := impl.CanRemove(g, p); can != slices.Contains(unused, p) {
				t.Fatalf("in %q, CanRemove(%v) = %v, and unused are %v", impl.FormatGraph(g), p, can, unused)
			}
		}
		h, _ := impl.RemoveUnused(g)
		if rest, ok := impl.UnusedOf(h); !ok || len(rest) != 0 {
			t.Fatalf("from %q, %q is left, with %v unused", impl.FormatGraph(g), impl.FormatGraph(h), rest)
		}
		if before, after := referenceScopes(g), referenceScopes(h); before != after {
			t.Fatalf("from %q, %q is left, where references mean %s, and not %s", impl.FormatGraph(g), impl.FormatGraph(h), after, before)
		}
		if again, ok := impl.RemoveUnused(h); !ok || !sameGraph(again, h) {
			t.Fatalf("from %q, %q is left, and from that %q", impl.FormatGraph(g), impl.FormatGraph(h), impl.FormatGraph(again))
		}
	}
}

// referenceScopes tells, for each reference in order, the scopes of the declarations that it means.
func referenceScopes(g impl.Graph) string {
	var rows []string
	list, _ := impl.PlacesOf(g, impl.ItemRefers)
	for _, p := range list {
		means, _ := impl.ResolveItem(g, p)
		for i := range means {
			means[i].Index = 0
		}
		rows = append(rows, impl.FormatPlaces(means))
	}
	return strings.Join(rows, ";")
}

// TestUsersStay checks that no function of the chapter changes a graph, or the memory behind its scopes and items.
func TestUsersStay(t *testing.T) {
	build := func() ([]impl.Item, []impl.Scope) {
		items := []impl.Item{module("m", 1), declares("x"), imports("m"), refers("spare")}
		return items, []impl.Scope{{Parent: -1, Items: items[:3]}, {Parent: 0, Items: []impl.Item{declares("y"), refers("m"), imports("x")}}, {Parent: 7}}
	}
	items, scopes := build()
	g := impl.Graph{Scopes: scopes[:2]}
	for s := -1; s < 3; s++ {
		for i := -1; i < 4; i++ {
			p := impl.Place{Scope: s, Index: i}
			impl.UsersOf(g, p)
			impl.RemoveItem(g, p)
			impl.ChangedBy(g, p)
			impl.CanRemove(g, p)
		}
	}
	impl.UnusedOf(g)
	impl.RemoveUnused(g)
	if wantItems, wantScopes := build(); !reflect.DeepEqual(items, wantItems) || !reflect.DeepEqual(scopes, wantScopes) {
		t.Errorf("items became %v, scopes %v", items, scopes)
	}
}

// spoil writes over all memory of a graph, its unused capacity included.
func spoil(g impl.Graph) {
	scopes := g.Scopes[:cap(g.Scopes)]
	for i := range scopes {
		items := scopes[i].Items[:cap(scopes[i].Items)]
		for j := range items {
			items[j] = imports("q")
		}
		scopes[i] = impl.Scope{Parent: 9}
	}
}

// checkNewGraph writes over one graph that a function returns and over the memory of single scopes of another one, and compares others and the argument after that.
func checkNewGraph(t *testing.T, what string, g impl.Graph, f func(impl.Graph) (impl.Graph, bool)) {
	t.Helper()
	before := impl.FormatGraph(g)
	first, _ := f(g)
	second, _ := f(g)
	third, _ := f(g)
	want := impl.FormatGraph(second)
	spoil(first)
	if text := impl.FormatGraph(second); text != want || text == "" {
		t.Errorf("%s = %q, and %q once another result is changed", what, want, text)
	}
	for s := range third.Scopes {
		spoil(impl.Graph{Scopes: third.Scopes[s : s+1 : s+1]})
		third.Scopes[s] = second.Scopes[s]
		if text := impl.FormatGraph(third); text != want {
			t.Errorf("%s = %q, and %q once the scope %d is changed", what, want, text, s)
		}
	}
	if text := impl.FormatGraph(g); text != before {
		t.Errorf("%s shares memory with its argument: %q became %q", what, before, text)
	}
	spoil(g)
	if text := impl.FormatGraph(second); text != want {
		t.Errorf("%s = %q, and %q once the argument is changed", what, want, text)
	}
}

// TestLeftGraphsAreNew checks that graphs share no memory, even if nothing was removed from a scope or at all.
func TestLeftGraphsAreNew(t *testing.T) {
	for _, text := range []string{"-,x,?x,m=1;0,x,?x;0,!m,?x", "-,x,y,?x;0,x,?y;0,?y", "-,x,?x"} {
		checkNewGraph(t, "RemoveUnused", parse(t, text), impl.RemoveUnused)
		for _, p := range []impl.Place{{}, {Index: 1}} {
			checkNewGraph(t, "RemoveItem "+placeText(p), parse(t, text), func(g impl.Graph) (impl.Graph, bool) { return impl.RemoveItem(g, p) })
		}
	}
}

// TestUserListsAreNew checks that lists share no memory, their unused capacity included.
func TestUserListsAreNew(t *testing.T) {
	g := parse(t, "-,m=1,x,y,?x;0,x,?x,?x;0,!m,!m,?x,z")
	places := map[string]func() []impl.Place{
		"UsersOf":   func() []impl.Place { list, _ := impl.UsersOf(g, impl.Place{Scope: 1}); return list },
		"UnusedOf":  func() []impl.Place { list, _ := impl.UnusedOf(g); return list },
		"ChangedBy": func() []impl.Place { list, _ := impl.ChangedBy(g, impl.Place{Scope: 1}); return list },
	}
	for what, f := range places {
		checkNew(t, what, f, impl.Place{Scope: 9, Index: 9})
	}
}
