package tests

import (
	"math"
	"reflect"
	"slices"
	"strings"
	"testing"

	"loop.example/scopegraphs/impl"
)

// checkAdded compares the graph with a declaration more, and where this stands.
func checkAdded(t *testing.T, g impl.Graph, s int, name string, want string, at string) {
	t.Helper()
	h, p, ok := impl.AddDeclaration(g, s, name)
	if !ok || impl.FormatGraph(h) != want || placeText(p) != at {
		t.Errorf("AddDeclaration(%q, %d, %q) = %q, %v, %v, want %q, %s", impl.FormatGraph(g), s, name, impl.FormatGraph(h), p, ok, want, at)
	}
	if x, _ := impl.ItemAt(h, p); x != declares(name) {
		t.Errorf("AddDeclaration(%q, %d, %q) adds %v", impl.FormatGraph(g), s, name, x)
	}
}

// checkImportAdded compares the graph with an import more.
func checkImportAdded(t *testing.T, g impl.Graph, s int, name string, want string) {
	t.Helper()
	if h, ok := impl.AddImport(g, s, name); !ok || impl.FormatGraph(h) != want {
		t.Errorf("AddImport(%q, %d, %q) = %q, %v, want %q", impl.FormatGraph(g), s, name, impl.FormatGraph(h), ok, want)
	}
}

// checkCaptured compares the items that mean something else with a declaration more, and whether it can be added.
func checkCaptured(t *testing.T, g impl.Graph, s int, name string, want string) {
	t.Helper()
	if list, ok := impl.CapturedBy(g, s, name); !ok || impl.FormatPlaces(list) != want {
		t.Errorf("CapturedBy(%q, %d, %q) = %v, %v, want %s", impl.FormatGraph(g), s, name, list, ok, want)
	}
	if can := impl.CanAdd(g, s, name); can != (want == "-") {
		t.Errorf("CanAdd(%q, %d, %q) = %v", impl.FormatGraph(g), s, name, can)
	}
}

// checkImportChanges compares the items that mean something else with an import more.
func checkImportChanges(t *testing.T, g impl.Graph, s int, name string, want string) {
	t.Helper()
	if list, ok := impl.ImportChanges(g, s, name); !ok || impl.FormatPlaces(list) != want {
		t.Errorf("ImportChanges(%q, %d, %q) = %v, %v, want %s", impl.FormatGraph(g), s, name, list, ok, want)
	}
}

// checkAddable compares the names that can be added with all but some.
func checkAddable(t *testing.T, g impl.Graph, s int, but string) {
	t.Helper()
	if names, ok := impl.AddableNames(g, s); !ok || names != without(but) {
		t.Errorf("AddableNames(%q, %d) = %q, %v, want %q", impl.FormatGraph(g), s, names, ok, without(but))
	}
}

// checkMoved compares the graph with an item elsewhere, and whether it can stand there.
func checkMoved(t *testing.T, g impl.Graph, p impl.Place, s int, want string, can bool) {
	t.Helper()
	if h, ok := impl.MoveItem(g, p, s); !ok || impl.FormatGraph(h) != want {
		t.Errorf("MoveItem(%q, %v, %d) = %q, %v, want %q", impl.FormatGraph(g), p, s, impl.FormatGraph(h), ok, want)
	}
	if ok := impl.CanMove(g, p, s); ok != can {
		t.Errorf("CanMove(%q, %v, %d) = %v", impl.FormatGraph(g), p, s, ok)
	}
}

// checkNothingAdded checks that nothing is added, neither a declaration nor an import.
func checkNothingAdded(t *testing.T, g impl.Graph, s int, name string) {
	t.Helper()
	if h, p, ok := impl.AddDeclaration(g, s, name); ok || len(h.Scopes) != 0 || p != (impl.Place{}) {
		t.Errorf("AddDeclaration(%v, %d, %q) = %v, %v, %v", g, s, name, h, p, ok)
	}
	if h, ok := impl.AddImport(g, s, name); ok || len(h.Scopes) != 0 {
		t.Errorf("AddImport(%v, %d, %q) = %v, %v", g, s, name, h, ok)
	}
	for what, f := range map[string]func(impl.Graph, int, string) ([]impl.Place, bool){"CapturedBy": impl.CapturedBy, "ImportChanges": impl.ImportChanges} {
		if list, ok := f(g, s, name); ok || len(list) != 0 {
			t.Errorf("%s(%v, %d, %q) = %v, %v", what, g, s, name, list, ok)
		}
	}
	if impl.CanAdd(g, s, name) {
		t.Errorf("CanAdd(%v, %d, %q) is true", g, s, name)
	}
}

// checkNoneAddable checks that there are no names to be told, which is not the same as that none can be added.
func checkNoneAddable(t *testing.T, g impl.Graph, s int) {
	t.Helper()
	if names, ok := impl.AddableNames(g, s); ok || names != "" {
		t.Errorf("AddableNames(%v, %d) = %q, %v", g, s, names, ok)
	}
}

// checkNotMoved checks that an item is not moved.
func checkNotMoved(t *testing.T, g impl.Graph, p impl.Place, s int) {
	t.Helper()
	if h, ok := impl.MoveItem(g, p, s); ok || len(h.Scopes) != 0 {
		t.Errorf("MoveItem(%v, %v, %d) = %v, %v", g, p, s, h, ok)
	}
	if impl.CanMove(g, p, s) {
		t.Errorf("CanMove(%v, %v, %d) is true", g, p, s)
	}
}

func TestAddDeclaration(t *testing.T) {
	cases := []struct {
		why, text  string
		s          int
		name       string
		want, at   string
		wantImport string
	}{
		{"the script of the document", "-,q,a=1,?q;0,b,a;0,!a,?b,?a", 2, "b", "-,q,a=1,?q;0,b,a;0,!a,?b,?a,b", "2.3", "-,q,a=1,?q;0,b,a;0,!a,?b,?a,!b"},
		{"the example of the document", "-,x;0,?x", 1, "x", "-,x;0,?x,x", "1.1", "-,x;0,?x,!x"},
		{"no items", "-", 0, "a", "-,a", "0.0", "-,!a"},
		{"behind all items", "-,?x,!y,z", 0, "z", "-,?x,!y,z,z", "0.3", "-,?x,!y,z,!z"},
		{"the fifth item", "-,a,b,c,d", 0, "e", "-,a,b,c,d,e", "0.4", "-,a,b,c,d,!e"},
		{"beside full scopes", "-,a,b,c,d,e;0;1,a,b,c,d,e", 1, "x", "-,a,b,c,d,e;0,x;1,a,b,c,d,e", "1.0", "-,a,b,c,d,e;0,!x;1,a,b,c,d,e"},
		{"an inner scope without items", "-,x;0;1,y", 1, "z", "-,x;0,z;1,y", "1.0", "-,x;0,!z;1,y"},
		{"the last scope", "-;0;1;2;3;4,a", 5, "b", "-;0;1;2;3;4,a,b", "5.1", "-;0;1;2;3;4,a,!b"},
		{"of no module, though this has the name", "-,m=1;0", 0, "m", "-,m=1,m;0", "0.1", "-,m=1,!m;0"},
		{"of no module, beside a scope that is of none", "-;0", 0, "m", "-,m;0", "0.0", "-,!m;0"},
		{"in the scope of a module", "-,m=1,n=2;0;0,x", 1, "y", "-,m=1,n=2;0,y;0,x", "1.0", "-,m=1,n=2;0,!y;0,x"},
	}
	for _, c := range cases {
		t.Run(c.why, func(t *testing.T) {
			g := parse(t, c.text)
			checkAdded(t, g, c.s, c.name, c.want, c.at)
			checkImportAdded(t, g, c.s, c.name, c.wantImport)
		})
	}
}

func TestAddEveryName(t *testing.T) {
	g := parse(t, "-,x;0,?y")
	for _, r := range alphabet {
		name := string(r)
		checkAdded(t, g, 0, name, "-,x,"+name+";0,?y", "0.1")
		checkImportAdded(t, g, 1, name, "-,x;0,?y,!"+name)
	}
}

func TestCapturedBy(t *testing.T) {
	cases := []struct {
		why, text string
		s         int
		name      string
		want      string
	}{
		{"the script of the document", "-,q,a=1,?q;0,b,a;0,!a,?b,?a", 2, "b", "2.1"},
		{"the example of the document", "-,x;0,?x", 1, "x", "1.0"},
		{"no items", "-", 0, "x", "-"},
		{"a name that no item has", "-,x,?x;0,!x,?x", 0, "y", "-"},
		{"a name that only declarations have", "-,x;0,x;1,x", 1, "x", "-"},
		{"declarations mean themselves as before", "-,x,y,?y", 0, "x", "-"},
		{"beside one of the same name", "-,x,?x", 0, "x", "0.1"},
		{"beside several of the same name", "-,x,x,?x,!x", 0, "x", "0.2 0.3"},
		{"beside one that hides the one around", "-,x,?x;0,x,?x;1,?x", 1, "x", "1.1 2.0"},
		{"what was missing", "-,?x,!x;0,?x,!x;1,?x", 0, "x", "0.0 0.1 1.0 1.1 2.0"},
		{"what is looked up from within", "-,x,?x,!x;0,?x,!x;1,?x;0,?x", 1, "x", "1.0 1.1 2.0"},
		{"not what is looked up from around", "-,x,?x;0,?x;1,x,?x", 2, "x", "2.1"},
		{"nor from beside", "-,x;0,?x;0,?x", 2, "x", "2.0"},
		{"nor what is found on the way to it", "-,x;0,?x;1,x,?x;2,?x", 1, "x", "1.0"},
		{"nor what is imported on the way to it", "-,m=1;0,x;0;2,!m,?x;3,?x", 2, "x", "-"},
		{"what is imported there", "-,m=1;0,x;0,!m,?x;2,?x", 2, "x", "2.1 3.0"},
		{"what the imported one hid", "-,x,m=1;0,y;0,!m,?x;2,?x", 1, "x", "2.1 3.0"},
		{"what is imported besides", "-,m=1,n=2;0,x;0,y;0,!m,!n,?x", 2, "x", "3.2"},
		{"and where this comes first", "-,m=1,n=2;0,x;0,y;0,!n,!m,?x", 2, "x", "3.2"},
		{"beside the imported one", "-,m=1;0,x;0,!m,?x", 1, "x", "2.1"},
		{"not what is declared in the importing scope", "-,m=1;0,x;0,!m,x,?x", 1, "x", "-"},
		{"not by a scope that imports the importing one", "-,m=1;0,n=2;1,y;0,!m,?y", 2, "y", "-"},
		{"one that nobody imports captures within alone", "-,x,m=1;0,?x;0,?x", 1, "x", "1.0"},
		{"an import, and so what it brought in", "-,m=1;0,x;0,!m,?x", 2, "m", "2.0 2.1"},
		{"an import of the scope around, which finds it in vain", "-,x,m=1;0,x;0;2,!m,?x", 2, "m", "3.0 3.1"},
		{"an import beside the module", "-,m=1;0,x,?m;0,!m,?x", 0, "m", "1.1 2.0 2.1"},
		{"an import by which nothing is found", "-,m=1;0;0,!m,?x", 2, "m", "2.0"},
		{"an import of a name that was missing", "-,x;0,!m,?x", 0, "m", "1.0"},
		{"not an import, if it is in an imported scope", "-,m=1,n=2;0;0,x;0,!m,!n,?x,?n", 1, "n", "3.3"},
		{"an import by which an import finds", "-,m=1;0,n=2;1,x;0,!m;3,!n,?x", 1, "n", "4.0 4.1"},
		{"an import from within the module itself", "-,m=1;0,!m,?x;0,!m,?x", 1, "m", "1.0"},
		{"references and imports in the order of places", "-,?x,!x,x,?x,y;0,!x,x,?x;0,?y,?x,!x;2,!x,?y,?x", 2, "x", "2.1 2.2 3.0 3.2"},
		{"all of full scopes", "-,x;0,?x,?x,?x,?x;1,!x,!x,!x,!x,!x;1,?x,?x,?x,?x,?x", 1, "x", "1.0 1.1 1.2 1.3 2.0 2.1 2.2 2.3 2.4 3.0 3.1 3.2 3.3 3.4"},
	}
	for _, c := range cases {
		t.Run(c.why, func(t *testing.T) { checkCaptured(t, parse(t, c.text), c.s, c.name, c.want) })
	}
}

func TestAddableNames(t *testing.T) {
	cases := []struct {
		why, text string
		s         int
		but       string
	}{
		{"the script of the document", "-,q,a=1,?q;0,b,a;0,!a,?b,?a", 2, "ab"},
		{"no items", "-", 0, ""},
		{"declared names capture nothing", "-,x,y;0,z", 1, ""},
		{"names of references", "-,x,?x,?z,?a", 0, "axz"},
		{"names of imports", "-,!x,!z,!a", 0, "axz"},
		{"of those within", "-,x;0,?x;1,?y;1,?z", 1, "xyz"},
		{"not of those around and beside", "-,x,?x;0;0,?y", 1, ""},
		{"not of what hides it", "-,x;0;1,x,?x", 1, ""},
		{"of those that import it", "-,m=1,n=2;0;0;0,!m,?x,?y;0,!n,?z", 1, "xy"},
		{"only one place left", "-,a,b,c,?a", 0, "a"},
		{"all of them but what full scopes refer to", "-;0,?a,?b,?c,?d,?e;0,?f,?g,?h,?i,?j;0,?k,?l,?m,?n,?o;0,?p,?q,?r,?s,?t;0,?u,?v,?w,?x,?y", 0, "abcdefghijklmnopqrstuvwxy"},
	}
	for _, c := range cases {
		t.Run(c.why, func(t *testing.T) { checkAddable(t, parse(t, c.text), c.s, c.but) })
	}
	t.Run("none", func(t *testing.T) {
		g := parse(t, "-,?z;0,?a,?b,?c,?d,?e;0,?f,?g,?h,?i,?j;0,?k,?l,?m,?n,?o;0,?p,?q,?r,?s,?t;0,?u,?v,?w,?x,?y")
		checkAddable(t, g, 0, alphabet)
	})
}

func TestImportChanges(t *testing.T) {
	cases := []struct {
		why, text string
		s         int
		name      string
		want      string
	}{
		{"one that hides what is around", "-,x,m=1;0,x;0,?x", 2, "m", "2.0"},
		{"for all scopes within", "-,x,m=1;0,x;0,?x;2,?x,!x;3,x,?x,!x", 2, "m", "2.0 3.0 3.1"},
		{"not for those around and beside", "-,x,m=1,?x;0,x,?x;0,?x;0,?x", 2, "m", "2.0"},
		{"not what the scope declares itself", "-,m=1;0,x;0,x,?x", 2, "m", "-"},
		{"nor what is declared on the way", "-,x,m=1;0,x;0;2,x,?x", 2, "m", "-"},
		{"what was missing", "-,m=1;0,x;0,?x,!x;2,!x", 2, "m", "2.0 3.0"},
		{"an import goes on at the parent", "-,n=1;0,m=2;1,x;0,!m,?x", 3, "n", "-"},
		{"and then brings in what one around it found", "-,n=1;0,m=2;1,x;0;3,!m,?x", 3, "n", "4.0 4.1"},
		{"and then another one", "-,x,n=1,m=2;0,m=3;0,x;1,x;0;4,!m,?x", 4, "n", "5.0 5.1"},
		{"or nothing more", "-,n=1,m=2;0,m;0,x;0;3,!m,?x", 3, "n", "4.0 4.1"},
		{"besides one that has the name too", "-,m=1,n=2;0,x;0,x;0,!m,?x", 3, "n", "3.1"},
		{"besides one that has other names", "-,m=1,n=2;0,x;0,y;0,!m,?x", 3, "n", "-"},
		{"the same one again", "-,m=1;0,x;0,!m,?x", 2, "m", "-"},
		{"the same one again, which is no more the last one", "-,m=1,n=2;0,x;0,x;0,!m,!n,?x", 3, "m", "-"},
		{"the module in itself", "-,m=1;0,x,?x,?m", 1, "m", "-"},
		{"the scope in which it is declared", "-,x,m=1,?x,?y;0,x,y", 0, "m", "0.3"},
		{"one without items", "-,x,m=1;0;0,?x", 2, "m", "-"},
		{"one that is missing", "-,x;0,?x", 1, "m", "-"},
		{"one of no module", "-,x,m;0,?x", 1, "m", "-"},
		{"one of several", "-,x,m=1,m;0,x;0,?x", 2, "m", "-"},
		{"a module that cannot be seen", "-,x;0,m=2;1,x;0,?x", 3, "m", "-"},
		{"one that is found by another import", "-,m=1;0,n=2;1,x;0,!m;3,?x", 4, "n", "4.0"},
		{"but not in the same scope", "-,m=1;0,n=2;1,x;0,!m,?x", 3, "n", "-"},
		{"not what the imported scope imports", "-,x,m=1;0,n=2,!n;1,x;0,?x", 3, "m", "-"},
		{"the name that it imports", "-,m=1;0,m;0,?m", 2, "m", "2.0"},
		{"full scopes in order", "-,m=1,x;0,x,y;0,?y,?x,!x,?x;2,!x,!y,?x,?y,?z;3,?x,?x,?x,?x,?y", 2, "m", "2.0 2.1 2.3 3.0 3.1 3.2 3.3 4.0 4.1 4.2 4.3 4.4"},
	}
	for _, c := range cases {
		t.Run(c.why, func(t *testing.T) { checkImportChanges(t, parse(t, c.text), c.s, c.name, c.want) })
	}
}

func TestMoveItem(t *testing.T) {
	cases := []struct {
		why, text, p string
		s            int
		want         string
		can          bool
	}{
		{"a reference in the script of the document", "-,q,a=1,?q;0,a;0,!a,?b,?a", "0.2", 2, "-,q,a=1;0,a;0,!a,?b,?a,?q", true},
		{"a declaration that nobody means", "-,x;0", "0.0", 1, "-;0,x", true},
		{"a reference that means nothing", "-,?x;0", "0.0", 1, "-;0,?x", true},
		{"an import that means nothing", "-,!x;0", "0.0", 1, "-;0,!x", true},
		{"behind all items", "-,x,?x;0,y,?y,!y", "0.0", 1, "-,?x;0,y,?y,!y,x", false},
		{"from between others", "-,a,b,c,d,e;0", "0.2", 1, "-,a,b,d,e;0,c", true},
		{"the fifth item", "-,a,b,c,d,e;0,f,g,h,i", "0.4", 1, "-,a,b,c,d;0,f,g,h,i,e", true},
		{"one of several that are the same", "-,?x,x,?x;0", "0.2", 1, "-,?x,x;0,?x", true},
		{"outwards", "-,a;0,?a;1,x,?x", "2.0", 0, "-,a,x;0,?a;1,?x", true},
		{"beside", "-;0,x;0,?y", "1.0", 2, "-;0;0,?y,x", true},
		{"to the last scope", "-,x;0;1;2;3;4", "0.0", 5, "-;0;1;2;3;4,x", true},
		{"the modules stay", "-,m=1,x;0,n=3;0;1", "0.1", 3, "-,m=1;0,n=3;0;1,x", true},
		{"a declaration to the only reference", "-,x;0,?x", "0.0", 1, "-;0,?x,x", true},
		{"a declaration from one of its references", "-,x,?x;0,?x", "0.0", 1, "-,?x;0,?x,x", false},
		{"a declaration out of a block", "-,?y;0,x,?x;1,?x", "1.0", 0, "-,?y,x;0,?x;1,?x", true},
		{"a declaration out to one that it captures", "-,?x;0,x,?x", "1.0", 0, "-,?x,x;0,?x", false},
		{"a declaration that captures what meant another one", "-,x,y;0,?x;0,x", "2.0", 1, "-,x,y;0,?x,x;0", false},
		{"a declaration out beside one of the same name", "-,x;0,x,?x", "1.0", 0, "-,x,x;0,?x", false},
		{"a declaration that hid another one", "-,x;0,x,?x;0", "1.0", 2, "-,x;0,?x;0,x", false},
		{"a declaration under one that hides it", "-,y,?y;0,x,?x;1,x", "2.0", 1, "-,y,?y;0,x,?x,x;1", false},
		{"one of two that are meant with each other", "-,x,x,?x;0", "0.0", 1, "-,x,?x;0,x", false},
		{"both stay meant, in another order", "-,m=1,n=2;0,x;0,x;0,!m,!n,?x", "1.0", 2, "-,m=1,n=2;0;0,x,x;0,!m,!n,?x", false},
		{"both stay meant, in the same order", "-,m=1,n=2;0,x;0,x;0,!m,!n,?x", "2.0", 1, "-,m=1,n=2;0,x,x;0;0,!m,!n,?x", true},
		{"both stay meant, in the order of the imports", "-,m=1,n=2;0,x;0,x;0,!n,!m,?x", "1.0", 2, "-,m=1,n=2;0;0,x,x;0,!n,!m,?x", true},
		{"a declaration into a module that is imported", "-,m=1,x;0;0,!m,?x", "0.1", 1, "-,m=1;0,x;0,!m,?x", true},
		{"a declaration out of one", "-,m=1;0,x;0,!m,?x", "1.0", 0, "-,m=1,x;0;0,!m,?x", true},
		{"a declaration into a module that not all import", "-,m=1,x,?x;0;0,!m,?x", "0.1", 1, "-,m=1,?x;0,x;0,!m,?x", false},
		{"others have one index less then", "-,a,x,?x,m=1;0,y;0,!m,?y,?x", "0.0", 2, "-,x,?x,m=1;0,y;0,!m,?y,?x,a", true},
		{"and would be another one by their old places", "-,x,x;0,?y", "0.0", 1, "-,x;0,?y,x", true},
		{"the one that takes its place", "-,y,x;0,x,?x", "0.0", 1, "-,x;0,x,?x,y", true},
		{"a reference inwards", "-,x,?x;0", "0.1", 1, "-,x;0,?x", true},
		{"a reference to where it is captured", "-,x,?x;0,x", "0.1", 1, "-,x;0,x,?x", false},
		{"a reference to an import that hides", "-,m=1,x,?x;0,x;0,!m", "0.2", 2, "-,m=1,x;0,x;0,!m,?x", false},
		{"a reference from an import that is needed", "-,m=1;0,x;0,!m,?x", "2.1", 0, "-,m=1,?x;0,x;0,!m", false},
		{"a reference into the imported scope", "-,m=1;0,x;0,!m,?x", "2.1", 1, "-,m=1;0,x,?x;0,!m", true},
		{"a reference that means nothing to one that it means then", "-,?x;0,x", "0.0", 1, "-;0,x,?x", false},
		{"a reference that means several inwards", "-,x,x,?x;0", "0.2", 1, "-,x,x;0,?x", true},
		{"an import inwards, to the only one that needs it", "-,m=1;0,x;0,!m;2,?x", "2.0", 3, "-,m=1;0,x;0;2,?x,!m", true},
		{"an import from one that needs it", "-,m=1;0,x;0,!m,?x;2", "2.0", 3, "-,m=1;0,x;0,?x;2,!m", false},
		{"an import outwards", "-,m=1,x;0,y;0,!m,?y", "2.0", 0, "-,m=1,x,!m;0,y;0,?y", true},
		{"an import outwards to one that it captures", "-,m=1,?x;0,x;0,!m,?x", "2.0", 0, "-,m=1,?x,!m;0,x;0,?x", false},
		{"an import outwards, where others hide its names", "-,m=1,x;0,x;0,!m,?x", "2.0", 0, "-,m=1,x,!m;0,x;0,?x", false},
		{"an import to where it means something else", "-,m=1;0,m;0,!m", "2.0", 1, "-,m=1;0,m,!m;0", false},
		{"an import out of where it means something", "-;0,m=2,!m;1,x", "1.1", 0, "-,!m;0,m=2;1,x", false},
		{"an import from between others, whose order counts", "-,m=1,n=2,?x;0,x;0,x;0,!m,!n;3,?x", "3.0", 4, "-,m=1,n=2,?x;0,x;0,x;0,!n;3,?x,!m", false},
		{"an import that is there twice", "-,m=1;0,x;0,!m,!m,?x;0", "2.0", 3, "-,m=1;0,x;0,!m,?x;0,!m", true},
		{"an import of no module", "-,x,!x;0", "0.1", 1, "-,x;0,!x", true},
		{"a declaration named by an import", "-,x,!x;0", "0.0", 1, "-,!x;0,x", false},
		{"a declaration beside a module of its name", "-,m=1;0,m;0,!m", "1.0", 0, "-,m=1,m;0;0,!m", false},
	}
	for _, c := range cases {
		t.Run(c.why, func(t *testing.T) { checkMoved(t, parse(t, c.text), place(t, c.p), c.s, c.want, c.can) })
	}
}

// TestNothingAdded goes through names, scopes and graphs that are none, and through full scopes.
func TestNothingAdded(t *testing.T) {
	for _, c := range validGraphs {
		size := len(c.graph.Scopes)
		for _, s := range append([]int{size}, noScopes...) {
			if s < 0 || s >= size {
				checkNothingAdded(t, c.graph, s, "x")
				checkNothingAdded(t, c.graph, s, "")
				checkNoneAddable(t, c.graph, s)
			}
		}
		for s, scope := range c.graph.Scopes {
			for _, name := range noNames {
				checkNothingAdded(t, c.graph, s, name)
			}
			if len(scope.Items) == impl.MaxItems {
				checkNothingAdded(t, c.graph, s, "x")
				checkNoneAddable(t, c.graph, s)
			}
		}
	}
	for _, text := range []string{"-,a,b,c,d,e", "-,?a,?b,?c,?d,?e;0", "-,!a,!a,!a,!a,!a;0,b"} {
		for _, r := range alphabet {
			checkNothingAdded(t, parse(t, text), 0, string(r))
		}
		checkNoneAddable(t, parse(t, text), 0)
	}
}

// TestNothingMoved goes through places and scopes that are none, own scopes, modules and full scopes.
func TestNothingMoved(t *testing.T) {
	for _, c := range validGraphs {
		size := len(c.graph.Scopes)
		for s, scope := range c.graph.Scopes {
			for i, x := range scope.Items {
				p := impl.Place{Scope: s, Index: i}
				checkNotMoved(t, c.graph, p, s)
				for _, to := range append([]int{size}, noScopes...) {
					if to < 0 || to >= size || x.Scope != -1 {
						checkNotMoved(t, c.graph, p, to)
					}
				}
				for to, other := range c.graph.Scopes {
					if x.Scope != -1 || len(other.Items) == impl.MaxItems {
						checkNotMoved(t, c.graph, p, to)
					}
				}
			}
			for _, i := range []int{-1, -2, len(scope.Items), impl.MaxItems, math.MaxInt, math.MinInt} {
				for to := range c.graph.Scopes {
					checkNotMoved(t, c.graph, impl.Place{Scope: s, Index: i}, to)
				}
			}
		}
		for _, s := range append([]int{size}, noScopes...) {
			for to := range c.graph.Scopes {
				if s < 0 || s >= size {
					checkNotMoved(t, c.graph, impl.Place{Scope: s}, to)
				}
			}
			checkNotMoved(t, c.graph, impl.Place{Scope: s, Index: impl.MaxItems}, s)
		}
	}
	full := parse(t, "-,x,?x,!y,m=2;0,a,b,c,d,e;0")
	for i := range 3 {
		checkNotMoved(t, full, impl.Place{Index: i}, 1)
	}
	// A module could stand nowhere but in the parent of its scope, not even around this.
	modules := parse(t, "-;0,m=3;0;1,n=4;3")
	for s := range modules.Scopes {
		checkNotMoved(t, modules, impl.Place{Scope: 1}, s)
		checkNotMoved(t, modules, impl.Place{Scope: 3}, s)
	}
}

func TestAddingToInvalidGraphs(t *testing.T) {
	for what, g := range invalidGraphs {
		t.Run(what, func(t *testing.T) {
			for s := -1; s <= impl.MaxScopes+1; s++ {
				checkNothingAdded(t, g, s, "q")
				checkNothingAdded(t, g, s, "x")
				checkNothingAdded(t, g, s, "")
				checkNoneAddable(t, g, s)
				for from := -1; from <= impl.MaxScopes+1; from++ {
					for i := -1; i <= impl.MaxItems+1; i++ {
						checkNotMoved(t, g, impl.Place{Scope: from, Index: i}, s)
					}
				}
			}
		})
	}
}

// newPlace tells an item that stood nowhere before.
var newPlace = impl.Place{Scope: -1, Index: -1}

// plus puts an item behind all others of a scope, told by where it stood.
func (r rest) plus(s int, x impl.Item, stood impl.Place) rest {
	var more rest
	for i, scope := range r.graph.Scopes {
		items, places := slices.Clone(scope.Items), slices.Clone(r.stood[i])
		if i == s {
			items, places = append(items, x), append(places, stood)
		}
		more.graph.Scopes = append(more.graph.Scopes, impl.Scope{Parent: scope.Parent, Items: items})
		more.stood = append(more.stood, places)
	}
	return more
}

// countAdded counts what the items show that a declaration or an import more changes.
func countAdded(r rest, x impl.Item, s int, changed []impl.Place, counts map[string]int) {
	what := "are captured"
	if x.Kind == impl.ItemImports {
		what = "are changed by an import"
	}
	within, _ := impl.WithinOf(r.graph, s)
	for _, p := range changed {
		counts[what]++
		if !slices.Contains(within, p.Scope) {
			counts[what+" from elsewhere"]++
		}
		if r.graph.Scopes[p.Scope].Items[p.Index].Name != x.Name {
			counts[what+" by their imports"]++
		}
	}
	if len(changed) == 0 {
		counts["can be added"]++
	}
}

// checkAddingModel compares what declarations and imports more give, and what these change, with the model.
func checkAddingModel(t *testing.T, r rest, means map[impl.Place][]impl.Place, counts map[string]int) {
	t.Helper()
	for s, scope := range r.graph.Scopes {
		if len(scope.Items) == impl.MaxItems {
			checkNothingAdded(t, r.graph, s, "x")
			checkNoneAddable(t, r.graph, s)
			continue
		}
		capturing := ""
		for _, letter := range modelNames {
			name := string(letter)
			for _, x := range []impl.Item{declares(name), imports(name)} {
				more := r.plus(s, x, newPlace)
				changed := r.differences(means, more.meanings())
				countAdded(r, x, s, changed, counts)
				if x.Kind == impl.ItemImports {
					checkImportAdded(t, r.graph, s, name, impl.FormatGraph(more.graph))
					checkImportChanges(t, r.graph, s, name, impl.FormatPlaces(changed))
					continue
				}
				checkAdded(t, r.graph, s, name, impl.FormatGraph(more.graph), placeText(impl.Place{Scope: s, Index: len(scope.Items)}))
				checkCaptured(t, r.graph, s, name, impl.FormatPlaces(changed))
				if len(changed) > 0 {
					capturing += name
				}
			}
		}
		checkAddable(t, r.graph, s, capturing)
	}
}

// checkMovingModel compares where each item can stand in other scopes with the model.
func checkMovingModel(t *testing.T, r rest, means map[impl.Place][]impl.Place, counts map[string]int) {
	t.Helper()
	kinds := map[int]string{impl.ItemDeclares: "declarations", impl.ItemRefers: "references", impl.ItemImports: "imports"}
	for from, scope := range r.graph.Scopes {
		for i, x := range scope.Items {
			p := impl.Place{Scope: from, Index: i}
			for s, other := range r.graph.Scopes {
				if x.Scope != -1 || s == from || len(other.Items) == impl.MaxItems {
					checkNotMoved(t, r.graph, p, s)
					continue
				}
				moved := r.without(p).plus(s, x, p)
				can := len(r.differences(means, moved.meanings())) == 0
				checkMoved(t, r.graph, p, s, impl.FormatGraph(moved.graph), can)
				what := kinds[x.Kind] + " that cannot be moved"
				if can {
					what = kinds[x.Kind] + " that can be moved"
				}
				counts[what]++
			}
		}
	}
}

// TestAllSmallAdding goes through a module m beside a scope, with at most one of four items ahead of it, and all lists of at most two of them in each of these scopes.
func TestAllSmallAdding(t *testing.T) {
	t.Parallel()
	items := []impl.Item{declares("m"), declares("x"), refers("x"), imports("m")}
	lists := itemLists(items, 2)
	counts := map[string]int{}
	for _, first := range itemLists(items, 1) {
		for _, second := range lists {
			for _, third := range lists {
				r := wholeRest(graph(scope(-1, append(slices.Clone(first), module("m", 1))...), scope(0, second...), scope(0, third...)))
				means := r.meanings()
				checkAddingModel(t, r, means, counts)
				checkMovingModel(t, r, means, counts)
				stopIfFailed(t)
			}
		}
	}
}

// TestManyAddings goes through graphs of all sizes, and counts what they show, so that the test is known to see it.
func TestManyAddings(t *testing.T) {
	t.Parallel()
	maker := &graphMaker{}
	counts := map[string]int{}
	for i := range 1500 {
		r := wholeRest(maker.users(i))
		means := r.meanings()
		checkAddingModel(t, r, means, counts)
		checkMovingModel(t, r, means, counts)
		stopIfFailed(t)
	}
	for _, what := range []string{"are captured", "are captured from elsewhere", "are captured by their imports", "are changed by an import", "are changed by an import by their imports", "can be added", "declarations that can be moved", "declarations that cannot be moved", "references that can be moved", "references that cannot be moved", "imports that can be moved", "imports that cannot be moved"} {
		if counts[what] < 50 {
			t.Errorf("only %d %s", counts[what], what)
		}
	}
	// An import is looked up from within its own scope alone.
	if counts["are changed by an import from elsewhere"] > 0 {
		t.Errorf("an import changes what is looked up from elsewhere")
	}
}

// reaches reports whether what is looked up from a scope comes by another one, ahead of which nothing is found: either it lies within this one or imports it on the way.
func reaches(g impl.Graph, from int, s int, name string) bool {
	chain, _ := impl.ChainOf(g, from)
	for _, around := range chain {
		own, _ := impl.OwnOf(g, around, name)
		imported, _ := impl.ImportedOf(g, around, name)
		scopes, _ := impl.ImportedScopes(g, around)
		switch {
		case around == s:
			return true
		case len(own) > 0:
			return false
		case slices.Contains(scopes, s):
			return true
		case len(imported) > 0:
			return false
		}
	}
	return false
}

// TestWhatIsAddedCaptures checks the promise by itself: a declaration of a name that no import has captures just those references of this name that come by its scope.
func TestWhatIsAddedCaptures(t *testing.T) {
	maker := &graphMaker{}
	captured, others := 0, 0
	for i := range 4000 {
		g := maker.users(i)
		imported, _ := impl.PlacesOf(g, impl.ItemImports)
		if slices.ContainsFunc(imported, func(p impl.Place) bool { return g.Scopes[p.Scope].Items[p.Index].Name == "x" }) {
			continue
		}
		references, _ := impl.PlacesOf(g, impl.ItemRefers)
		for s, scope := range g.Scopes {
			if len(scope.Items) == impl.MaxItems {
				continue
			}
			var want []impl.Place
			for _, p := range references {
				if g.Scopes[p.Scope].Items[p.Index].Name == "x" && reaches(g, p.Scope, s, "x") {
					want = append(want, p)
				}
			}
			checkCaptured(t, g, s, "x", impl.FormatPlaces(want))
			stopIfFailed(t)
			captured += len(want)
			others += len(references) - len(want)
		}
	}
	if captured < 1000 || others < 1000 {
		t.Errorf("only %d references are captured, and %d are not", captured, others)
	}
}

// TestAddedAndRemoved checks that a declaration that is added and removed again leaves the graph as it was, and changes the same items both times, all that mean it among them.
func TestAddedAndRemoved(t *testing.T) {
	maker := &graphMaker{}
	for i := range 1500 {
		g := maker.users(i)
		for s := range g.Scopes {
			h, p, ok := impl.AddDeclaration(g, s, "m")
			if !ok {
				continue
			}
			captured, _ := impl.CapturedBy(g, s, "m")
			for from, scope := range g.Scopes {
				for j := range scope.Items {
					q := impl.Place{Scope: from, Index: j}
					if means, _ := impl.ResolveItem(h, q); slices.Contains(means, p) && !slices.Contains(captured, q) {
						t.Fatalf("in %q, %v means %v, and is not captured by it", impl.FormatGraph(h), q, p)
					}
				}
			}
			rest, ok := impl.RemoveItem(h, p)
			if !ok || !sameGraph(rest, g) {
				t.Fatalf("%q without %v is %q, and not %q", impl.FormatGraph(h), p, impl.FormatGraph(rest), impl.FormatGraph(g))
			}
			if changed, _ := impl.ChangedBy(h, p); !slices.Equal(changed, captured) {
				t.Fatalf("in %q, %v captures %v, and changes %v", impl.FormatGraph(h), p, captured, changed)
			}
		}
	}
}

// TestMovedBack checks that the last item of a scope, once moved elsewhere and back, leaves the graph as it was, and can go back where it could come from.
func TestMovedBack(t *testing.T) {
	maker := &graphMaker{}
	moved := 0
	for i := range 1500 {
		g := maker.users(i)
		for from, scope := range g.Scopes {
			last := impl.Place{Scope: from, Index: len(scope.Items) - 1}
			for s, other := range g.Scopes {
				h, ok := impl.MoveItem(g, last, s)
				if !ok {
					continue
				}
				moved++
				end := impl.Place{Scope: s, Index: len(other.Items)}
				if back, ok := impl.MoveItem(h, end, from); !ok || !sameGraph(back, g) {
					t.Fatalf("%q became %q, and %q", impl.FormatGraph(g), impl.FormatGraph(h), impl.FormatGraph(back))
				}
				if impl.CanMove(g, last, s) != impl.CanMove(h, end, from) {
					t.Fatalf("%q can become %q, but not the other way round, or not this way", impl.FormatGraph(g), impl.FormatGraph(h))
				}
			}
		}
	}
	if moved < 1000 {
		t.Errorf("only %d items are moved", moved)
	}
}

// watched returns a graph, and a function that checks that it is as it was, the memory behind its scopes and items included.
func watched(t *testing.T) (impl.Graph, func()) {
	build := func() ([]impl.Item, []impl.Item, []impl.Scope) {
		items := []impl.Item{module("m", 1), declares("x"), imports("m"), refers("spare")}
		more := []impl.Item{declares("y"), refers("m"), imports("x"), refers("spare"), refers("spare")}
		return items, more, []impl.Scope{{Parent: -1, Items: items[:3]}, {Parent: 0, Items: more[:3]}, {Parent: 7}}
	}
	items, more, scopes := build()
	return impl.Graph{Scopes: scopes[:2]}, func() {
		t.Helper()
		wantItems, wantMore, wantScopes := build()
		if !reflect.DeepEqual(items, wantItems) || !reflect.DeepEqual(more, wantMore) || !reflect.DeepEqual(scopes, wantScopes) {
			t.Errorf("items became %v and %v, scopes %v", items, more, scopes)
		}
	}
}

// TestAddingStays checks that no function of the chapter changes a graph, or the memory behind its scopes and items.
func TestAddingStays(t *testing.T) {
	g, check := watched(t)
	for s := -1; s < 3; s++ {
		for _, name := range []string{"m", "x", "y", ""} {
			impl.AddDeclaration(g, s, name)
			impl.CapturedBy(g, s, name)
			impl.CanAdd(g, s, name)
			impl.AddImport(g, s, name)
			impl.ImportChanges(g, s, name)
		}
		impl.AddableNames(g, s)
		for from := -1; from < 3; from++ {
			for i := -1; i < 4; i++ {
				impl.MoveItem(g, impl.Place{Scope: from, Index: i}, s)
				impl.CanMove(g, impl.Place{Scope: from, Index: i}, s)
			}
		}
	}
	check()
}

// roomy returns a graph of which each list of items has unused capacity.
func roomy(t *testing.T, text string) impl.Graph {
	t.Helper()
	g := parse(t, text)
	for s := range g.Scopes {
		g.Scopes[s].Items = append(make([]impl.Item, 0, 2*impl.MaxItems), g.Scopes[s].Items...)
	}
	return g
}

// TestGrownGraphsAreNew checks that graphs share no memory, even where there was unused capacity for what is added.
func TestGrownGraphsAreNew(t *testing.T) {
	for _, text := range []string{"-,x,?x,m=1;0,x,?x;0,!m,?x", "-,x,y,?x;0;1", "-,x,?x;0,?x"} {
		for _, s := range []int{0, 1} {
			for _, name := range []string{"x", "m"} {
				checkNewGraph(t, "AddDeclaration "+name, roomy(t, text), func(g impl.Graph) (impl.Graph, bool) {
					h, _, ok := impl.AddDeclaration(g, s, name)
					return h, ok
				})
				checkNewGraph(t, "AddImport "+name, roomy(t, text), func(g impl.Graph) (impl.Graph, bool) { return impl.AddImport(g, s, name) })
			}
		}
		for _, p := range []impl.Place{{}, {Index: 1}} {
			checkNewGraph(t, "MoveItem "+placeText(p), roomy(t, text), func(g impl.Graph) (impl.Graph, bool) { return impl.MoveItem(g, p, 1) })
		}
	}
}

// TestCapturedListsAreNew checks that lists share no memory, their unused capacity included.
func TestCapturedListsAreNew(t *testing.T) {
	g := parse(t, "-,m=1,x,y,?x;0,x,?x,?x;0,?x,?x,?x")
	places := map[string]func() []impl.Place{
		"CapturedBy":    func() []impl.Place { list, _ := impl.CapturedBy(g, 0, "x"); return list },
		"ImportChanges": func() []impl.Place { list, _ := impl.ImportChanges(g, 2, "m"); return list },
	}
	for what, f := range places {
		checkNew(t, what, f, impl.Place{Scope: 9, Index: 9})
	}
}

// TestAddedNameIsShort checks that a name that is a part of a long text is taken as any other one.
func TestAddedNameIsShort(t *testing.T) {
	text := strings.Repeat("xyz", 1000)
	checkAdded(t, parse(t, "-,x"), 0, text[1:2], "-,x,y", "0.1")
	checkNothingAdded(t, parse(t, "-,x"), 0, text)
}
