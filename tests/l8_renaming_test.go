package tests

import (
	"math"
	"slices"
	"strings"
	"testing"

	"loop.example/scopegraphs/impl"
)

// checkRenamed compares the graph with another name, and the items that mean something else then, with what they must be.
func checkRenamed(t *testing.T, g impl.Graph, p impl.Place, name string, want string, changes string) {
	t.Helper()
	if h, ok := impl.RenameAt(g, p, name); !ok || impl.FormatGraph(h) != want {
		t.Errorf("RenameAt(%q, %v, %q) = %q, %v, want %q", impl.FormatGraph(g), p, name, impl.FormatGraph(h), ok, want)
	}
	if list, ok := impl.RenameChanges(g, p, name); !ok || impl.FormatPlaces(list) != changes {
		t.Errorf("RenameChanges(%q, %v, %q) = %v, %v, want %s", impl.FormatGraph(g), p, name, list, ok, changes)
	}
	if can := impl.CanRename(g, p, name); can != (changes == "-") {
		t.Errorf("CanRename(%q, %v, %q) = %v", impl.FormatGraph(g), p, name, can)
	}
}

// checkGood compares the names that a declaration can have with all but some.
func checkGood(t *testing.T, g impl.Graph, p impl.Place, but string) {
	t.Helper()
	if names, ok := impl.GoodNames(g, p); !ok || names != without(but) {
		t.Errorf("GoodNames(%q, %v) = %q, %v, want %q", impl.FormatGraph(g), p, names, ok, without(but))
	}
}

// checkSwapped compares the graph with two names exchanged, in either order of them.
func checkSwapped(t *testing.T, g impl.Graph, a string, b string, want string) {
	t.Helper()
	for _, pair := range [][2]string{{a, b}, {b, a}} {
		h, ok := impl.SwapNames(g, pair[0], pair[1])
		if !ok || impl.FormatGraph(h) != want {
			t.Errorf("SwapNames(%q, %q, %q) = %q, %v, want %q", impl.FormatGraph(g), pair[0], pair[1], impl.FormatGraph(h), ok, want)
		}
	}
}

// checkSame compares whether two graphs have the same shape and the same table with what must be, in either order of them.
func checkSame(t *testing.T, g impl.Graph, h impl.Graph, shape bool, table bool) {
	t.Helper()
	for _, pair := range [][2]impl.Graph{{g, h}, {h, g}} {
		if same := impl.SameShape(pair[0], pair[1]); same != shape {
			t.Errorf("SameShape(%v, %v) = %v", pair[0], pair[1], same)
		}
		if same := impl.SameTable(pair[0], pair[1]); same != table {
			t.Errorf("SameTable(%v, %v) = %v", pair[0], pair[1], same)
		}
	}
}

// checkNotRenamed checks that nothing is renamed.
func checkNotRenamed(t *testing.T, g impl.Graph, p impl.Place, name string) {
	t.Helper()
	if h, ok := impl.RenameAt(g, p, name); ok || len(h.Scopes) != 0 {
		t.Errorf("RenameAt(%v, %v, %q) = %v, %v", g, p, name, h, ok)
	}
	if list, ok := impl.RenameChanges(g, p, name); ok || len(list) != 0 {
		t.Errorf("RenameChanges(%v, %v, %q) = %v, %v", g, p, name, list, ok)
	}
	if impl.CanRename(g, p, name) {
		t.Errorf("CanRename(%v, %v, %q) is true", g, p, name)
	}
}

// checkNoneGood checks that there are no names to be told.
func checkNoneGood(t *testing.T, g impl.Graph, p impl.Place) {
	t.Helper()
	if names, ok := impl.GoodNames(g, p); ok || names != "" {
		t.Errorf("GoodNames(%v, %v) = %q, %v", g, p, names, ok)
	}
}

// checkNotSwapped checks that no names are exchanged, in either order of them.
func checkNotSwapped(t *testing.T, g impl.Graph, a string, b string) {
	t.Helper()
	for _, pair := range [][2]string{{a, b}, {b, a}} {
		if h, ok := impl.SwapNames(g, pair[0], pair[1]); ok || len(h.Scopes) != 0 {
			t.Errorf("SwapNames(%v, %q, %q) = %v, %v", g, pair[0], pair[1], h, ok)
		}
	}
}

func TestRenameAt(t *testing.T) {
	cases := []struct {
		why, text, p, name string
		want, changes      string
	}{
		{"the script of the document", "-,b,a=1,?b;0,b,a;0,!a,?b,?a", "0.0", "q", "-,q,a=1,?q;0,b,a;0,!a,?b,?a", "-"},
		{"a bad one in the script of the document", "-,x,m=1,?x;0,y,x;0,!m,?y,?x", "1.1", "y", "-,x,m=1,?x;0,y,y;0,!m,?y,?y", "2.1 2.2"},
		{"the example of the document", "-,x,y;0,?x,?y", "0.0", "y", "-,y,y;0,?y,?y", "1.0 1.1"},
		{"no users", "-,x", "0.0", "y", "-,y", "-"},
		{"no users, beside one that has the name", "-,x,y,?y", "0.0", "z", "-,z,y,?y", "-"},
		{"references and imports", "-,x,?x,!x;0,?x,!x;1,?x,!x", "0.0", "y", "-,y,?y,!y;0,?y,!y;1,?y,!y", "-"},
		{"references ahead of the declaration", "-,?x,!x,x", "0.2", "y", "-,?y,!y,y", "-"},
		{"not what means another one of the name", "-,x,?x;0,x,?x;1,?x;0,?x", "0.0", "y", "-,y,?y;0,x,?x;1,?x;0,?y", "-"},
		{"nor the other way round", "-,x,?x;0,x,?x;1,?x;0,?x", "1.0", "y", "-,x,?x;0,y,?y;1,?y;0,?x", "-"},
		{"not what is missing", "-,?x;0,x,?x", "1.0", "y", "-,?x;0,y,?y", "-"},
		{"by an import", "-,m=1;0,x;0,!m,?x;2,?x", "1.0", "y", "-,m=1;0,y;0,!m,?y;2,?y", "-"},
		{"a module", "-,x,m=1;0,y;0,!m,?y,?m", "0.1", "n", "-,x,n=1;0,y;0,!n,?y,?n", "-"},
		{"a module in a module", "-,m=1;0,n=2;1,x;0,!m;3,!n,?x", "1.0", "q", "-,m=1;0,q=2;1,x;0,!m;3,!q,?x", "-"},
		{"a module that imports itself", "-,m=1;0,!m,?m,x,?x", "0.0", "n", "-,n=1;0,!n,?n,x,?x", "-"},
		{"the name of its module", "-,m=1;0,x;0,!m,?x,?m", "1.0", "m", "-,m=1;0,m;0,!m,?m,?m", "2.2"},
		{"the first name", "-,z,?z", "0.0", "a", "-,a,?a", "-"},
		{"the last name", "-,a,?a", "0.0", "z", "-,z,?z", "-"},

		{"its own name", "-,x,?x,y,?y", "0.0", "x", "-,x,?x,y,?y", "-"},
		{"its own name, without users", "-,x", "0.0", "x", "-,x", "-"},
		{"its own name, which others hide", "-,x,?x;0,x,?x", "0.0", "x", "-,x,?x;0,x,?x", "-"},
		{"its own name, which two have", "-,x,x,?x", "0.1", "x", "-,x,x,?x", "-"},
		{"its own name, as a module", "-,m=1;0,x;0,!m,?x", "0.0", "m", "-,m=1;0,x;0,!m,?x", "-"},

		{"a name of an inner one, where nobody means this", "-,x,?x;0,y,?y", "0.0", "y", "-,y,?y;0,y,?y", "-"},
		{"a name of an inner one that captures", "-,x;0,y,?x", "0.0", "y", "-,y;0,y,?y", "1.1"},
		{"a name of one around that is meant from here", "-,x;0,y,?x", "1.0", "x", "-,x;0,x,?x", "1.1"},
		{"a name of one around that is not meant from here", "-,x,?x;0,y,?y", "1.0", "x", "-,x,?x;0,x,?x", "-"},
		{"a name of one beside", "-;0,x,?x;0,y,?y", "1.0", "y", "-;0,y,?y;0,y,?y", "-"},
		{"a name of one in the same scope that nobody means", "-,x,y", "0.0", "y", "-,y,y", "-"},
		{"and that is not meant, but this", "-,x,y,?x", "0.0", "y", "-,y,y,?y", "0.2"},
		{"and that is meant, but not this", "-,x,y,?y", "0.0", "y", "-,y,y,?y", "0.2"},
		{"a name that something missing has", "-,x,?y,!y;0,?y", "0.0", "y", "-,y,?y,!y;0,?y", "0.1 0.2 1.0"},
		{"a name that something missing around has", "-,?y;0,x", "1.0", "y", "-,?y;0,y", "-"},
		{"a name that something missing in an importing scope has", "-,m=1;0,x;0,!m,?y", "1.0", "y", "-,m=1;0,y;0,!m,?y", "2.1"},
		{"a name of what the imports hide", "-,x,m=1;0,y;0,!m,?x", "1.0", "x", "-,x,m=1;0,x;0,!m,?x", "2.1"},
		{"a name of what hides the imports", "-,m=1;0,y;0,x,!m,?x", "1.0", "x", "-,m=1;0,x;0,x,!m,?x", "-"},
		{"a name of what hides the imports, and users", "-,m=1;0,y;0,x,!m,?y", "1.0", "x", "-,m=1;0,x;0,x,!m,?x", "2.2"},
		{"a name that another imported scope has", "-,m=1,n=2;0,x;0,y;0,!m,!n,?x,?y", "2.0", "x", "-,m=1,n=2;0,x;0,x;0,!m,!n,?x,?x", "3.2 3.3"},
		{"a name of another module", "-,m=1,n=2;0,x;0,y;0,!m,?x;0,!n,?y", "0.0", "n", "-,n=1,n=2;0,x;0,y;0,!n,?x;0,!n,?y", "3.0 3.1 4.0 4.1"},
		{"a name by which an import finds", "-,m=1;0,x;0,!n,?x", "0.0", "n", "-,n=1;0,x;0,!n,?x", "2.0 2.1"},
		{"a name that captures an import", "-,m=1;0,x;0,n,!m,?x", "0.0", "n", "-,n=1;0,x;0,n,!n,?x", "2.1 2.2"},
		{"a name of an import, in its scope", "-,m=1;0,x;0,n,!m,?x", "2.0", "m", "-,m=1;0,x;0,m,!m,?x", "2.1 2.2"},
		{"a name of an import, in the scope around", "-,m=1,n;0,x;0,!m,?x", "0.1", "m", "-,m=1,m;0,x;0,!m,?x", "2.0 2.1"},
		{"a module to a name of its own declaration", "-,m=1;0,x,?m;0,!m,?x", "0.0", "x", "-,x=1;0,x,?x;0,!x,?x", "1.1"},

		{"one of two that are meant together", "-,x,x,?x,!x", "0.0", "z", "-,z,x,?x,!x", "0.2 0.3"},
		{"the other one of the two", "-,x,x,?x;0,?x", "0.1", "z", "-,x,z,?x;0,?x", "0.2 1.0"},
		{"one of three", "-,x,?x,x,x", "0.2", "z", "-,x,?x,z,x", "0.1"},
		{"one of two to the name of a third one", "-,x,x,?x,y,?y", "0.0", "y", "-,y,x,?x,y,?y", "0.2 0.4"},
		{"one of two that nobody means", "-,x,x;0,x,?x", "0.0", "z", "-,z,x;0,x,?x", "-"},
		{"alone from one scope and together from another", "-,m=1,n=2;0,x,?x;0,x,?x;0,!m,!n,?x", "1.0", "y", "-,m=1,n=2;0,y,?y;0,x,?x;0,!m,!n,?x", "3.2"},
		{"the same to the name of the other one", "-,m=1,n=2;0,y,?y;0,x,?x;0,!m,!n,?x", "1.0", "x", "-,m=1,n=2;0,x,?x;0,x,?x;0,!m,!n,?x", "3.2"},
		{"imported and around", "-,x,?x,m=1;0,x;0,!m,?x", "1.0", "z", "-,x,?x,m=1;0,z;0,!m,?z", "-"},
		{"a module and a plain one of its name", "-,m=1,m;0,x;0,!m,?x", "0.1", "z", "-,m=1,z;0,x;0,!m,?x", "2.0 2.1"},
		{"the module of the two", "-,m=1,m;0,x;0,!m,?x", "0.0", "z", "-,z=1,m;0,x;0,!m,?x", "2.0"},
		{"two modules of a name, of which one is left", "-,x,m=1,m=2;0,x;0;0,!m,?x", "0.2", "z", "-,x,m=1,z=2;0,x;0;0,!m,?x", "3.0 3.1"},

		{"all items of full scopes", "-,x,?x,?x,?x,?x;0,!x,!x,!x,!x,!x;1,?x,?x,?x,?x,?x;0;0;0,?x,?x,?x,?x,?x", "0.0", "y", "-,y,?y,?y,?y,?y;0,!y,!y,!y,!y,!y;1,?y,?y,?y,?y,?y;0;0;0,?y,?y,?y,?y,?y", "-"},
		{"changes in the order of places", "-,y,x,?y,!y,?x;0,?y,!x,?x;1,!y,y,?x,?y;0,?x,z,?y", "0.1", "y", "-,y,y,?y,!y,?y;0,?y,!y,?y;1,!y,y,?y,?y;0,?y,z,?y", "0.2 0.3 0.4 1.0 1.1 1.2 2.2 3.0 3.2"},
	}
	for _, c := range cases {
		t.Run(c.why, func(t *testing.T) {
			checkRenamed(t, parse(t, c.text), place(t, c.p), c.name, c.want, c.changes)
		})
	}
}

func TestRenameToEveryName(t *testing.T) {
	g := parse(t, "-,x,?x;0,q,?x,?q;1,!x")
	for _, r := range alphabet {
		name := string(r)
		changes := "-"
		if name == "q" {
			changes = "1.1 2.0"
		}
		checkRenamed(t, g, impl.Place{}, name, "-,"+name+",?"+name+";0,q,?"+name+",?q;1,!"+name, changes)
	}
}

func TestGoodNames(t *testing.T) {
	cases := []struct {
		why, text, p string
		but          string
	}{
		{"the example of the document", "-,x,y;0,?x,?y", "0.0", "y"},
		{"the script of the document", "-,x,m=1,?x;0,y,x;0,!m,?y,?x", "1.1", "y"},
		{"nothing else", "-,x", "0.0", ""},
		{"names that nobody means", "-,x,a,b,?x;0,c", "0.0", "ab"},
		{"names that nobody means, as this one", "-,x,a,b;0,c", "0.0", ""},
		{"inner names that capture", "-,x;0,a,?x;1,z,?x;0,b", "0.0", "az"},
		{"names of what is missing", "-,x,?a,!b;0,?z;0,y,?y", "0.0", "abz"},
		{"names of what is meant from within", "-,a,b,z;0,x,?a,?z", "1.0", "az"},
		{"names that are imported from there", "-,m=1;0,x,y;0,z,!m,?x,?y", "1.0", "yz"},
		{"names of modules", "-,m=1,n=2;0;0;0,!m,!n", "0.0", "n"},
		{"none but its own, since it is meant with another one", "-,x,x,?x", "0.0", "abcdefghijklmnopqrstuvwyz"},
		{"and that is the first one", "-,a,a,?a", "0.1", "bcdefghijklmnopqrstuvwxyz"},
		{"and that is the last one", "-,z,?z,z", "0.2", "abcdefghijklmnopqrstuvwxy"},
		{"none but its own, since all others are referred to", "-,x;0,?a,?b,?c,?d,?e;0,?f,?g,?h,?i,?j;0,?k,?l,?m,?n,?o;0,?p,?q,?r,?s,?t;0,?u,?v,?w,?y,?z", "0.0", "abcdefghijklmnopqrstuvwyz"},
		{"one that is meant by nobody and found by nobody", "-,?a,?b,?c;0,x", "1.0", ""},
	}
	for _, c := range cases {
		t.Run(c.why, func(t *testing.T) { checkGood(t, parse(t, c.text), place(t, c.p), c.but) })
	}
}

func TestSwapNames(t *testing.T) {
	cases := []struct {
		why, text, a, b string
		want            string
	}{
		{"the script of the document", "-,a,b=1,?a;0,a,b;0,!b,?a,?b", "a", "b", "-,b,a=1,?b;0,b,a;0,!a,?b,?a"},
		{"no items", "-;0", "a", "b", "-;0"},
		{"all kinds", "-,x,?x,!x,y,?y;0,!y", "x", "y", "-,y,?y,!y,x,?x;0,!x"},
		{"one name alone", "-,x,?x,z;0,!x,?z", "x", "y", "-,y,?y,z;0,!y,?z"},
		{"neither name", "-,x,?x,z;0,!x,?z", "a", "b", "-,x,?x,z;0,!x,?z"},
		{"a name with itself", "-,x,?x,z;0,!x,?z", "x", "x", "-,x,?x,z;0,!x,?z"},
		{"a name that no item has with itself", "-,x", "q", "q", "-,x"},
		{"a module and what is in it", "-,m=1,x;0,m,?x;0,!m,?x", "m", "x", "-,x=1,m;0,x,?m;0,!x,?m"},
		{"what means several and what is missing", "-,x,x,?x,?y;0,!y,?x", "x", "y", "-,y,y,?y,?x;0,!x,?y"},
		{"the first name and the last one", "-,a,z,?a,?z,m;0,!z,!a", "a", "z", "-,z,a,?z,?a,m;0,!a,!z"},
		{"full scopes", "-,x,y,x,y,x;0,?x,?x,?y,?y,?x;1;1;1;1,!y,!x,!y,!x,!y", "x", "y", "-,y,x,y,x,y;0,?y,?y,?x,?x,?y;1;1;1;1,!x,!y,!x,!y,!x"},
	}
	for _, c := range cases {
		t.Run(c.why, func(t *testing.T) {
			g := parse(t, c.text)
			checkSwapped(t, g, c.a, c.b, c.want)
			checkSame(t, g, parse(t, c.want), true, true)
		})
	}
}

func TestSameShapeAndTable(t *testing.T) {
	cases := []struct {
		why, text, other string
		shape, table     bool
	}{
		{"no items", "-", "-", true, true},
		{"itself", "-,x,m=1;0,y;0,!m,?y,?q", "-,x,m=1;0,y;0,!m,?y,?q", true, true},
		{"other names", "-,x,?x", "-,y,?y", true, true},
		{"other names, of which two were one", "-,x,?x;0,x,?x", "-,x,?x;0,y,?y", true, true},
		{"other names of what is missing", "-,x,?y,!z", "-,q,?r,!r", true, true},
		{"other names of what means several", "-,x,?x,x", "-,y,?y,y", true, true},
		{"other names of modules", "-,m=1;0,x;0,!m,?x", "-,x=1;0,x;0,!x,?x", true, true},
		{"a declaration that nobody means", "-,x,y,?x", "-,x,z,?x", true, true},
		{"one more scope", "-,x", "-,x;0", false, false},
		{"one more item", "-,x", "-,x,x", false, false},
		{"one more item in the last scope", "-,x;0", "-,x;0,?x", false, false},
		{"an item in another scope", "-,x,?x;0", "-,x;0,?x", false, false},
		{"another parent", "-;0;1", "-;0;0", false, false},
		{"another parent, and the same meanings", "-,x;0;1,?x", "-,x;0;0,?x", false, false},
		{"a declaration for a reference", "-,x", "-,?x", false, false},
		{"an import for a reference", "-,x,?x", "-,x,!x", false, false},
		{"an import for a reference, both of which are missing", "-,?x", "-,!x", false, false},
		{"another order of kinds", "-,x,?x", "-,?x,x", false, false},
		{"a block for a module", "-,m;0", "-,m=1;0", false, false},
		{"another scope of a module", "-,m=1,n=2;0;0", "-,m=2,n=1;0;0", false, false},
		{"another declaration of the module", "-,m=1,m;0", "-,m,m=1;0", false, false},
		{"means another one", "-,x,y,?x", "-,x,y,?y", true, false},
		{"means none", "-,x,?x", "-,x,?y", true, false},
		{"means one of several", "-,x,x,?x", "-,x,y,?x", true, false},
		{"means one around", "-,x;0,x,?x", "-,x;0,y,?x", true, false},
		{"an import means another one", "-,m=1,n=2;0;0;0,!m", "-,m=1,n=2;0;0;0,!n", true, false},
		{"an import means none", "-,m=1;0;0,!m", "-,m=1;0;0,!n", true, false},
		{"several in another order", "-,m=1,n=2;0,x;0,x;0,!m,!n,?x", "-,m=1,n=2;0,x;0,x;0,!n,!m,?x", true, false},
		{"the last item of all", "-,x,y,?x;0,?x;0;0;0;4,?x,?x,?x,?x,?x", "-,x,y,?x;0,?x;0;0;0;4,?x,?x,?x,?x,?y", true, false},
	}
	for _, c := range cases {
		t.Run(c.why, func(t *testing.T) { checkSame(t, parse(t, c.text), parse(t, c.other), c.shape, c.table) })
	}
}

// TestNothingRenamed goes through names that are none, and places of no declarations.
func TestNothingRenamed(t *testing.T) {
	for _, c := range validGraphs {
		for s, scope := range c.graph.Scopes {
			for i, x := range scope.Items {
				p := impl.Place{Scope: s, Index: i}
				for _, name := range noNames {
					checkNotRenamed(t, c.graph, p, name)
				}
				if x.Kind != impl.ItemDeclares {
					checkNotRenamed(t, c.graph, p, "z")
					checkNotRenamed(t, c.graph, p, x.Name)
					checkNoneGood(t, c.graph, p)
				}
			}
			for _, i := range []int{-1, -2, len(scope.Items), impl.MaxItems, math.MaxInt, math.MinInt} {
				checkNotRenamed(t, c.graph, impl.Place{Scope: s, Index: i}, "z")
				checkNoneGood(t, c.graph, impl.Place{Scope: s, Index: i})
			}
		}
		for _, s := range append([]int{len(c.graph.Scopes)}, noScopes...) {
			if s < 0 || s >= len(c.graph.Scopes) {
				checkNotRenamed(t, c.graph, impl.Place{Scope: s}, "z")
				checkNoneGood(t, c.graph, impl.Place{Scope: s})
			}
		}
	}
}

// TestNothingSwapped goes through names that are none, also beside each other.
func TestNothingSwapped(t *testing.T) {
	for _, c := range validGraphs {
		for _, name := range noNames {
			checkNotSwapped(t, c.graph, "x", name)
			checkNotSwapped(t, c.graph, "q", name)
			checkNotSwapped(t, c.graph, name, name)
		}
	}
}

func TestRenamingInvalidGraphs(t *testing.T) {
	valid := parse(t, "-,x,m=1;0,y")
	for what, g := range invalidGraphs {
		t.Run(what, func(t *testing.T) {
			for s := -1; s <= impl.MaxScopes+1; s++ {
				for i := -1; i <= impl.MaxItems+1; i++ {
					p := impl.Place{Scope: s, Index: i}
					checkNotRenamed(t, g, p, "q")
					checkNotRenamed(t, g, p, "x")
					checkNotRenamed(t, g, p, "")
					checkNoneGood(t, g, p)
				}
			}
			checkNotSwapped(t, g, "x", "q")
			checkNotSwapped(t, g, "m", "x")
			checkNotSwapped(t, g, "", "")
			checkSame(t, g, g, false, false)
			checkSame(t, g, valid, false, false)
			for _, c := range validGraphs {
				checkSame(t, g, c.graph, false, false)
			}
		})
	}
}

// renamed gives a name to the item that stood at a place and to all that mean it alone; the others are as they were.
func (r rest) renamed(p impl.Place, name string, means map[impl.Place][]impl.Place) rest {
	other := rest{stood: r.stood}
	for s, scope := range r.graph.Scopes {
		items := slices.Clone(scope.Items)
		for i := range items {
			// A declaration means itself alone.
			if slices.Equal(means[r.stood[s][i]], []impl.Place{p}) {
				items[i].Name = name
			}
		}
		other.graph.Scopes = append(other.graph.Scopes, impl.Scope{Parent: scope.Parent, Items: items})
	}
	return other
}

// swappedText exchanges two letters in the text of a graph, where letters stand for nothing but names.
func swappedText(g impl.Graph, a string, b string) string {
	return strings.NewReplacer(a, b, b, a).Replace(impl.FormatGraph(g))
}

// countRenamed counts what a renaming shows.
func countRenamed(g impl.Graph, p impl.Place, name string, changed []impl.Place, counts map[string]int) {
	users, _ := impl.UsersOf(g, p)
	switch {
	case g.Scopes[p.Scope].Items[p.Index].Name == name:
		counts["to the own name"]++
	case !strings.Contains(impl.FormatGraph(g), name) && len(changed) == 0 && len(users) > 0:
		counts["good to a new name, with users"]++
	case !strings.Contains(impl.FormatGraph(g), name) && len(changed) > 0:
		counts["bad to a new name"]++
	case len(changed) == 0 && len(users) > 0:
		counts["good to a name that others have, with users"]++
	case len(changed) > 0 && len(users) == 0:
		counts["bad to a name that others have, without users"]++
	}
	for _, q := range changed {
		switch {
		case slices.Contains(users, q):
			counts["by which a user changes"]++
		case g.Scopes[q.Scope].Items[q.Index].Name == name:
			counts["by which an item of the new name changes"]++
		case g.Scopes[q.Scope].Items[q.Index].Name != g.Scopes[p.Scope].Items[p.Index].Name:
			counts["by which an item of a third name changes"]++
		}
	}
}

// checkRenamingModel compares what each declaration is renamed to, and what this changes, with the model; z is a name that no made graph has.
func checkRenamingModel(t *testing.T, r rest, counts map[string]int) {
	t.Helper()
	means := r.meanings()
	for s, scope := range r.graph.Scopes {
		for i, x := range scope.Items {
			p := impl.Place{Scope: s, Index: i}
			if x.Kind != impl.ItemDeclares {
				checkNotRenamed(t, r.graph, p, "z")
				checkNoneGood(t, r.graph, p)
				continue
			}
			// All names that the graph does not have are good if one of them is.
			bad := map[bool]string{}
			for _, letter := range modelNames + "z" {
				name := string(letter)
				other := r.renamed(p, name, means)
				changed := r.differences(means, other.meanings())
				countRenamed(r.graph, p, name, changed, counts)
				checkRenamed(t, r.graph, p, name, impl.FormatGraph(other.graph), impl.FormatPlaces(changed))
				checkSame(t, r.graph, other.graph, true, len(changed) == 0)
				bad[len(changed) > 0] += name
			}
			but := bad[true]
			if strings.Contains(but, "z") {
				but = without(bad[false])
			}
			checkGood(t, r.graph, p, but)
		}
	}
	for _, pair := range []string{"mn", "nx", "xm", "xz", "zz", "nn"} {
		a, b := pair[:1], pair[1:]
		checkSwapped(t, r.graph, a, b, swappedText(r.graph, a, b))
	}
}

// TestAllSmallRenaming goes through a module m beside a scope, with at most one of four items ahead of it, and all lists of at most two of them in each of these scopes.
func TestAllSmallRenaming(t *testing.T) {
	t.Parallel()
	items := []impl.Item{declares("m"), declares("x"), refers("x"), imports("m")}
	lists := itemLists(items, 2)
	counts := map[string]int{}
	for _, first := range itemLists(items, 1) {
		for _, second := range lists {
			for _, third := range lists {
				checkRenamingModel(t, wholeRest(graph(scope(-1, append(slices.Clone(first), module("m", 1))...), scope(0, second...), scope(0, third...))), counts)
				stopIfFailed(t)
			}
		}
	}
}

// TestManyRenamings goes through graphs of all sizes, and counts what they show, so that the test is known to see it.
func TestManyRenamings(t *testing.T) {
	t.Parallel()
	maker := &graphMaker{}
	counts := map[string]int{}
	for i := range 600 {
		checkRenamingModel(t, wholeRest(maker.users(i)), counts)
		stopIfFailed(t)
	}
	for _, what := range []string{"to the own name", "good to a new name, with users", "bad to a new name", "good to a name that others have, with users", "bad to a name that others have, without users", "by which a user changes", "by which an item of the new name changes", "by which an item of a third name changes"} {
		if counts[what] < 50 {
			t.Errorf("only %d renamings %s", counts[what], what)
		}
	}
}

// TestSameByTexts holds graphs against each other by their texts with all names made one, and by the texts of their tables.
func TestSameByTexts(t *testing.T) {
	var graphs []impl.Graph
	lists := itemLists([]impl.Item{declares("m"), declares("x"), refers("x"), refers("m"), imports("m")}, 1)
	for _, first := range lists {
		for _, second := range lists {
			for _, third := range lists[:4] {
				graphs = append(graphs, graph(scope(-1, append(slices.Clone(first), module("m", 1))...), scope(0, second...), scope(0, third...)))
			}
		}
	}
	oneName := strings.NewReplacer("m", "a", "x", "a")
	shapes, tables := 0, 0
	for _, g := range graphs {
		for _, h := range graphs {
			shape := oneName.Replace(impl.FormatGraph(g)) == oneName.Replace(impl.FormatGraph(h))
			table := shape && impl.TableOf(g) == impl.TableOf(h)
			checkSame(t, g, h, shape, table)
			stopIfFailed(t)
			if shape {
				shapes++
			}
			if table {
				tables++
			}
		}
	}
	if tables < 2*len(graphs) || shapes < tables+len(graphs) {
		t.Errorf("of %d graphs, %d pairs have the same shape and %d the same table", len(graphs), shapes, tables)
	}
}

// meantWithOthers returns the declarations that an item means together with others.
func meantWithOthers(g impl.Graph) []impl.Place {
	var list []impl.Place
	items, _ := impl.ItemsIn(g, impl.StateAmbiguous)
	for _, p := range items {
		means, _ := impl.ResolveItem(g, p)
		list = append(list, means...)
	}
	return list
}

// TestGoodRenamings checks the promise by itself: a renaming is good just if all items find the same then, one to a name that no item has just if nobody means the declaration with others, and a good one can be taken back.
func TestGoodRenamings(t *testing.T) {
	t.Parallel()
	maker := &graphMaker{}
	good, bad := 0, 0
	for i := range 1500 {
		g := maker.users(i)
		declared, _ := impl.PlacesOf(g, impl.ItemDeclares)
		shared := meantWithOthers(g)
		for _, p := range declared {
			for _, name := range []string{"n", "x", "z"} {
				h, _ := impl.RenameAt(g, p, name)
				can := impl.CanRename(g, p, name)
				if !impl.SameShape(g, h) || impl.SameTable(g, h) != can || (impl.TableOf(g) == impl.TableOf(h)) != can {
					t.Fatalf("%q becomes %q, and CanRename(%v, %q) = %v", impl.FormatGraph(g), impl.FormatGraph(h), p, name, can)
				}
				if name == "z" && can == slices.Contains(shared, p) {
					t.Fatalf("in %q, CanRename(%v, %q) = %v", impl.FormatGraph(g), p, name, can)
				}
				if !can {
					bad++
					continue
				}
				good++
				old := g.Scopes[p.Scope].Items[p.Index].Name
				if back, ok := impl.RenameAt(h, p, old); !ok || !sameGraph(back, g) || !impl.CanRename(h, p, old) {
					t.Fatalf("%q becomes %q, and then %q", impl.FormatGraph(g), impl.FormatGraph(h), impl.FormatGraph(back))
				}
			}
		}
	}
	if good < 1000 || bad < 1000 {
		t.Errorf("only %d renamings are good, and %d bad", good, bad)
	}
}

// TestSwappedBack checks that names can always be exchanged so that nothing changes, and that this is undone by doing it again.
func TestSwappedBack(t *testing.T) {
	maker := &graphMaker{}
	for i := range 3000 {
		g := maker.users(i)
		for _, pair := range []string{"mx", "nx", "mz"} {
			h, ok := impl.SwapNames(g, pair[:1], pair[1:])
			if !ok || !impl.SameTable(g, h) || impl.TableOf(g) != impl.TableOf(h) {
				t.Fatalf("%q becomes %q, %v", impl.FormatGraph(g), impl.FormatGraph(h), ok)
			}
			if back, ok := impl.SwapNames(h, pair[:1], pair[1:]); !ok || !sameGraph(back, g) {
				t.Fatalf("%q becomes %q, and then %q", impl.FormatGraph(g), impl.FormatGraph(h), impl.FormatGraph(back))
			}
		}
	}
}

// TestRenamingStays checks that no function of the chapter changes a graph, or the memory behind its scopes and items.
func TestRenamingStays(t *testing.T) {
	g, check := watched(t)
	for s := -1; s < 3; s++ {
		for i := -1; i < 4; i++ {
			p := impl.Place{Scope: s, Index: i}
			for _, name := range []string{"m", "x", "q", ""} {
				impl.RenameAt(g, p, name)
				impl.RenameChanges(g, p, name)
				impl.CanRename(g, p, name)
			}
			impl.GoodNames(g, p)
		}
	}
	impl.SwapNames(g, "m", "x")
	impl.SwapNames(g, "m", "")
	impl.SameShape(g, g)
	impl.SameTable(g, g)
	check()
}

// TestRenamedGraphsAreNew checks that graphs share no memory, even if no name becomes another one.
func TestRenamedGraphsAreNew(t *testing.T) {
	for _, text := range []string{"-,x,?x,m=1;0,x,?x;0,!m,?x", "-,x,y,?x;0;1", "-,x,?x;0,?x"} {
		for _, name := range []string{"x", "y", "m"} {
			checkNewGraph(t, "RenameAt "+name, roomy(t, text), func(g impl.Graph) (impl.Graph, bool) { return impl.RenameAt(g, impl.Place{}, name) })
			checkNewGraph(t, "SwapNames "+name, roomy(t, text), func(g impl.Graph) (impl.Graph, bool) { return impl.SwapNames(g, "x", name) })
		}
		checkNewGraph(t, "SwapNames of none", roomy(t, text), func(g impl.Graph) (impl.Graph, bool) { return impl.SwapNames(g, "p", "q") })
	}
}

// TestRenameChangesAreNew checks that lists share no memory, their unused capacity included.
func TestRenameChangesAreNew(t *testing.T) {
	g := parse(t, "-,x,y,?x,?y;0,?x,?x,?y")
	checkNew(t, "RenameChanges", func() []impl.Place { list, _ := impl.RenameChanges(g, impl.Place{}, "y"); return list }, impl.Place{Scope: 9, Index: 9})
}
