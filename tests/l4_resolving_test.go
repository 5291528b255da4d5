package tests

import (
	"math"
	"reflect"
	"slices"
	"strings"
	"testing"

	"loop.example/scopegraphs/impl"
)

// stateWords holds the states and their words.
var stateWords = map[int]string{impl.StateFound: "found", impl.StateMissing: "missing", impl.StateAmbiguous: "ambiguous", impl.StatePlain: "plain"}

// noStates are numbers of no state that an item can have.
var noStates = []int{impl.StateNone, impl.StatePlain + 1, -1, -2, 100, math.MaxInt, math.MinInt}

// A resolveAnswer is what the functions of chapter 4 must return for a graph: its table, and the places of the items in each state.
type resolveAnswer struct {
	table                            string
	found, missing, ambiguous, plain string
}

// places returns the places of the items in a state.
func (a resolveAnswer) places(state int) string {
	return [...]string{impl.StateFound: a.found, impl.StateMissing: a.missing, impl.StateAmbiguous: a.ambiguous, impl.StatePlain: a.plain}[state]
}

// meaning returns what an item means: a declaration itself, and others what their rows of the table tell.
func (a resolveAnswer) meaning(x impl.Item, place string) string {
	if x.Kind == impl.ItemDeclares {
		return place
	}
	for row := range strings.SplitSeq(a.table, ";") {
		if means, ok := strings.CutPrefix(row, place+">"); ok {
			return means
		}
	}
	return "no row"
}

// state returns in which list of places an item stands.
func (a resolveAnswer) state(place string) int {
	for state := range stateWords {
		if slices.Contains(strings.Fields(a.places(state)), place) {
			return state
		}
	}
	return impl.StateNone
}

// checkResolving compares all functions of items of a graph.
func checkResolving(t *testing.T, g impl.Graph, want resolveAnswer) {
	t.Helper()
	text := impl.FormatGraph(g)
	if table := impl.TableOf(g); table != want.table {
		t.Errorf("TableOf(%q) = %q, want %q", text, table, want.table)
	}
	for state := range stateWords {
		if list, ok := impl.ItemsIn(g, state); !ok || impl.FormatPlaces(list) != want.places(state) {
			t.Errorf("ItemsIn(%q, %d) = %v, %v, want %s", text, state, list, ok, want.places(state))
		}
	}
	sound := want.missing == "-" && want.ambiguous == "-" && want.plain == "-"
	if impl.IsSound(g) != sound {
		t.Errorf("IsSound(%q) = %v", text, !sound)
	}
	for s, scope := range g.Scopes {
		for i, x := range scope.Items {
			p := impl.Place{Scope: s, Index: i}
			place := impl.FormatPlaces([]impl.Place{p})
			if list, ok := impl.ResolveItem(g, p); !ok || impl.FormatPlaces(list) != want.meaning(x, place) {
				t.Errorf("ResolveItem(%q, %s) = %v, %v, want %s", text, place, list, ok, want.meaning(x, place))
			}
			if state := impl.StateOf(g, p); state != want.state(place) {
				t.Errorf("StateOf(%q, %s) = %d, want %d", text, place, state, want.state(place))
			}
		}
	}
}

// checkNoItem checks that all functions of places refuse one.
func checkNoItem(t *testing.T, g impl.Graph, p impl.Place) {
	t.Helper()
	if list, ok := impl.ResolveItem(g, p); ok || len(list) != 0 {
		t.Errorf("ResolveItem(%v, %v) = %v, %v", g, p, list, ok)
	}
	if state := impl.StateOf(g, p); state != impl.StateNone {
		t.Errorf("StateOf(%v, %v) = %d", g, p, state)
	}
	checkQualified(t, g, p, "")
}

// checkQualified compares the qualified name of a declaration, where the empty one is that of none.
func checkQualified(t *testing.T, g impl.Graph, p impl.Place, want string) {
	t.Helper()
	if name, ok := impl.Qualified(g, p); name != want || ok != (want != "") {
		t.Errorf("Qualified(%v, %v) = %q, %v, want %q", g, p, name, ok, want)
	}
}

// checkPath compares what is found by a path.
func checkPath(t *testing.T, g impl.Graph, s int, path string, want string) {
	t.Helper()
	if list, ok := impl.FindPath(g, s, path); !ok || impl.FormatPlaces(list) != want {
		t.Errorf("FindPath(%q, %d, %q) = %v, %v, want %s", impl.FormatGraph(g), s, path, list, ok, want)
	}
}

// checkNoPath checks that a path from a scope is refused, which is not the same as to find nothing.
func checkNoPath(t *testing.T, g impl.Graph, s int, path string) {
	t.Helper()
	if list, ok := impl.FindPath(g, s, path); ok || len(list) != 0 {
		t.Errorf("FindPath(%v, %d, %q) = %v, %v", g, s, path, list, ok)
	}
}

func TestItemsMean(t *testing.T) {
	cases := []struct {
		why, text string
		want      resolveAnswer
	}{
		{"the example of the document", "-,m=1;0,x;0,!m,?x", resolveAnswer{"2.0>0.0;2.1>1.0", "0.0 1.0 2.0 2.1", "-", "-", "-"}},
		{"the graph of the script in the document", "-,x,m=1,?x;0,y,x;0,!m,?y,?x", resolveAnswer{"0.2>0.0;2.0>0.1;2.1>1.0;2.2>1.1", "0.0 0.1 0.2 1.0 1.1 2.0 2.1 2.2", "-", "-", "-"}},
		{"no items", "-", resolveAnswer{"-", "-", "-", "-", "-"}},
		{"no items in several scopes", "-;0;1;0", resolveAnswer{"-", "-", "-", "-", "-"}},
		{"one declaration", "-,x", resolveAnswer{"-", "0.0", "-", "-", "-"}},
		{"only declarations, of one name too", "-,x,x,m=1;0,x,m=2;1,m", resolveAnswer{"-", "0.0 0.1 0.2 1.0 1.1 2.0", "-", "-", "-"}},
		{"only a reference", "-,?x", resolveAnswer{"0.0>-", "-", "0.0", "-", "-"}},
		{"only an import", "-,!x", resolveAnswer{"0.0>-", "-", "0.0", "-", "-"}},
		{"ahead of their declaration", "-,?m,!m,m=1;0", resolveAnswer{"0.0>0.2;0.1>0.2", "0.0 0.1 0.2", "-", "-", "-"}},
		{"a reference to a plain one is found", "-,x;0,?x", resolveAnswer{"1.0>0.0", "0.0 1.0", "-", "-", "-"}},
		{"an import of a plain one is plain", "-,x;0,!x", resolveAnswer{"1.0>0.0", "0.0", "-", "-", "1.0"}},
		{"a reference to a module is found", "-,m=1,?m;0", resolveAnswer{"0.1>0.0", "0.0 0.1", "-", "-", "-"}},
		{"a plain one hides a module from both", "-,m=1;0;0,m,!m,?m", resolveAnswer{"2.1>2.0;2.2>2.0", "0.0 2.0 2.2", "-", "-", "2.1"}},
		{"a module hides a plain one from both", "-,m;0,m=2,!m,?m;1", resolveAnswer{"1.1>1.0;1.2>1.0", "0.0 1.0 1.1 1.2", "-", "-", "-"}},
		{"two plain ones", "-,x,x;0,?x,!x", resolveAnswer{"1.0>0.0 0.1;1.1>0.0 0.1", "0.0 0.1", "-", "1.0 1.1", "-"}},
		{"two modules", "-,m=1,m=2,?m,!m;0;0", resolveAnswer{"0.2>0.0 0.1;0.3>0.0 0.1", "0.0 0.1", "-", "0.2 0.3", "-"}},
		{"a module and a plain one", "-,m,?m,!m,m=1;0", resolveAnswer{"0.1>0.0 0.3;0.2>0.0 0.3", "0.0 0.3", "-", "0.1 0.2", "-"}},
		{"five at once", "-,x,x,x,x,x;0,?x", resolveAnswer{"1.0>0.0 0.1 0.2 0.3 0.4", "0.0 0.1 0.2 0.3 0.4", "-", "1.0", "-"}},
		{"in the order of imports", "-,m=1,n=2;0,x;0,x;0,!n,!m,?x", resolveAnswer{"3.0>0.1;3.1>0.0;3.2>2.0 1.0", "0.0 0.1 1.0 2.0 3.0 3.1", "-", "3.2", "-"}},
		{"a module that is imported twice counts once", "-,m=1;0,x;0,!m,!m,?x", resolveAnswer{"2.0>0.0;2.1>0.0;2.2>1.0", "0.0 1.0 2.0 2.1 2.2", "-", "-", "-"}},
		{"an import of what is no module brings in nothing", "-,x,m,y=1;0,x;0,!m,?x", resolveAnswer{"2.0>0.1;2.1>0.0", "0.0 0.1 0.2 1.0 2.1", "-", "-", "2.0"}},
		{"an import of nothing", "-,x;0,!m,?x", resolveAnswer{"1.0>-;1.1>0.0", "0.0 1.1", "1.0", "-", "-"}},
		{"an import does not see what is imported beside it", "-,m=1;0,n=2;1,x;0,!m,!n,?n,?x", resolveAnswer{"3.0>0.0;3.1>-;3.2>1.0;3.3>-", "0.0 1.0 2.0 3.0 3.2", "3.1 3.3", "-", "-"}},
		{"but what is imported around it", "-,m=1;0,n=2;1,x;0,!m;3,!n,?x", resolveAnswer{"3.0>0.0;4.0>1.0;4.1>2.0", "0.0 1.0 2.0 3.0 4.0 4.1", "-", "-", "-"}},
		{"a plain one and two by imports around", "-,m=1,n=2,!m,!n;0,k,j;0,j;0,!k,!j,?k", resolveAnswer{"0.2>0.0;0.3>0.1;3.0>1.0;3.1>1.1 2.0;3.2>1.0", "0.0 0.1 0.2 0.3 1.0 1.1 2.0 3.2", "-", "3.1", "3.0"}},
		{"an import and a reference of one name differ", "-,m=1;0,m=2;1;0,!m,?m", resolveAnswer{"3.0>0.0;3.1>1.0", "0.0 1.0 3.0 3.1", "-", "-", "-"}},
		{"a module in itself", "-,m=1;0,!m,?m,x,?x", resolveAnswer{"1.0>0.0;1.1>0.0;1.3>1.2", "0.0 1.0 1.1 1.2 1.3", "-", "-", "-"}},
		{"not from within or beside", "-,?x,!x;0,x;0,?x", resolveAnswer{"0.0>-;0.1>-;2.0>-", "1.0", "0.0 0.1 2.0", "-", "-"}},
		{"each state at once", "-,m=1,x,x;0,x,y;0,!m,?x,?z,!x;2,!y,?x", resolveAnswer{"2.0>0.0;2.1>1.0;2.2>-;2.3>0.1 0.2;3.0>1.1;3.1>1.0", "0.0 0.1 0.2 1.0 1.1 2.0 2.1 3.1", "2.2", "2.3", "3.0"}},
	}
	for _, c := range cases {
		t.Run(c.why, func(t *testing.T) { checkResolving(t, parse(t, c.text), c.want) })
	}
}

func TestQualified(t *testing.T) {
	cases := []struct {
		why, text string
		p         impl.Place
		want      string
	}{
		{"in the first scope", "-,x", impl.Place{}, "x"},
		{"in a module", "-,m=1;0,x,y", impl.Place{Scope: 1, Index: 1}, "my"},
		{"a module has its name once", "-,m=1;0,n=2;1", impl.Place{Scope: 1}, "mn"},
		{"a module in the first scope", "-,x,m=1;0", impl.Place{Index: 1}, "m"},
		{"in a block", "-;0,x", impl.Place{Scope: 1}, "x"},
		{"blocks between modules", "-,a=1;0;1,b=3;2;3,c=5;4,x", impl.Place{Scope: 5}, "abcx"},
		{"five modules", "-,a=1;0,b=2;1,c=3;2,d=4;3,e=5;4,x", impl.Place{Scope: 5}, "abcdex"},
		{"five modules of one name", "-,m=1;0,m=2;1,m=3;2,m=4;3,m=5;4,m", impl.Place{Scope: 5}, "mmmmmm"},
		{"not by what is imported", "-,m=1;0,x;0,!m,x", impl.Place{Scope: 2, Index: 1}, "x"},
		{"a reference in a module", "-,m=1;0,x,?x", impl.Place{Scope: 1, Index: 1}, ""},
		{"an import in a module", "-,m=1;0,x,!m", impl.Place{Scope: 1, Index: 1}, ""},
		{"a reference in the first scope", "-,?x,x", impl.Place{}, ""},
	}
	for _, c := range cases {
		t.Run(c.why, func(t *testing.T) { checkQualified(t, parse(t, c.text), c.p, c.want) })
	}
}

func TestFindPath(t *testing.T) {
	cases := []struct {
		why, text string
		s         int
		path      string
		want      string
	}{
		{"the example of the document", "-,m=1;0,x;0,!m,?x", 2, "mx", "1.0"},
		{"one name is looked up", "-,x,m=1;0,x;0,!m", 2, "x", "1.0"},
		{"one name is found around", "-,x;0;1", 2, "x", "0.0"},
		{"one name finds nothing", "-,x", 0, "y", "-"},
		{"one name finds several", "-,x,x", 0, "x", "0.0 0.1"},
		{"a module alone", "-,m=1;0", 1, "m", "0.0"},
		{"the last name finds several", "-,m=1;0,x,?x,x", 0, "mx", "1.0 1.2"},
		{"the last name finds nothing", "-,m=1;0,x", 0, "my", "-"},
		{"nothing behind the first name", "-,m=1;0,x", 0, "yx", "-"},
		{"nothing in the middle", "-,m=1;0,n=2;1,x", 0, "mkx", "-"},
		{"a plain one is no module", "-,x,y;0,y", 0, "xy", "-"},
		{"a plain one in the middle", "-,m=1;0,x,y", 0, "mxy", "-"},
		{"a plain one hides the module", "-,m=1;0,x;0,m", 2, "mx", "-"},
		{"two modules first", "-,m=1,m=2;0,x;0,y", 0, "mx", "-"},
		{"two modules in the middle", "-,a=1;0,m=2,m=3;1,x;1,x", 0, "amx", "-"},
		{"two modules at the end", "-,a=1;0,m=2,m=3;1,x;1,x", 0, "am", "1.0 1.1"},
		{"a module and a plain one first", "-,m=1,m;0,x", 0, "mx", "-"},
		{"a module and a plain one in the middle", "-,a=1;0,m,m=2;1,x", 0, "amx", "-"},
		{"two modules by two imports", "-,a=1,b=2;0,m=3;0,m=4;1,x;2,x;0,!a,!b", 5, "mx", "-"},
		{"one module by two imports of one", "-,a=1;0,m=2;1,x;0,!a,!a", 3, "mx", "2.0"},
		{"one of two modules by one import", "-,a=1,b=2;0,m=3;0,m=4;1,x;2,x;0,!b", 5, "mx", "4.0"},
		{"not what is imported in a module", "-,m=1,n=2;0,x;0,!m", 0, "nx", "-"},
		{"not what is around a module", "-,x,m=1;0", 0, "mx", "-"},
		{"not what is within a module", "-,m=1;0;1,x", 0, "mx", "-"},
		{"references and imports of a module", "-,m=1,x;0,?x,!x", 0, "mx", "-"},
		{"a module twice in a row", "-,m=1;0,x", 0, "mmx", "-"},
		{"a module in itself of the same name", "-,m=1;0,m=2,x;1,x", 0, "mmx", "2.0"},
		{"the first name alone goes outwards", "-,m=1;0,m=2,x;1,y", 2, "mx", "-"},
		{"from within the inner module it is that one", "-,m=1;0,m=2,x;1,y", 2, "my", "2.0"},
		{"six names", "-,a=1;0,b=2;1,c=3;2,d=4;3,e=5;4,x", 0, "abcdex", "5.0"},
		{"six names from the innermost scope", "-,a=1;0,b=2;1,c=3;2,d=4;3,e=5;4,x", 5, "abcdex", "5.0"},
		{"seven names", "-,a=1;0,b=2;1,c=3;2,d=4;3,e=5;4,x", 0, "abcdexx", "-"},
		{"from the middle of a path", "-,a=1;0,b=2;1,x;0", 3, "bx", "-"},
		{"a long path", "-,m=1;0,m", 0, strings.Repeat("m", 5000), "-"},
	}
	for _, c := range cases {
		t.Run(c.why, func(t *testing.T) { checkPath(t, parse(t, c.text), c.s, c.path, c.want) })
	}
}

// noPaths are texts that are no paths, some of them behind what finds something, and some behind what finds nothing.
var noPaths = []string{"", "mX", "Mx", "m y", " mx", "mx ", "m.x", "m/x", "`", "m`", "{", "m{", "m\x00", "\x00m", "\xff", "mx\xff", "é", "mé", "zzz0", "mzZ", "m=1", "?x", "!m", strings.Repeat("m", 5000) + "0"}

func TestNoPaths(t *testing.T) {
	g := parse(t, "-,m=1,m;0,x,m=2;1,x")
	for s := range g.Scopes {
		for _, path := range noPaths {
			checkNoPath(t, g, s, path)
		}
	}
	for _, c := range validGraphs {
		for _, s := range append([]int{len(c.graph.Scopes)}, noScopes...) {
			if s < 0 || s >= len(c.graph.Scopes) {
				checkNoPath(t, c.graph, s, "m")
				checkNoPath(t, c.graph, s, "mx")
				checkNoPath(t, c.graph, s, "")
			}
		}
	}
}

// TestPathOfEveryByte puts each byte at each of three positions of a path.
func TestPathOfEveryByte(t *testing.T) {
	g := parse(t, "-,m=1;0,m=2;1,m")
	for b := range 256 {
		for at := range 3 {
			path := []byte("mmm")
			path[at] = byte(b)
			switch {
			case b < 'a' || b > 'z':
				checkNoPath(t, g, 0, string(path))
			case b == 'm':
				checkPath(t, g, 0, string(path), "2.0")
			default:
				checkPath(t, g, 0, string(path), "-")
			}
		}
	}
}

func TestNoItems(t *testing.T) {
	for _, c := range validGraphs {
		for _, s := range append([]int{len(c.graph.Scopes)}, noScopes...) {
			if s < 0 || s >= len(c.graph.Scopes) {
				checkNoItem(t, c.graph, impl.Place{Scope: s})
			}
		}
		for s, scope := range c.graph.Scopes {
			for _, i := range []int{-1, -2, len(scope.Items), impl.MaxItems, math.MaxInt, math.MinInt} {
				checkNoItem(t, c.graph, impl.Place{Scope: s, Index: i})
			}
		}
		for _, state := range noStates {
			if list, ok := impl.ItemsIn(c.graph, state); ok || len(list) != 0 {
				t.Errorf("ItemsIn(%q, %d) = %v, %v", c.text, state, list, ok)
			}
		}
	}
}

func TestResolvingInvalidGraphs(t *testing.T) {
	for what, g := range invalidGraphs {
		t.Run(what, func(t *testing.T) {
			for s := -1; s <= impl.MaxScopes; s++ {
				for i := -1; i <= impl.MaxItems; i++ {
					checkNoItem(t, g, impl.Place{Scope: s, Index: i})
				}
				for _, path := range []string{"a", "m", "x", "mx", "", "X"} {
					checkNoPath(t, g, s, path)
				}
			}
			for state := impl.StateNone; state <= impl.StatePlain+1; state++ {
				if list, ok := impl.ItemsIn(g, state); ok || len(list) != 0 {
					t.Errorf("ItemsIn(%d) = %v, %v", state, list, ok)
				}
			}
			if impl.IsSound(g) {
				t.Error("IsSound is true")
			}
			if table := impl.TableOf(g); table != "" {
				t.Errorf("TableOf = %q", table)
			}
		})
	}
}

func TestNameOfState(t *testing.T) {
	for state, want := range stateWords {
		if word := impl.NameOfState(state); word != want {
			t.Errorf("NameOfState(%d) = %q, want %q", state, word, want)
		}
	}
	for _, state := range noStates {
		if word := impl.NameOfState(state); word != "none" {
			t.Errorf("NameOfState(%d) = %q", state, word)
		}
	}
}

func TestStates(t *testing.T) {
	if impl.StateNone != 0 || impl.StateFound != 1 || impl.StateMissing != 2 || impl.StateAmbiguous != 3 || impl.StatePlain != 4 {
		t.Error("a state has another number")
	}
}

// meaning tells what the item at a place means, by what a model knows of its scope and of that around it.
func (m lookupModel) meaning(g impl.Graph, p impl.Place) []impl.Place {
	x := g.Scopes[p.Scope].Items[p.Index]
	here := m[p.Scope]
	switch {
	case x.Kind == impl.ItemDeclares:
		return []impl.Place{p}
	case x.Kind == impl.ItemRefers:
		return here.found[x.Name]
	case here.declared[x.Name] != nil || p.Scope == 0:
		return here.declared[x.Name]
	}
	return m[g.Scopes[p.Scope].Parent].found[x.Name]
}

// resolving tells what the functions of items must return; of what an import brings in the model knows itself.
func (m lookupModel) resolving(g impl.Graph) resolveAnswer {
	var rows []string
	var places [impl.StatePlain + 1][]impl.Place
	for s, scope := range g.Scopes {
		for i, x := range scope.Items {
			p := impl.Place{Scope: s, Index: i}
			means := m.meaning(g, p)
			state := impl.StateFound
			if len(means) == 0 {
				state = impl.StateMissing
			} else if len(means) > 1 {
				state = impl.StateAmbiguous
			} else if x.Kind == impl.ItemImports && m[s].targets[i] == -1 {
				state = impl.StatePlain
			}
			places[state] = append(places[state], p)
			if x.Kind != impl.ItemDeclares {
				rows = append(rows, impl.FormatPlaces([]impl.Place{p})+">"+impl.FormatPlaces(means))
			}
		}
	}
	a := resolveAnswer{table: strings.Join(rows, ";")}
	if rows == nil {
		a.table = "-"
	}
	a.found, a.missing = impl.FormatPlaces(places[impl.StateFound]), impl.FormatPlaces(places[impl.StateMissing])
	a.ambiguous, a.plain = impl.FormatPlaces(places[impl.StateAmbiguous]), impl.FormatPlaces(places[impl.StatePlain])
	return a
}

// qualified tells the qualified names of all declarations, from the first scope on.
func qualified(g impl.Graph) map[impl.Place]string {
	names := map[impl.Place]string{}
	paths := map[int]string{}
	for s, scope := range g.Scopes {
		if _, isModule := paths[s]; !isModule && s > 0 {
			paths[s] = paths[scope.Parent]
		}
		for i, x := range scope.Items {
			if x.Kind != impl.ItemDeclares {
				continue
			}
			p := impl.Place{Scope: s, Index: i}
			names[p] = paths[s] + x.Name
			if x.Scope != -1 {
				paths[x.Scope] = names[p]
			}
		}
	}
	return names
}

// eachPath calls a function with all paths of at most some length behind one, and with what each finds from a scope.
func (m lookupModel) eachPath(g impl.Graph, path string, found []impl.Place, more int, check func(string, []impl.Place)) {
	check(path, found)
	if more == 0 {
		return
	}
	for _, letter := range modelNames {
		var next []impl.Place
		if len(found) == 1 {
			if s := g.Scopes[found[0].Scope].Items[found[0].Index].Scope; s != -1 {
				next = m[s].declared[string(letter)]
			}
		}
		m.eachPath(g, path+string(letter), next, more-1, check)
	}
}

// checkResolvingModel compares all functions of the chapter with the model of a graph, and returns what it told.
func checkResolvingModel(t *testing.T, g impl.Graph, m lookupModel) resolveAnswer {
	t.Helper()
	want := m.resolving(g)
	checkResolving(t, g, want)
	names := qualified(g)
	for s, scope := range g.Scopes {
		for i := range scope.Items {
			p := impl.Place{Scope: s, Index: i}
			checkQualified(t, g, p, names[p])
		}
	}
	// One graph is enough to tell what is wrong.
	if t.Failed() {
		t.FailNow()
	}
	return want
}

// TestAllSmallResolving goes through a module m in the first scope and a block beside it, with all lists of at most two of five items ahead of them in each scope.
func TestAllSmallResolving(t *testing.T) {
	t.Parallel()
	items := []impl.Item{declares("m"), declares("x"), refers("m"), refers("x"), imports("m")}
	lists := itemLists(items, 2)
	for _, first := range lists {
		for _, second := range lists {
			for _, third := range lists {
				g := graph(scope(-1, append(slices.Clone(first), module("m", 1))...), scope(0, second...), scope(0, third...))
				checkResolvingModel(t, g, modelOf(g))
			}
		}
	}
}

// TestManyResolvings goes through graphs of all sizes, and counts what they show, so that the test is known to see it.
func TestManyResolvings(t *testing.T) {
	t.Parallel()
	maker := &graphMaker{}
	counts := map[string]int{}
	for i := range 6000 {
		g := maker.graph(1 + i%impl.MaxScopes)
		m := modelOf(g)
		want := checkResolvingModel(t, g, m)
		for state, word := range stateWords {
			counts[word] += len(strings.Fields(strings.ReplaceAll(want.places(state), "-", "")))
		}
		if impl.IsSound(g) {
			counts["sound"]++
		}
		if want.table == "-" {
			counts["only declarations"]++
		}
	}
	for _, what := range []string{"found", "missing", "ambiguous", "plain", "sound", "only declarations"} {
		if counts[what] < 200 {
			t.Errorf("only %d are %s", counts[what], what)
		}
	}
}

// TestManyPaths goes through all paths of at most three names from all scopes of generated graphs.
func TestManyPaths(t *testing.T) {
	maker := &graphMaker{}
	one, several := map[int]int{}, map[int]int{}
	for i := range 1500 {
		g := maker.graph(1 + i%impl.MaxScopes)
		m := modelOf(g)
		for s, here := range m {
			for _, letter := range modelNames {
				m.eachPath(g, string(letter), here.found[string(letter)], 2, func(path string, found []impl.Place) {
					checkPath(t, g, s, path, impl.FormatPlaces(found))
					switch len(found) {
					case 0:
					case 1:
						one[len(path)]++
					default:
						several[len(path)]++
					}
				})
			}
		}
		if t.Failed() {
			t.FailNow()
		}
	}
	for names := 1; names <= 3; names++ {
		if one[names] < 50 || several[names] < 50 {
			t.Errorf("paths of %d names find one declaration %d times and several %d times", names, one[names], several[names])
		}
	}
}

// TestItemsMeanTheirName checks the promise by itself: all that an item means are declarations that have its name.
func TestItemsMeanTheirName(t *testing.T) {
	maker := &graphMaker{}
	for i := range 2000 {
		g := maker.graph(1 + i%impl.MaxScopes)
		for s, scope := range g.Scopes {
			for i, x := range scope.Items {
				list, _ := impl.ResolveItem(g, impl.Place{Scope: s, Index: i})
				for _, p := range list {
					if d, ok := impl.ItemAt(g, p); !ok || d.Kind != impl.ItemDeclares || d.Name != x.Name {
						t.Fatalf("in %q, %d.%d means %v", impl.FormatGraph(g), s, i, list)
					}
				}
			}
		}
	}
}

// TestResolvingStays checks that no function of the chapter changes a graph, or the memory behind its scopes and items.
func TestResolvingStays(t *testing.T) {
	build := func() ([]impl.Item, []impl.Scope) {
		items := []impl.Item{module("m", 1), declares("x"), imports("m"), refers("spare")}
		return items, []impl.Scope{{Parent: -1, Items: items[:3]}, {Parent: 0, Items: []impl.Item{declares("y"), refers("m")}}, {Parent: 7}}
	}
	items, scopes := build()
	g := impl.Graph{Scopes: scopes[:2]}
	for s := -1; s < 3; s++ {
		for i := -1; i < 4; i++ {
			p := impl.Place{Scope: s, Index: i}
			impl.ResolveItem(g, p)
			impl.StateOf(g, p)
			impl.Qualified(g, p)
		}
		impl.FindPath(g, s, "my")
	}
	for state := range 6 {
		impl.ItemsIn(g, state)
	}
	impl.IsSound(g)
	impl.TableOf(g)
	if wantItems, wantScopes := build(); !reflect.DeepEqual(items, wantItems) || !reflect.DeepEqual(scopes, wantScopes) {
		t.Errorf("items became %v, scopes %v", items, scopes)
	}
}

// TestResolvedListsAreNew checks that lists share no memory, their unused capacity included.
func TestResolvedListsAreNew(t *testing.T) {
	g := parse(t, "-,m=1,x,x;0,x,x,x;0,?x,!x,!z;0,!m,?x")
	places := map[string]func() []impl.Place{
		"ResolveItem of a reference": func() []impl.Place { list, _ := impl.ResolveItem(g, impl.Place{Scope: 3, Index: 1}); return list },
		"ResolveItem of an import":   func() []impl.Place { list, _ := impl.ResolveItem(g, impl.Place{Scope: 2, Index: 1}); return list },
		"ItemsIn":                    func() []impl.Place { list, _ := impl.ItemsIn(g, impl.StateFound); return list },
		"FindPath of one name":       func() []impl.Place { list, _ := impl.FindPath(g, 2, "x"); return list },
		"FindPath":                   func() []impl.Place { list, _ := impl.FindPath(g, 0, "mx"); return list },
	}
	for what, f := range places {
		checkNew(t, what, f, impl.Place{Scope: 9, Index: 9})
	}
	first, _ := impl.ResolveItem(g, impl.Place{})
	first[0] = impl.Place{Scope: 9}
	if second, _ := impl.ResolveItem(g, impl.Place{}); impl.FormatPlaces(second) != "0.0" {
		t.Errorf("ResolveItem of a declaration = %v", second)
	}
}
