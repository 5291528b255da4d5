package tests

import (
	"slices"
	"strings"
	"testing"

	"loop.example/scopegraphs/impl"
)

// namingLetters are the letters that a declaration can get.
const namingLetters = "abcdefghijklmnopqrstuvwxy"

// checkNamed compares the graph with the names of a naming, and the items that mean something else then, with what they must be.
func checkNamed(t *testing.T, g impl.Graph, names string, want string, bad string) {
	t.Helper()
	h, ok := impl.NamedGraph(g, names)
	if !ok || impl.FormatGraph(h) != want {
		t.Errorf("NamedGraph(%q, %q) = %q, %v, want %q", impl.FormatGraph(g), names, impl.FormatGraph(h), ok, want)
	}
	if list, ok := impl.BadNaming(g, names); !ok || impl.FormatPlaces(list) != bad {
		t.Errorf("BadNaming(%q, %q) = %v, %v, want %s", impl.FormatGraph(g), names, list, ok, bad)
	}
	if good := impl.IsGoodNaming(g, names); good != (bad == "-") {
		t.Errorf("IsGoodNaming(%q, %q) = %v", impl.FormatGraph(g), names, good)
	}
	checkSame(t, g, h, true, bad == "-")
}

// checkNotNamed checks that a graph gets no names.
func checkNotNamed(t *testing.T, g impl.Graph, names string) {
	t.Helper()
	if h, ok := impl.NamedGraph(g, names); ok || len(h.Scopes) != 0 {
		t.Errorf("NamedGraph(%v, %q) = %v, %v", g, names, h, ok)
	}
	if list, ok := impl.BadNaming(g, names); ok || len(list) != 0 {
		t.Errorf("BadNaming(%v, %q) = %v, %v", g, names, list, ok)
	}
	if impl.IsGoodNaming(g, names) {
		t.Errorf("IsGoodNaming(%v, %q) is true", g, names)
	}
}

// checkFresh compares the graph with fresh names, in which all items mean the same.
func checkFresh(t *testing.T, g impl.Graph, want string) {
	t.Helper()
	h, ok := impl.FreshGraph(g)
	if !ok || impl.FormatGraph(h) != want {
		t.Errorf("FreshGraph(%q) = %q, %v, want %q", impl.FormatGraph(g), impl.FormatGraph(h), ok, want)
	}
	if !impl.IsFresh(h) {
		t.Errorf("IsFresh(%q) is false", impl.FormatGraph(h))
	}
	if impl.TableOf(h) != impl.TableOf(g) {
		t.Errorf("%q has the table %s, and %q %s", impl.FormatGraph(g), impl.TableOf(g), impl.FormatGraph(h), impl.TableOf(h))
	}
	checkSame(t, g, h, true, true)
}

// checkNotFresh checks that a graph gets no fresh names.
func checkNotFresh(t *testing.T, g impl.Graph) {
	t.Helper()
	if h, ok := impl.FreshGraph(g); ok || len(h.Scopes) != 0 {
		t.Errorf("FreshGraph(%v) = %v, %v", g, h, ok)
	}
}

// checkOwn compares the names of all declarations, how many different ones they are, and whether these are as many.
func checkOwn(t *testing.T, g impl.Graph, want string, count int) {
	t.Helper()
	if names, ok := impl.OwnNames(g); !ok || names != want {
		t.Errorf("OwnNames(%q) = %q, %v, want %q", impl.FormatGraph(g), names, ok, want)
	}
	if n := impl.CountNames(g); n != count {
		t.Errorf("CountNames(%q) = %d, want %d", impl.FormatGraph(g), n, count)
	}
	if fresh := impl.IsFresh(g); fresh != (count == len(want)) {
		t.Errorf("IsFresh(%q) = %v", impl.FormatGraph(g), fresh)
	}
}

func TestNamedGraph(t *testing.T) {
	cases := []struct {
		why, text, names string
		want, bad        string
	}{
		{"the example of the document", "-,x,?x;0,x,?x,?q", "ab", "-,a,?a;0,b,?b,?z", "-"},
		{"the script of the document", "-,x,m=2;0,!m,?y;0,y", "abc", "-,a,b=2;0,!b,?c;0,c", "-"},
		{"the fewest names of the document", "-,x,?x;0,y,?x;0,w,?w", "aba", "-,a,?a;0,b,?a;0,a,?a", "-"},
		{"the fewest names in the script of the document", "-,x,m=1,?x;0,y,x;0,!m,?y,?x", "abab", "-,a,b=1,?a;0,a,b;0,!b,?a,?b", "-"},
		{"no declarations", "-;0", "", "-;0", "-"},
		{"no declarations, but what means nothing", "-,?x,!m;0,?x", "", "-,?z,!z;0,?z", "-"},
		{"a declaration that nobody means", "-,x", "q", "-,q", "-"},
		{"declarations that nobody means", "-,x,y;0,x", "aaa", "-,a,a;0,a", "-"},
		{"one beside one that is meant", "-,x,y,?y", "ba", "-,b,a,?a", "-"},
		{"the first letter and the last one", "-,x,y,?y,?x", "ya", "-,y,a,?a,?y", "-"},
		{"its own names", "-,x,m=1;0,y;0,!m,?y", "xmy", "-,x,m=1;0,y;0,!m,?y", "-"},
		{"its own names exchanged", "-,x,m=1;0,y;0,!m,?y", "mxy", "-,m,x=1;0,y;0,!x,?y", "-"},
		{"not a letter for each name, but for each declaration", "-,x,?x;0,x,?x", "ab", "-,a,?a;0,b,?b", "-"},
		{"one letter for two that hide each other", "-,x,?x;0,x,?x", "cc", "-,c,?c;0,c,?c", "-"},
		{"references and imports, ahead and behind", "-,?x,!x,x;0,?x,!x;1,?x", "c", "-,?c,!c,c;0,?c,!c;1,?c", "-"},
		{"by an import", "-,m=1;0,x;0,!m,?x,?m;2,?x", "cd", "-,c=1;0,d;0,!c,?d,?c;2,?d", "-"},
		{"by an import of what is no module", "-,x,!x;0,!x", "c", "-,c,!c;0,!c", "-"},
		{"modules in modules", "-,m=1;0,m=2;1,m;0,!m;3,!m,?m", "abc", "-,a=1;0,b=2;1,c;0,!a;3,!b,?c", "-"},
		{"a module that imports itself", "-,m=1;0,!m,?m,x,?x", "aa", "-,a=1;0,!a,?a,a,?a", "1.0 1.1"},
		{"the order of places, not of modules", "-,m=2,n=1;0,x;0,y;0,!n,?x;0,!m,?y", "abcd", "-,a=2,b=1;0,c;0,d;0,!b,?c;0,!a,?d", "-"},
		{"not the order of meanings", "-,?y,?x,x,y", "ab", "-,?b,?a,a,b", "-"},

		{"what means nothing has the name already", "-,x,?z;0,!z", "c", "-,c,?z;0,!z", "-"},
		{"what means nothing has a name that is given", "-,x,?c;0,!c", "c", "-,c,?z;0,!z", "-"},
		{"and that of a declaration elsewhere", "-,?x;0,x,?x", "c", "-,?z;0,c,?c", "-"},
		{"what means nothing by an import of nothing", "-,m=1;0,x;0,!n,?x", "ab", "-,a=1;0,b;0,!z,?z", "-"},
		{"what means nothing though all letters are one", "-,x,?q,m=1;0,x;0,!m,!q,?q", "aaa", "-,a,?z,a=1;0,a;0,!a,!z,?z", "2.0"},
		{"declarations with the name of what means nothing", "-,z,?z,?q;0,z", "ba", "-,b,?b,?z;0,a", "-"},

		{"the example of the stage", "-,x,y;0,?x,?y", "aa", "-,a,a;0,?a,?a", "1.0 1.1"},
		{"one that is meant, and one in its scope that is not", "-,x,y,?x", "aa", "-,a,a,?a", "0.2"},
		{"a capture", "-,x;0,y,?x", "aa", "-,a;0,a,?a", "1.1"},
		{"the same the other way round", "-,x,?x;0,y,?y", "aa", "-,a,?a;0,a,?a", "-"},
		{"a capture over scopes", "-,x;0,y;1,w;2,?x", "aba", "-,a;0,b;1,a;2,?a", "3.0"},
		{"what the imports hide", "-,x,m=1;0,y;0,!m,?x", "aba", "-,a,b=1;0,a;0,!b,?a", "2.1"},
		{"what hides the imports", "-,m=1;0,x;0,y,!m,?x", "abb", "-,a=1;0,b;0,b,!a,?b", "2.2"},
		{"two imported scopes", "-,m=1,n=2;0,x;0,y;0,!m,!n,?x,?y", "abcc", "-,a=1,b=2;0,c;0,c;0,!a,!b,?c,?c", "3.2 3.3"},
		{"two modules", "-,m=1,n=2;0,x;0,y;0,!m,?x;0,!n,?y", "aabc", "-,a=1,a=2;0,b;0,c;0,!a,?b;0,!a,?c", "3.0 3.1 4.0 4.1"},
		{"a module and what is in it", "-,m=1;0,x,?m;0,!m,?x", "aa", "-,a=1;0,a,?a;0,!a,?a", "1.1"},
		{"a module and what is imported with it", "-,m=1;0,x;0,!m,?x,?m", "aa", "-,a=1;0,a;0,!a,?a,?a", "2.2"},
		{"what captures an import", "-,m=1;0,x;0,y,!m,?x", "aba", "-,a=1;0,b;0,a,!a,?b", "2.1 2.2"},
		{"what captures an import, though the reference finds another one", "-,m=1;0,x;0,y,!m,?x", "aaa", "-,a=1;0,a;0,a,!a,?a", "2.1 2.2"},
		{"what captures an import, by which another import finds", "-,m=1;0,n=2;1,x;0,w,!m;3,!n,?x", "abca", "-,a=1;0,b=2;1,c;0,a,!a;3,!b,?c", "3.1 4.0 4.1"},
		{"another module, by which nothing is found", "-,m=1;0,x;0,n=3,!m,?x;2,x", "abac", "-,a=1;0,b;0,a=3,!a,?b;2,c", "2.1 2.2"},
		{"another module, by which another one is found", "-,m=1;0,x;0,n=3,!m,?x;2,x", "abab", "-,a=1;0,b;0,a=3,!a,?b;2,b", "2.1 2.2"},
		{"bad ones in the order of places", "-,?x,y,!y;0,?y,?x;1,!x,x,?y;0,?y", "aa", "-,?z,a,!a;0,?a,?z;1,!a,a,?a;0,?a", "2.2"},
		{"bad ones in many scopes", "-,x,y,?x,!y;0,?x,?q;1,!y;0,w,?x,?w;3,?y", "aab", "-,a,a,?a,!a;0,?a,?z;1,!a;0,b,?a,?b;3,?a", "0.2 0.3 1.0 2.0 3.1 4.0"},
		{"all items of full scopes", "-,x,?x,?x,!x,?q;0,!x,!x,!x,?x,?q;1,y,?y,?x,!y,?y;2;2;0,?x,?x,?x,?x,?y", "yb", "-,y,?y,?y,!y,?z;0,!y,!y,!y,?y,?z;1,b,?b,?y,!b,?b;2;2;0,?y,?y,?y,?y,?z", "-"},
	}
	for _, c := range cases {
		t.Run(c.why, func(t *testing.T) { checkNamed(t, parse(t, c.text), c.names, c.want, c.bad) })
	}
}

func TestFreshGraph(t *testing.T) {
	cases := []struct{ why, text, want string }{
		{"the example of the document", "-,x,?x;0,x,?x,?q", "-,a,?a;0,b,?b,?z"},
		{"the script of the document", "-,x,m=1,?x;0,y,x;0,!m,?y,?x", "-,a,b=1,?a;0,c,d;0,!b,?c,?d"},
		{"one scope", "-", "-"},
		{"no items", "-;0;1", "-;0;1"},
		{"no declarations", "-,?x,!x;0,?a", "-,?z,!z;0,?z"},
		{"one declaration", "-,q", "-,a"},
		{"fresh names already", "-,a,b=1,?a;0,c,d;0,!b,?c,?d", "-,a,b=1,?a;0,c,d;0,!b,?c,?d"},
		{"the same in another order", "-,b,a,?a,?b", "-,a,b,?b,?a"},
		{"all of one name, which nobody means", "-,x,x,x;0,x,x;1,x", "-,a,b,c;0,d,e;1,f"},
		{"an import of what is no module, and of nothing", "-,x,!x,!q", "-,a,!a,!z"},
		{"imported ahead of what is around", "-,x,m=1;0,x;0,!m,?x", "-,a,b=1;0,c;0,!b,?c"},
		{"a declaration of the last letter", "-,z,?z,?q", "-,a,?a,?z"},
		{"what means nothing has a name that is given", "-,x,?a;0,!b,y", "-,a,?z;0,!z,b"},
		{"modules in each other of one name", "-,m=1;0,m=2,!m;1,m=3,!m;2,!m,?m", "-,a=1;0,b=2,!b;1,c=3,!c;2,!c,?c"},
		{"modules that import each other", "-,m=1,n=2;0,!n,?x,y;0,!m,?y,x", "-,a=1,b=2;0,!b,?d,c;0,!a,?c,d"},
		{"an import by which an import finds", "-,m=1;0,n=2;1,x;0,!m;3,!n,?x,?n", "-,a=1;0,b=2;1,c;0,!a;3,!b,?c,?b"},
		{"one module by two imports, and what it has once", "-,m=1;0,x;0,!m,!m,?x", "-,a=1;0,b;0,!a,!a,?b"},
		{"two of a name that only their own scopes mean", "-,m=1,n=2;0,x,?x;0,x,?x;0,!m,!n", "-,a=1,b=2;0,c,?c;0,d,?d;0,!a,!b"},
		{"25 declarations", "-,x,x,x,x,y;0,x,x,x,x,x;1,x,x,x,x,x;2,x,x,x,x,x;3,w,x,x,x,x;4,?y,?w,!y,!q,?q", "-,a,b,c,d,e;0,f,g,h,i,j;1,k,l,m,n,o;2,p,q,r,s,t;3,u,v,w,x,y;4,?e,?u,!e,!z,?z"},
	}
	for _, c := range cases {
		t.Run(c.why, func(t *testing.T) { checkFresh(t, parse(t, c.text), c.want) })
	}
}

// fullGraph returns a graph with some number of declarations of one name, in as few scopes as there is room for them, within each other.
func fullGraph(declarations int) impl.Graph {
	g := graph(scope(-1))
	for i := range declarations {
		if i > 0 && i%impl.MaxItems == 0 {
			g.Scopes = append(g.Scopes, scope(len(g.Scopes)-1))
		}
		last := &g.Scopes[len(g.Scopes)-1]
		last.Items = append(last.Items, declares("x"))
	}
	return g
}

// TestManyDeclarations goes through all numbers of declarations: they can always be named, but only 25 of them with fresh names.
func TestManyDeclarations(t *testing.T) {
	for n := range impl.MaxScopes*impl.MaxItems + 1 {
		g := fullGraph(n)
		checkOwn(t, g, strings.Repeat("x", n), min(n, 1))
		all := strings.Repeat(namingLetters, 2)[:n]
		want := strings.ReplaceAll(impl.FormatGraph(g), "x", "%")
		for i := range n {
			want = strings.Replace(want, "%", all[i:i+1], 1)
		}
		checkNamed(t, g, all, want, "-")
		h, _ := impl.NamedGraph(g, all)
		checkOwn(t, h, all, min(n, len(namingLetters)))
		for _, names := range []string{all + "a", all[:max(n, 1)-1] + "z", strings.Repeat("a", n+1), strings.Repeat("a", 1000)} {
			checkNotNamed(t, g, names)
		}
		if n > len(namingLetters) {
			checkNotFresh(t, g)
			continue
		}
		checkFresh(t, g, want)
	}
}

func TestOwnNames(t *testing.T) {
	cases := []struct {
		why, text, want string
		count           int
	}{
		{"the example of the document", "-,x,?x;0,x,?x,?q", "xx", 1},
		{"the script of the document", "-,x,m=1,?x;0,y,x;0,!m,?y,?x", "xmyx", 3},
		{"one scope", "-", "", 0},
		{"no declarations", "-,?x,!y;0;1,?x", "", 0},
		{"one declaration", "-,x", "x", 1},
		{"the order of places, not of letters", "-,z,?a,m=2;0,!b,y;0,c,a", "zmyca", 5},
		{"not in ascending order, and more than once", "-,b,a,b;0,a,c", "babac", 3},
		{"all of one name", "-,x,x;0,x;1,x,x,x", "xxxxxx", 1},
		{"two that are apart", "-,x,a,b;0;1,c,x", "xabcx", 4},
		{"two beside each other", "-,a,b,c,c", "abcc", 3},
		{"the first one and the last one", "-,a,z;0,a", "aza", 2},
		{"all different, what means them too", "-,x,?x,!x;0,y,?x", "xy", 2},
		{"what means several", "-,x,x,?x,y", "xxy", 2},
		{"what means nothing", "-,?x,!y,z", "z", 1},
		{"all letters", "-,a,b,c,d,e;0,f,g,h,i,j;0,k,l,m,n,o;0,p,q,r,s,t;0,u,v,w,x,y;0,z", "abcdefghijklmnopqrstuvwxyz", 26},
		{"all letters, and one of them again", "-,a,b,c,d,e;0,f,g,h,i,j;0,k,l,m,n,o;0,p,q,r,s,t;0,u,v,w,x,y;0,z,a", "abcdefghijklmnopqrstuvwxyza", 26},
	}
	for _, c := range cases {
		t.Run(c.why, func(t *testing.T) { checkOwn(t, parse(t, c.text), c.want, c.count) })
	}
}

// TestNamingOfEveryByte puts each byte at each of three positions of a naming.
func TestNamingOfEveryByte(t *testing.T) {
	g := parse(t, "-,x,?x;0,x,?x;1,x,?x,?q")
	for b := range 256 {
		for at := range 3 {
			names := []byte("fgh")
			names[at] = byte(b)
			if b < 'a' || b > 'y' {
				checkNotNamed(t, g, string(names))
				continue
			}
			text := "-,0,?0;0,1,?1;1,2,?2,?z"
			for i, name := range names {
				mark := string("012"[i])
				text = strings.NewReplacer(","+mark, ","+string(name), "?"+mark, "?"+string(name)).Replace(text)
			}
			checkNamed(t, g, string(names), text, "-")
		}
	}
}

// TestNoNamings goes through texts that are too short, too long, or have what is no letter of a naming.
func TestNoNamings(t *testing.T) {
	for _, c := range validGraphs {
		declared, _ := impl.PlacesOf(c.graph, impl.ItemDeclares)
		n := len(declared)
		names := []string{strings.Repeat("a", n+1), strings.Repeat("a", 100000), strings.Repeat("a", n) + " ", strings.Repeat("a", n) + "\x00", " " + strings.Repeat("a", n), strings.Repeat("a", n) + "z", strings.Repeat("ab ", n+1)}
		if n > 0 {
			few := strings.Repeat("a", n-1)
			names = append(names, few, "", few+"z", "z"+few, few+"A", few+"`", few+"0", few+" ", few+"-", few+"\x00", few+"\xff", few+"é", few+"?a", few+"{")
		}
		for _, s := range names {
			if len(s) == n && strings.Trim(s, namingLetters) == "" {
				t.Fatalf("%q is a naming of %q", s, c.text)
			}
			checkNotNamed(t, c.graph, s)
		}
	}
}

// TestWhatMeansSeveral goes through graphs that cannot be named, since one of their items means several declarations.
func TestWhatMeansSeveral(t *testing.T) {
	cases := []struct{ why, text, names string }{
		{"a reference", "-,x,x,?x", "ab"},
		{"an import", "-,x,x,!x", "ab"},
		{"an import of two modules", "-,m=1,m=2,!m;0;0", "ab"},
		{"an import of a module and a plain one", "-,m=1,m;0;0,!m", "ab"},
		{"by imports", "-,m=1,n=2;0,x;0,x;0,!m,!n,?x", "abcd"},
		{"by one import", "-,m=1;0,x,x;0,!m,?x", "abc"},
		{"the last item of all", "-,x;0,x,?x;1,x,?x;2,y,y,?x,?y", "abcde"},
		{"ahead of its declarations", "-,?x,x,x", "ab"},
		{"several of three", "-,x,y;0,x,x,x,?x", "abcde"},
		{"beside what means nothing", "-,?q,x,x,?x,!r", "ab"},
	}
	for _, c := range cases {
		t.Run(c.why, func(t *testing.T) {
			g := parse(t, c.text)
			own, _ := impl.OwnNames(g)
			if len(own) != len(c.names) {
				t.Fatalf("%q is no naming of %q", c.names, c.text)
			}
			for _, names := range []string{c.names, own, strings.Repeat("a", len(own)), "", c.names + "a"} {
				checkNotNamed(t, g, names)
			}
			checkNotFresh(t, g)
		})
	}
	// Declarations of one name are no hindrance as long as nobody means them together.
	checkFresh(t, parse(t, "-,x,x,y,?y"), "-,a,b,c,?c")
	checkFresh(t, parse(t, "-,m=1,m;0,x,x;0,m,!m,?x"), "-,a=1,b;0,c,d;0,e,!e,?z")
}

func TestNamingInvalidGraphs(t *testing.T) {
	for what, g := range invalidGraphs {
		t.Run(what, func(t *testing.T) {
			for n := range 8 {
				checkNotNamed(t, g, "abcdefgh"[:n])
				checkNotNamed(t, g, "aaaaaaaa"[:n])
			}
			checkNotNamed(t, g, "z")
			checkNotFresh(t, g)
			if impl.IsFresh(g) {
				t.Error("IsFresh is true")
			}
			if names, ok := impl.OwnNames(g); ok || names != "" {
				t.Errorf("OwnNames = %q, %v", names, ok)
			}
			if n := impl.CountNames(g); n != -1 {
				t.Errorf("CountNames = %d", n)
			}
		})
	}
}

// meansSeveral reports whether an item means several declarations.
func meansSeveral(means map[impl.Place][]impl.Place) bool {
	for _, list := range means {
		if len(list) > 1 {
			return true
		}
	}
	return false
}

// ownText writes the names of all declarations, one behind the other.
func (r rest) ownText() string {
	names := ""
	for _, scope := range r.graph.Scopes {
		for _, x := range scope.Items {
			if x.Kind == impl.ItemDeclares {
				names += x.Name
			}
		}
	}
	return names
}

// named gives the letters out to the declarations, then to what means each of them, and the last letter of all to the others.
func (r rest) named(names string, means map[impl.Place][]impl.Place) rest {
	letters := map[impl.Place]string{}
	for s, scope := range r.graph.Scopes {
		for i, x := range scope.Items {
			if x.Kind == impl.ItemDeclares {
				letters[r.stood[s][i]], names = names[:1], names[1:]
			}
		}
	}
	other := rest{stood: r.stood}
	for s, scope := range r.graph.Scopes {
		items := slices.Clone(scope.Items)
		for i := range items {
			items[i].Name = "z"
			for _, d := range means[r.stood[s][i]] {
				items[i].Name = letters[d]
			}
		}
		other.graph.Scopes = append(other.graph.Scopes, impl.Scope{Parent: scope.Parent, Items: items})
	}
	return other
}

// countNamed counts what a naming shows.
func countNamed(r rest, names string, bad []impl.Place, after map[impl.Place][]impl.Place, counts map[string]int) {
	different := map[rune]bool{}
	for _, letter := range names {
		different[letter] = true
	}
	switch {
	case len(bad) == 0 && len(different) == len(names):
		counts["good with as many letters as declarations"]++
	case len(bad) == 0:
		counts["good with fewer letters"]++
	}
	for _, p := range bad {
		what := "references"
		if kindAt(r.graph, p) == impl.ItemImports {
			what = "imports"
		}
		switch len(after[p]) {
		case 0:
			counts["bad for "+what+" that mean nothing then"]++
		case 1:
			counts["bad for "+what+" that mean another one then"]++
		default:
			counts["bad for "+what+" that mean several then"]++
		}
	}
}

// checkNamingModel compares what a graph is with the names of namings, and what means something else then, with the model.
func checkNamingModel(t *testing.T, r rest, namings []string, counts map[string]int) {
	t.Helper()
	own := r.ownText()
	different := map[rune]bool{}
	for _, letter := range own {
		different[letter] = true
	}
	checkOwn(t, r.graph, own, len(different))
	means := r.meanings()
	if meansSeveral(means) {
		counts["not to be named"]++
		checkNotFresh(t, r.graph)
		checkNotNamed(t, r.graph, own)
		checkNotNamed(t, r.graph, strings.Repeat(namingLetters, 2)[:len(own)])
		return
	}
	if len(own) <= len(namingLetters) {
		checkFresh(t, r.graph, impl.FormatGraph(r.named(namingLetters[:len(own)], means).graph))
	} else {
		checkNotFresh(t, r.graph)
	}
	for _, names := range namings {
		other := r.named(names, means)
		after := other.meanings()
		bad := r.differences(means, after)
		countNamed(r, names, bad, after, counts)
		checkNamed(t, r.graph, names, impl.FormatGraph(other.graph), impl.FormatPlaces(bad))
	}
}

// allNamings returns all namings of some number of declarations with two letters.
func allNamings(declarations int) []string {
	list := []string{""}
	for range declarations {
		var longer []string
		for _, names := range list {
			longer = append(longer, names+"a", names+"b")
		}
		list = longer
	}
	return list
}

// TestAllSmallNaming goes through a module m beside a scope, with at most one of four items ahead of it, and all lists of at most two of them in each of these scopes.
func TestAllSmallNaming(t *testing.T) {
	t.Parallel()
	items := []impl.Item{declares("m"), declares("x"), refers("x"), imports("m")}
	lists := itemLists(items, 2)
	counts := map[string]int{}
	for _, first := range itemLists(items, 1) {
		for _, second := range lists {
			for _, third := range lists {
				r := wholeRest(graph(scope(-1, append(slices.Clone(first), module("m", 1))...), scope(0, second...), scope(0, third...)))
				checkNamingModel(t, r, allNamings(len(r.ownText())), counts)
				stopIfFailed(t)
			}
		}
	}
}

// naming makes a naming with one of the first letters for each declaration.
func (m *graphMaker) naming(declarations int, letters int) string {
	names := ""
	for range declarations {
		names += string(namingLetters[m.below(letters)])
	}
	return names
}

// TestManyNamings goes through graphs of all sizes, and counts what they show, so that the test is known to see it.
func TestManyNamings(t *testing.T) {
	t.Parallel()
	maker := &graphMaker{}
	counts := map[string]int{}
	for i := range 3000 {
		r := wholeRest(maker.users(i))
		var namings []string
		for _, letters := range []int{1, 2, 3, 5, len(namingLetters)} {
			namings = append(namings, maker.naming(len(r.ownText()), letters))
		}
		checkNamingModel(t, r, namings, counts)
		stopIfFailed(t)
	}
	for _, what := range []string{"not to be named", "good with as many letters as declarations", "good with fewer letters", "bad for references that mean nothing then", "bad for references that mean another one then", "bad for references that mean several then", "bad for imports that mean nothing then", "bad for imports that mean another one then", "bad for imports that mean several then"} {
		if counts[what] < 50 {
			t.Errorf("only %d are %s", counts[what], what)
		}
	}
}

// nameable makes the next graph of which no item means several declarations.
func (m *graphMaker) nameable(i int) impl.Graph {
	for {
		g := m.users(i)
		if list, _ := impl.ItemsIn(g, impl.StateAmbiguous); len(list) == 0 {
			return g
		}
	}
}

// TestFreshNamesMeanTheSame checks the promise by itself: with fresh names, whichever letters they are, all items mean the same, and each name tells what an item means, wherever this stands.
func TestFreshNamesMeanTheSame(t *testing.T) {
	maker := &graphMaker{}
	bound, missing := 0, 0
	for i := range 3000 {
		g := maker.nameable(i)
		declared, _ := impl.PlacesOf(g, impl.ItemDeclares)
		if len(declared) > len(namingLetters) {
			continue
		}
		h, ok := impl.FreshGraph(g)
		if own, _ := impl.OwnNames(h); !ok || own != namingLetters[:len(declared)] || impl.TableOf(g) != impl.TableOf(h) || !impl.SameTable(g, h) {
			t.Fatalf("%q becomes %q, %v", impl.FormatGraph(g), impl.FormatGraph(h), ok)
		}
		for s, scope := range h.Scopes {
			for j, x := range scope.Items {
				p := impl.Place{Scope: s, Index: j}
				want := impl.FormatPlaces(nil)
				if at := strings.Index(namingLetters[:len(declared)], x.Name); at >= 0 {
					want = placeText(declared[at])
					bound++
				} else if missing++; x.Name != "z" {
					t.Fatalf("%q becomes %q", impl.FormatGraph(g), impl.FormatGraph(h))
				}
				if means, _ := impl.ResolveItem(g, p); impl.FormatPlaces(means) != want {
					t.Fatalf("%q becomes %q, in which %v has the name of %s", impl.FormatGraph(g), impl.FormatGraph(h), p, want)
				}
			}
		}
		if again, ok := impl.FreshGraph(h); !ok || !sameGraph(again, h) {
			t.Fatalf("%q becomes %q, and then %q", impl.FormatGraph(g), impl.FormatGraph(h), impl.FormatGraph(again))
		}
		others := []byte(namingLetters[len(namingLetters)-len(declared):])
		slices.Reverse(others)
		if !impl.IsGoodNaming(g, string(others)) {
			t.Fatalf("%q cannot have the names %s", impl.FormatGraph(g), others)
		}
	}
	if bound < 10000 || missing < 1000 {
		t.Errorf("only %d items mean something, and %d nothing", bound, missing)
	}
}

// TestOwnNamesAreGood checks that the names that a graph has leave it as it is, but for what means nothing.
func TestOwnNamesAreGood(t *testing.T) {
	maker := &graphMaker{}
	for i := range 1500 {
		g := maker.nameable(i)
		r := wholeRest(g)
		means := r.meanings()
		for s, scope := range g.Scopes {
			for j := range scope.Items {
				if len(means[impl.Place{Scope: s, Index: j}]) == 0 {
					scope.Items[j].Name = "z"
				}
			}
		}
		own, _ := impl.OwnNames(g)
		checkNamed(t, g, own, impl.FormatGraph(g), "-")
		stopIfFailed(t)
	}
}

// TestNamedTwice checks that good names lose nothing: with others behind them a graph is the same as with these alone.
func TestNamedTwice(t *testing.T) {
	maker := &graphMaker{}
	good := 0
	for i := range 1500 {
		g := maker.nameable(i)
		own, _ := impl.OwnNames(g)
		first, second := maker.naming(len(own), 6), maker.naming(len(own), 6)
		if !impl.IsGoodNaming(g, first) {
			continue
		}
		good++
		h, _ := impl.NamedGraph(g, first)
		bad, _ := impl.BadNaming(g, second)
		want, _ := impl.NamedGraph(g, second)
		checkNamed(t, h, second, impl.FormatGraph(want), impl.FormatPlaces(bad))
		stopIfFailed(t)
	}
	if good < 300 {
		t.Errorf("only %d namings are good", good)
	}
}

// TestNamedAsRenamed checks that one letter of a naming does what a renaming does.
func TestNamedAsRenamed(t *testing.T) {
	t.Parallel()
	maker := &graphMaker{}
	good, bad := 0, 0
	for i := range 400 {
		g, ok := impl.FreshGraph(maker.nameable(i))
		if !ok {
			continue
		}
		declared, _ := impl.PlacesOf(g, impl.ItemDeclares)
		own := namingLetters[:len(declared)]
		for at, p := range declared {
			for _, letter := range own + "y" {
				names := own[:at] + string(letter) + own[at+1:]
				h, _ := impl.RenameAt(g, p, string(letter))
				changes, _ := impl.RenameChanges(g, p, string(letter))
				checkNamed(t, g, names, impl.FormatGraph(h), impl.FormatPlaces(changes))
				stopIfFailed(t)
				if len(changes) == 0 {
					good++
				} else {
					bad++
				}
			}
		}
	}
	if good < 1000 || bad < 1000 {
		t.Errorf("only %d namings are good, and %d bad", good, bad)
	}
}

// TestNamingStays checks that no function of the chapter changes a graph, or the memory behind its scopes and items.
func TestNamingStays(t *testing.T) {
	g, check := watched(t)
	for _, names := range []string{"abc", "aaa", "mxy", "", "abz", "abcd"} {
		impl.NamedGraph(g, names)
		impl.BadNaming(g, names)
		impl.IsGoodNaming(g, names)
	}
	impl.FreshGraph(g)
	impl.IsFresh(g)
	impl.OwnNames(g)
	impl.CountNames(g)
	check()
}

// TestNamedGraphsAreNew checks that graphs share no memory, even if no name becomes another one.
func TestNamedGraphsAreNew(t *testing.T) {
	for _, text := range []string{"-,a,?a,b=1;0,c,?c;0,!b,?c", "-,x,y,?x;0;1,z,?q", "-,x,y,?x;0,x"} {
		checkNewGraph(t, "FreshGraph", roomy(t, text), impl.FreshGraph)
		for _, names := range []string{"abc", "xyx"} {
			checkNewGraph(t, "NamedGraph "+names, roomy(t, text), func(g impl.Graph) (impl.Graph, bool) { return impl.NamedGraph(g, names) })
		}
	}
}

// TestBadNamingsAreNew checks that lists share no memory, their unused capacity included.
func TestBadNamingsAreNew(t *testing.T) {
	g := parse(t, "-,x,y,?x,?y;0,?x,?x,?y")
	checkNew(t, "BadNaming", func() []impl.Place { list, _ := impl.BadNaming(g, "aa"); return list }, impl.Place{Scope: 9, Index: 9})
}
