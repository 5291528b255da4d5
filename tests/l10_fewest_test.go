package tests

import (
	"math"
	"slices"
	"strings"
	"testing"

	"loop.example/scopegraphs/impl"
)

// checkFewest compares the fewest names and the graph that has them, and checks that this is as good and needs no fewer.
func checkFewest(t *testing.T, g impl.Graph, names string, want string) {
	t.Helper()
	if got, ok := impl.FewestNames(g); !ok || got != names {
		t.Errorf("FewestNames(%q) = %q, %v, want %q", impl.FormatGraph(g), got, ok, names)
	}
	h, ok := impl.FewestGraph(g)
	if !ok || impl.FormatGraph(h) != want {
		t.Errorf("FewestGraph(%q) = %q, %v, want %q", impl.FormatGraph(g), impl.FormatGraph(h), ok, want)
	}
	if !impl.SameTable(g, h) || !impl.IsFewest(h) {
		t.Errorf("%q becomes %q, IsFewest %v", impl.FormatGraph(g), impl.FormatGraph(h), impl.IsFewest(h))
	}
	if again, ok := impl.FewestNames(h); !ok || again != names {
		t.Errorf("FewestNames(%q) = %q, %v, want %q", impl.FormatGraph(h), again, ok, names)
	}
	if fewest := impl.IsFewest(g); fewest != (impl.CountNames(g) == countLetters(names)) {
		t.Errorf("IsFewest(%q) = %v", impl.FormatGraph(g), fewest)
	}
}

// checkGreedy compares the names that are given one after the other.
func checkGreedy(t *testing.T, g impl.Graph, want string) {
	t.Helper()
	if names, ok := impl.GreedyNames(g); !ok || names != want {
		t.Errorf("GreedyNames(%q) = %q, %v, want %q", impl.FormatGraph(g), names, ok, want)
	}
	if !impl.IsGoodNaming(g, want) {
		t.Errorf("%q is not good for %q", want, impl.FormatGraph(g))
	}
}

// checkNotFewest checks that a graph gets no fewest names.
func checkNotFewest(t *testing.T, g impl.Graph) {
	t.Helper()
	if names, ok := impl.FewestNames(g); ok || names != "" {
		t.Errorf("FewestNames(%v) = %q, %v", g, names, ok)
	}
	if h, ok := impl.FewestGraph(g); ok || len(h.Scopes) != 0 {
		t.Errorf("FewestGraph(%v) = %v, %v", g, h, ok)
	}
	if names, ok := impl.GreedyNames(g); ok || names != "" {
		t.Errorf("GreedyNames(%v) = %q, %v", g, names, ok)
	}
	if impl.IsFewest(g) {
		t.Errorf("IsFewest(%v) is true", g)
	}
}

// checkConflicts compares the declarations with which one cannot share a name, and checks that it can with all others.
func checkConflicts(t *testing.T, g impl.Graph, p impl.Place, want string) {
	t.Helper()
	list, ok := impl.ConflictsOf(g, p)
	if !ok || impl.FormatPlaces(list) != want {
		t.Errorf("ConflictsOf(%q, %v) = %v, %v, want %s", impl.FormatGraph(g), p, list, ok, want)
	}
	declared, _ := impl.PlacesOf(g, impl.ItemDeclares)
	for _, q := range declared {
		can := q != p && !slices.Contains(list, q)
		if impl.CanShare(g, p, q) != can || impl.CanShare(g, q, p) != can {
			t.Errorf("CanShare(%q, %v, %v) = %v, the other way round %v, want %v", impl.FormatGraph(g), p, q, impl.CanShare(g, p, q), impl.CanShare(g, q, p), can)
		}
	}
}

// checkNoConflicts checks that there is no declaration to share a name at a place.
func checkNoConflicts(t *testing.T, g impl.Graph, p impl.Place) {
	t.Helper()
	if list, ok := impl.ConflictsOf(g, p); ok || len(list) != 0 {
		t.Errorf("ConflictsOf(%v, %v) = %v, %v", g, p, list, ok)
	}
	for s := range impl.MaxScopes {
		for i := range impl.MaxItems {
			q := impl.Place{Scope: s, Index: i}
			if impl.CanShare(g, p, q) || impl.CanShare(g, q, p) {
				t.Errorf("CanShare(%v, %v, %v) = %v, the other way round %v", g, p, q, impl.CanShare(g, p, q), impl.CanShare(g, q, p))
			}
		}
	}
	if impl.CanShare(g, p, p) {
		t.Errorf("CanShare(%v, %v, %v) is true", g, p, p)
	}
}

// checkNothingShared checks that all functions refuse a graph, whatever the place.
func checkNothingShared(t *testing.T, g impl.Graph) {
	t.Helper()
	checkNotFewest(t, g)
	for s := range impl.MaxScopes + 1 {
		for i := range impl.MaxItems + 1 {
			checkNoConflicts(t, g, impl.Place{Scope: s, Index: i})
		}
	}
}

// countLetters returns how many different letters a text has.
func countLetters(text string) int {
	different := map[rune]bool{}
	for _, letter := range text {
		different[letter] = true
	}
	return len(different)
}

func TestFewestNames(t *testing.T) {
	cases := []struct{ why, text, names, want string }{
		{"the example of the document", "-,x,?x;0,y,?x;0,w,?w", "aba", "-,a,?a;0,b,?a;0,a,?a"},
		{"the script of the document", "-,x,m=1,?x;0,y,x;0,!m,?y,?x", "abab", "-,a,b=1,?a;0,a,b;0,!b,?a,?b"},
		{"one scope", "-", "", "-"},
		{"no items", "-;0;1", "", "-;0;1"},
		{"no declarations", "-,?x,!y;0;1,?x", "", "-,?z,!z;0;1,?z"},
		{"one declaration", "-,q,?q", "a", "-,a,?a"},
		{"one declaration of the last letter", "-,z,?q", "a", "-,a,?z"},
		{"one that nobody means", "-,x", "a", "-,a"},
		{"several that nobody means", "-,x,y,z", "aaa", "-,a,a,a"},
		{"nobody means them, but of their names are items elsewhere", "-,?x,!y,?w;0,x,y;0,w", "aaa", "-,?z,!z,?z;0,a,a;0,a"},
		{"seven that nobody means", "-,a,b,c;0,d,e;1,f;0,g", "aaaaaaa", "-,a,a,a;0,a,a;1,a;0,a"},
		{"modules that nobody means", "-,m=1,n=2;0,x;0,x", "aaaa", "-,a=1,a=2;0,a;0,a"},
		{"each one meant from its own scope alone", "-,x,?x;0,y,?y;1,w,?w", "aaa", "-,a,?a;0,a,?a;1,a,?a"},
		{"two of a scope", "-,x,y;0,?x,?y", "ab", "-,a,b;0,?a,?b"},
		{"two of a scope, of which one is meant", "-,x,y,?y", "ab", "-,a,b,?b"},
		{"two of a name that nobody means, beside one that is meant", "-,x,x,y,?y", "aab", "-,a,a,b,?b"},
		{"and ahead of others", "-,y,x,w,x,?y", "abbb", "-,a,b,b,b,?a"},
		{"the last one alone", "-,a,?a;0,b,?b;0,c,?c;0,d,?d;0,e,?e;0,f,?f,g", "aaaaaab", "-,a,?a;0,a,?a;0,a,?a;0,a,?a;0,a,?a;0,a,?a,b"},
		{"a module and what is in it", "-,m=1;0,x;0,!m,?x", "aa", "-,a=1;0,a;0,!a,?a"},
		{"a module whose name is meant where it is imported", "-,m=1;0,x;0,!m,?x,?m", "ab", "-,a=1;0,b;0,!a,?b,?a"},
		{"an own one, an imported one and one around", "-,x,m=1;0,y;0,w,!m,?w,?x,?y", "abbc", "-,a,b=1;0,b;0,c,!b,?c,?a,?b"},
		{"what means nothing hinders nothing", "-,x;0,y;0,w,?q", "aaa", "-,a;0,a;0,a,?z"},
		{"letters come by the order of places", "-,?y,y,x,?x", "ab", "-,?a,a,b,?b"},
		{"all of seven in each other's way", "-,a,b,c,d,e;0,f,g,?a,?b,?c;1,?d,?e,?f,?g", "abcdefg", "-,a,b,c,d,e;0,f,g,?a,?b,?c;1,?d,?e,?f,?g"},
		{"the same with other names", "-,g,f,e,d,c;0,b,a,?g,?f,?e;1,?d,?c,?b,?a", "abcdefg", "-,a,b,c,d,e;0,f,g,?a,?b,?c;1,?d,?e,?f,?g"},
		{"all of seven but the last one", "-,a,b,c,d,e;0,f,?a,?b,?c;1,?d,?e,?f;1,g", "abcdefa", "-,a,b,c,d,e;0,f,?a,?b,?c;1,?d,?e,?f;1,a"},
		{"all of seven but two of a scope", "-,a,b,c,d,e;0,f,g,?a,?b,?c;1,?d,?e", "abcdeff", "-,a,b,c,d,e;0,f,f,?a,?b,?c;1,?d,?e"},
		{"fewer than one after the other", "-,a,d=1,!a;0,c;0,b,?c,!d", "abba", "-,a,b=1,!a;0,b;0,a,?b,!b"},
		{"three letters instead of four", "-,a=1,e=2;0,b,c,!c;0,d,?e,?c,!a;0;3,?c", "abcac", "-,a=1,b=2;0,c,a,!a;0,c,?b,?a,!a;0;3,?z"},
	}
	for _, c := range cases {
		t.Run(c.why, func(t *testing.T) { checkFewest(t, parse(t, c.text), c.names, c.want) })
	}
}

// greedyCases holds graphs whose names are more if they are given one after the other.
var greedyCases = []struct{ text, fewest, greedy string }{
	{"-,a,d=1,!a;0,c;0,b,?c,!d", "abba", "abac"},
	{"-,a=1,?a;0,c,d,!b;0,b,?d,!a", "abab", "aabc"},
	{"-,a=2;0,c,!a,?d;0,b,d,e", "abbab", "abaca"},
	{"-;0,a=2,d;1,b,c;1,e,!a,?c", "abbab", "ababc"},
	{"-,a=1;0,b,c;0,e,!a,?d;2,d,?c", "ababb", "aabca"},
	{"-,a=2;0;0,b=4,e;0,c,d,?e,!a;2", "ababb", "aabcc"},
	{"-,a,c,d=1,?a;0,b;0,e,?b,!d,?a", "abccb", "abcbd"},
	{"-,a=1,e=2;0,b,c,!c;0,d,?e,?c,!a;0;3,?c", "abcac", "abacd"},
	{"-,b=1,d=2,e,?a;0;0,c;1,a;3,?c,?a,!d,?a", "ababa", "abaac"},
}

func TestGreedyNames(t *testing.T) {
	cases := []struct{ why, text, want string }{
		{"the example of the document", "-,x,?x;0,y,?x;0,w,?w", "aba"},
		{"the script of the document", "-,a,b=1,?a;0,a,b;0,!b,?a,?b", "abab"},
		{"one scope", "-", ""},
		{"no declarations", "-,?x,!y;0;1,?x", ""},
		{"one declaration", "-,q", "a"},
		{"nobody means them", "-,x,y;0,w;1,z", "aaaa"},
		{"two of a scope", "-,x,y;0,?x,?y", "ab"},
		{"the first letter that is free, not the next one", "-,x,?x;0,y,?x;0,w,?y,?w;0,v,?x", "abab"},
		{"all of seven in each other's way", "-,a,b,c,d,e;0,f,g,?a,?b,?c;1,?d,?e,?f,?g", "abcdefg"},
		{"all of seven but the last one", "-,a,b,c,d,e;0,f,?a,?b,?c;1,?d,?e,?f;1,g", "abcdefa"},
		{"all of seven but two of a scope", "-,a,b,c,d,e;0,f,g,?a,?b,?c;1,?d,?e", "abcdeff"},
		{"what would hide the first one, but not the second one", "-,x,m=1;0,y;0,!m,?x", "abb"},
	}
	for _, c := range cases {
		t.Run(c.why, func(t *testing.T) { checkGreedy(t, parse(t, c.text), c.want) })
	}
	for _, c := range greedyCases {
		t.Run(c.text, func(t *testing.T) {
			g := parse(t, c.text)
			checkGreedy(t, g, c.greedy)
			want, _ := impl.NamedGraph(g, c.fewest)
			checkFewest(t, g, c.fewest, impl.FormatGraph(want))
			if h, _ := impl.NamedGraph(g, c.greedy); impl.IsFewest(h) {
				t.Errorf("IsFewest(%q) is true", impl.FormatGraph(h))
			}
		})
	}
}

func TestConflicts(t *testing.T) {
	full := "-,a,b,c,d,e;0,f,g,h,i,j;1,k,l,m,n,o;2,p,q,r,s,t;3,u,v,w,x,y;4"
	cases := []struct{ why, text, p, want string }{
		{"the example of the document", "-,x,?x;0,y,?x;0,w,?w", "0.0", "1.0"},
		{"the other way round", "-,x,?x;0,y,?x;0,w,?w", "1.0", "0.0"},
		{"none", "-,x,?x;0,y,?x;0,w,?w", "2.0", "-"},
		{"the script of the document", "-,x,m=1,?x;0,y,x;0,!m,?y,?x", "1.1", "1.0"},
		{"no other declaration", "-,?x,x", "0.1", "-"},
		{"nobody means them", "-,x,y,w;0,v", "0.1", "-"},
		{"beside one that is meant", "-,x,y,?x", "0.1", "0.0"},
		{"that is meant itself", "-,x,y,?x", "0.0", "0.1"},
		{"two of one name", "-,x,x,y,?y", "0.0", "0.2"},
		{"two of one name elsewhere", "-,x,?x;0,x,?x", "0.0", "-"},
		{"all others, in order", "-,a,b,c,d,e;0,?c", "0.2", "0.0 0.1 0.3 0.4"},
		{"it alone", "-,a,b,c,d,e;0,?c", "0.4", "0.2"},
		{"all between it and a reference", "-,x;0,y;1,w;2,?x", "0.0", "1.0 2.0"},
		{"only what is on the way", "-,x;0,y;0,w;2,?x", "0.0", "2.0"},
		{"not those further outside", "-,x;0,y;1,w;2,?y", "1.0", "2.0"},
		{"by a reference ahead of it", "-,?y,x,y", "0.1", "0.2"},
		{"by an import of what is no module", "-,x,y,!x", "0.0", "0.1"},
		{"by an import from within", "-,m=1;0;0,x;2,y,!m", "0.0", "2.0 3.0"},
		{"not by what means nothing", "-,x,y,?q,!r", "0.0", "-"},
		{"those imported ahead of it", "-,x,m=1;0,y;0,!m,?x", "0.0", "0.1 1.0"},
		{"the one imported", "-,x,m=1;0,y;0,!m,?x", "1.0", "0.0"},
		{"the module", "-,x,m=1;0,y;0,!m,?x", "0.1", "0.0"},
		{"those imported beside it", "-,m=1,n=2;0,x;0,y;0,!m,!n,?x", "1.0", "2.0"},
		{"not those of modules that are not imported", "-,m=1,n=2;0,x;0,y;0,!m,?x", "1.0", "-"},
		{"not those that are imported by the imported one", "-,n=2,m=1;0,x,!n;0,y;0,!m,?x", "2.0", "-"},
		{"but the module whose import it would capture", "-,n=2,m=1;0,x,!n;0,y;0,!m,?x", "1.0", "0.0"},
		{"not those that are imported where own ones come first", "-,m=1;0,x;0,y,!m,?y", "1.0", "-"},
		{"what captures the import too", "-,m=1;0,x;0,y,!m,?x", "2.0", "0.0 1.0"},
		{"another module of the scope", "-,m=1,n=2;0;0;0,!n", "0.0", "0.1"},
		{"an import that means one of its own scope", "-,x;0,m=2,y,!m;1", "1.0", "1.1"},
		{"25 declarations, none of them meant", full, "0.0", "-"},
		{"25 declarations, and the innermost one is meant", full + ",?y", "4.4", "4.0 4.1 4.2 4.3"},
		{"25 declarations, and the outermost one is meant", full + ",?a", "0.0", "0.1 0.2 0.3 0.4 1.0 1.1 1.2 1.3 1.4 2.0 2.1 2.2 2.3 2.4 3.0 3.1 3.2 3.3 3.4 4.0 4.1 4.2 4.3 4.4"},
		{"the last of 25 declarations", full + ",?a,?k,?x", "4.4", "0.0 2.0 4.3"},
	}
	for _, c := range cases {
		t.Run(c.why, func(t *testing.T) { checkConflicts(t, parse(t, c.text), place(t, c.p), c.want) })
	}
}

func TestIsFewest(t *testing.T) {
	cases := []struct {
		why, text string
		want      bool
	}{
		{"the example of the document", "-,x,?x;0,y,?x;0,w,?w", false},
		{"the same with two names", "-,x,?x;0,y,?x;0,x,?x", true},
		{"the same with two other names", "-,q,?q;0,p,?q;0,p,?p", true},
		{"no declarations", "-,?x;0", true},
		{"one declaration", "-,x", true},
		{"the last letter", "-,z,?q", true},
		{"two that nobody means", "-,x,y", false},
		{"two of one name that nobody means", "-,x,x", true},
		{"two names that are needed", "-,x,y,?x", true},
		{"three names, of which two are needed", "-,x,y,w,?x", false},
		{"two of a name beside one", "-,x,y,y,?x", true},
		{"an item that means several", "-,x,x,?x", false},
		{"seven names that are needed", "-,t,u,v,w,x;0,y,z,?t,?u,?v;1,?w,?x,?y,?z", true},
		{"seven names, of which six are needed", "-,t,u,v,w,x;0,y,z,?t,?u,?v;1,?w,?x", false},
		{"one name of eight declarations", "-,a,a,a,a,a;0,a,a,a", false},
		{"names as by one after the other", "-,a,b=1,!a;0,a;0,c,?a,!b", false},
	}
	for _, c := range cases {
		t.Run(c.why, func(t *testing.T) {
			if fewest := impl.IsFewest(parse(t, c.text)); fewest != c.want {
				t.Errorf("IsFewest(%q) = %v", c.text, fewest)
			}
		})
	}
}

// TestDeclarationsToShare goes through all numbers of declarations that nobody means: up to seven get the fewest names, and up to 25 can share one.
func TestDeclarationsToShare(t *testing.T) {
	if impl.MaxNamed != 7 {
		t.Errorf("MaxNamed is %d", impl.MaxNamed)
	}
	for n := range impl.MaxScopes*impl.MaxItems + 1 {
		g := fullGraph(n)
		if n <= impl.MaxNamed {
			names := strings.Repeat("a", n)
			checkFewest(t, g, names, strings.ReplaceAll(impl.FormatGraph(g), "x", "a"))
			checkGreedy(t, g, names)
			if !impl.IsFewest(g) {
				t.Errorf("IsFewest(%q) is false", impl.FormatGraph(g))
			}
		} else {
			checkNotFewest(t, g)
		}
		declared, _ := impl.PlacesOf(g, impl.ItemDeclares)
		for _, p := range declared {
			if n <= len(namingLetters) {
				checkConflicts(t, g, p, "-")
			} else {
				checkNoConflicts(t, g, p)
			}
		}
	}
}

// TestLettersOfShared checks that the letters of all others are different ones: for 26 declarations there are too few, even if two of them share one.
func TestLettersOfShared(t *testing.T) {
	for _, rest := range []string{"", ",?a", ",?z"} {
		g := parse(t, "-,a,b,c,d,e;0,f,g,h,i,j;1,k,l,m,n,o;2,p,q,r,s,t;3,u,v,w,x,y;4,z"+rest)
		checkNothingShared(t, g)
	}
}

// TestNoPlacesToShare goes through places without declarations.
func TestNoPlacesToShare(t *testing.T) {
	g := parse(t, "-,x,?x,!x;0,?y,y,!y,w;0")
	if !impl.CanShare(g, place(t, "0.0"), place(t, "1.3")) {
		t.Error("CanShare is false")
	}
	for _, text := range []string{"0.1", "0.2", "0.3", "0.4", "0.5", "1.0", "1.2", "1.4", "2.0", "3.0", "6.0", "0.6", "99999999999999999.0", "0.99999999999999999"} {
		checkNoConflicts(t, g, place(t, text))
	}
	for _, n := range []int{-1, -2, math.MinInt, math.MaxInt} {
		checkNoConflicts(t, g, impl.Place{Scope: n})
		checkNoConflicts(t, g, impl.Place{Index: n})
		checkNoConflicts(t, g, impl.Place{Scope: n, Index: n})
		checkNoConflicts(t, g, impl.Place{Scope: 1, Index: n})
	}
	for _, p := range []impl.Place{{}, {Scope: 1, Index: 1}, {Scope: 1, Index: 3}} {
		if impl.CanShare(g, p, p) {
			t.Errorf("CanShare is true for %v and itself", p)
		}
	}
}

// TestSeveralAreNotShared goes through graphs of which an item means several declarations, wherever the others stand.
func TestSeveralAreNotShared(t *testing.T) {
	for _, text := range []string{"-,x,x,?x", "-,x,x,!x", "-,m=1,m=2,!m;0;0", "-,m=1,m;0;0,!m", "-,m=1,n=2;0,x;0,x;0,!m,!n,?x", "-,m=1;0,x,x;0,!m,?x", "-,?x,x,x", "-,x,y;0,x,x,x,?x", "-,a,?a;0,b,?b;1,c,c;2,?c,?a", "-,z,z,y;0,?z", "-,x,x;0,?x;0,?q,w"} {
		checkNothingShared(t, parse(t, text))
	}
}

func TestFewestOfInvalidGraphs(t *testing.T) {
	for what, g := range invalidGraphs {
		t.Run(what, func(t *testing.T) { checkNothingShared(t, g) })
	}
}

// A namingModel tells which namings of a graph are good, and writes this down.
type namingModel struct {
	rest
	means map[impl.Place][]impl.Place
	known map[string]bool
}

// good tells whether nothing means something else with the names of a naming.
func (m *namingModel) good(names string) bool {
	good, known := m.known[names]
	if !known {
		good = len(m.differences(m.means, m.named(names, m.means).meanings())) == 0
		m.known[names] = good
	}
	return good
}

// shared returns the letters in order, with that of one declaration in place of that of another one behind it.
func shared(declarations, first, second int) string {
	return namingLetters[:second] + namingLetters[first:first+1] + namingLetters[second+1:declarations]
}

// isOrdered reports whether each letter of a text stands only if all before it have stood already further ahead.
func isOrdered(names string) bool {
	for i := range names {
		for _, letter := range namingLetters[:strings.Index(namingLetters, names[i:i+1])] {
			if !strings.ContainsRune(names[:i], letter) {
				return false
			}
		}
	}
	return true
}

// allOrdered returns all such namings of some number of declarations, in the order of the alphabet.
func allOrdered(declarations int) []string {
	list := []string{""}
	for range declarations {
		var longer []string
		for _, names := range list {
			for _, letter := range namingLetters[:countLetters(names)+1] {
				longer = append(longer, names+string(letter))
			}
		}
		list = longer
	}
	return list
}

// allTexts returns all texts of some length with the first letters, in the order of the alphabet.
func allTexts(length int, letters int) []string {
	list := []string{""}
	for range length {
		var longer []string
		for _, names := range list {
			for _, letter := range namingLetters[:letters] {
				longer = append(longer, names+string(letter))
			}
		}
		list = longer
	}
	return list
}

// fewest goes through all namings by which letters are shared, from few letters to many.
func (m *namingModel) fewest(declarations int) string {
	all := allOrdered(declarations)
	for count := range declarations + 1 {
		for _, names := range all {
			if countLetters(names) == count && m.good(names) {
				return names
			}
		}
	}
	return "none"
}

// fewestOfAll goes through all namings with one letter more than there are declarations, as the document has it.
func (m *namingModel) fewestOfAll(declarations int) string {
	all := slices.DeleteFunc(allTexts(declarations, declarations+1), func(names string) bool { return !m.good(names) })
	fewest := declarations
	for _, names := range all {
		fewest = min(fewest, countLetters(names))
	}
	all = slices.DeleteFunc(all, func(names string) bool { return countLetters(names) != fewest || !isOrdered(names) })
	return slices.Min(all)
}

// greedy gives one letter after the other.
func (m *namingModel) greedy(declarations int) string {
	names := namingLetters[:declarations]
	for i := range declarations {
		for own := 0; own <= i; own++ {
			if other := names[:i] + namingLetters[own:own+1] + names[i+1:]; m.good(other) {
				names = other
				break
			}
		}
	}
	return names
}

// conflicts returns the other declarations with which one cannot share a letter.
func (m *namingModel) conflicts(declared []impl.Place, at int) []impl.Place {
	var list []impl.Place
	for other, q := range declared {
		if other != at && !m.good(shared(len(declared), min(at, other), max(at, other))) {
			list = append(list, q)
		}
	}
	return list
}

// checkConflictsModel compares with which others each declaration cannot share a name with the model.
func checkConflictsModel(t *testing.T, m *namingModel, declared []impl.Place, counts map[string]int) {
	t.Helper()
	for at, p := range declared {
		if len(declared) > len(namingLetters) {
			counts["of too many to share"]++
			checkNoConflicts(t, m.graph, p)
			continue
		}
		list := m.conflicts(declared, at)
		checkConflicts(t, m.graph, p, impl.FormatPlaces(list))
		switch {
		case len(list) == 0:
			counts["without conflicts"]++
		case len(list) == len(declared)-1:
			counts["in conflict with all others"]++
		default:
			counts["in conflict with some"]++
		}
	}
}

// checkFewestModel compares all that is shared in a graph with the model.
func checkFewestModel(t *testing.T, g impl.Graph, counts map[string]int) {
	t.Helper()
	r := wholeRest(g)
	m := &namingModel{r, r.meanings(), map[string]bool{}}
	declared, _ := impl.PlacesOf(g, impl.ItemDeclares)
	if meansSeveral(m.means) {
		counts["not to be shared"]++
		checkNotFewest(t, g)
		for _, p := range declared {
			checkNoConflicts(t, g, p)
		}
		return
	}
	checkConflictsModel(t, m, declared, counts)
	n := len(declared)
	if n > impl.MaxNamed {
		counts["too many for the fewest names"]++
		checkNotFewest(t, g)
		return
	}
	fewest, greedy := m.fewest(n), m.greedy(n)
	if n <= 3 && m.fewestOfAll(n) != fewest {
		t.Fatalf("the fewest names of %q are %q or %q", impl.FormatGraph(g), fewest, m.fewestOfAll(n))
	}
	checkFewest(t, g, fewest, impl.FormatGraph(r.named(fewest, m.means).graph))
	checkGreedy(t, g, greedy)
	counts["with "+string(rune('0'+countLetters(fewest)))+" names"]++
	if greedy != fewest {
		counts["with more names one after the other"]++
	}
	if impl.IsFewest(g) {
		counts["with the fewest names already"]++
	}
}

// TestAllSmallSharing goes through a module m beside a scope, with at most one of two items ahead of it, and all lists of at most two and three of four items in these scopes.
func TestAllSmallSharing(t *testing.T) {
	t.Parallel()
	items := []impl.Item{declares("x"), declares("y"), refers("x"), imports("m")}
	counts := map[string]int{}
	for _, first := range itemLists([]impl.Item{declares("x"), refers("m")}, 1) {
		for _, second := range itemLists(items, 2) {
			for _, third := range itemLists(items, 3) {
				checkFewestModel(t, graph(scope(-1, append(slices.Clone(first), module("m", 1))...), scope(0, second...), scope(0, third...)), counts)
				stopIfFailed(t)
			}
		}
	}
	checkShown(t, counts, 20, "with 1 names", "with 2 names", "with 3 names", "not to be shared", "with the fewest names already")
}

// checkShown checks that the graphs that a test has gone through have shown each thing often enough.
func checkShown(t *testing.T, counts map[string]int, least int, things ...string) {
	t.Helper()
	for _, what := range things {
		if counts[what] < least {
			t.Errorf("only %d are %s", counts[what], what)
		}
	}
}

// sharing makes a graph with some number of declarations, each with a name of its own, many of them modules, and with many items that mean them.
func (m *graphMaker) sharing(declarations int) impl.Graph {
	g := impl.Graph{Scopes: []impl.Scope{{Parent: -1}}}
	for s := 1; s < impl.MaxScopes; s++ {
		g.Scopes = append(g.Scopes, impl.Scope{Parent: []int{m.below(s), s - 1}[m.below(2)]})
	}
	names := alphabet[:declarations]
	for d := 0; d < declarations; {
		s := m.below(impl.MaxScopes)
		list := &g.Scopes[s].Items
		if len(*list) == impl.MaxItems {
			continue
		}
		x := declares(names[d : d+1])
		for inner := s + 1; inner < impl.MaxScopes; inner++ {
			if _, taken := impl.ModuleOf(g, inner); g.Scopes[inner].Parent == s && !taken {
				x.Scope = inner
			}
		}
		*list = append(*list, x)
		d++
	}
	for s := range g.Scopes {
		list := &g.Scopes[s].Items
		for len(*list) < impl.MaxItems && m.below(5) > 0 {
			name := string(names[m.below(declarations)])
			*list = slices.Insert(*list, m.below(len(*list)+1), [...]impl.Item{refers(name), imports(name)}[m.below(2)])
		}
	}
	return g
}

// TestManySharing goes through graphs of all sizes, and counts what they show, so that the test is known to see it.
func TestManySharing(t *testing.T) {
	t.Parallel()
	maker := &graphMaker{}
	counts := map[string]int{}
	for i := range 500 {
		checkFewestModel(t, maker.users(i), counts)
		checkFewestModel(t, maker.sharing(2+i%7), counts)
		stopIfFailed(t)
	}
	for range 5 {
		for _, n := range []int{24, 25, 26} {
			checkFewestModel(t, maker.sharing(n), counts)
		}
	}
	checkShown(t, counts, 10, "not to be shared", "too many for the fewest names", "without conflicts", "in conflict with some", "in conflict with all others", "of too many to share", "with 1 names", "with 2 names", "with 3 names", "with 4 names", "with 5 names", "with the fewest names already")
}

// withItem returns a graph with an item more ahead of the one at a place.
func withItem(g impl.Graph, p impl.Place, x impl.Item) impl.Graph {
	scopes := slices.Clone(g.Scopes)
	scopes[p.Scope].Items = slices.Insert(slices.Clone(scopes[p.Scope].Items), p.Index, x)
	return impl.Graph{Scopes: scopes}
}

// TestSharingAround goes through graphs that are, but for one item, those for which it is not enough to give one name after the other.
func TestSharingAround(t *testing.T) {
	t.Parallel()
	counts := map[string]int{}
	for _, c := range greedyCases {
		g := parse(t, c.text)
		names, _ := impl.NamesOf(g)
		more := []impl.Item{declares("q")}
		for _, letter := range names {
			more = append(more, refers(string(letter)), imports(string(letter)))
		}
		for s, scope := range g.Scopes {
			for i := range len(scope.Items) + 1 {
				p := impl.Place{Scope: s, Index: i}
				if h, ok := impl.RemoveItem(g, p); ok {
					checkFewestModel(t, h, counts)
				}
				if len(scope.Items) == impl.MaxItems {
					continue
				}
				for _, x := range more {
					checkFewestModel(t, withItem(g, p, x), counts)
				}
				stopIfFailed(t)
			}
		}
	}
	checkShown(t, counts, 100, "with more names one after the other", "with 2 names", "with 3 names")
}

// TestNoFewerAreEnough checks the promise by itself: no naming with fewer letters is good, nor is one that comes first in the order of the alphabet.
func TestNoFewerAreEnough(t *testing.T) {
	t.Parallel()
	maker := &graphMaker{}
	fewer, earlier := 0, 0
	for i := range 600 {
		g := maker.sharing(1 + i%impl.MaxNamed)
		names, ok := impl.FewestNames(g)
		h, fine := impl.FewestGraph(g)
		if !ok || !fine || !impl.IsGoodNaming(g, names) || !isOrdered(names) || impl.CountNames(h) != countLetters(names) || impl.TableOf(h) != impl.TableOf(g) {
			t.Fatalf("FewestNames(%q) = %q, %v, the graph is %q, %v", impl.FormatGraph(g), names, ok, impl.FormatGraph(h), fine)
		}
		for _, other := range allOrdered(len(names)) {
			switch count := countLetters(other); {
			case count < countLetters(names):
				fewer++
			case count == countLetters(names) && other < names:
				earlier++
			default:
				continue
			}
			if bad, ok := impl.BadNaming(g, other); !ok || len(bad) == 0 {
				t.Fatalf("FewestNames(%q) = %q, but %q is good too", impl.FormatGraph(g), names, other)
			}
		}
		if greedy, ok := impl.GreedyNames(g); !ok || !impl.IsGoodNaming(g, greedy) || !isOrdered(greedy) || countLetters(greedy) < countLetters(names) {
			t.Fatalf("GreedyNames(%q) = %q, %v, and the fewest names are %q", impl.FormatGraph(g), greedy, ok, names)
		}
	}
	if fewer < 1000 || earlier < 1000 {
		t.Errorf("only %d namings have fewer letters, and only %d come first", fewer, earlier)
	}
}

// TestSharedInPairs checks that a naming is good exactly if any two declarations that have one letter can share it.
func TestSharedInPairs(t *testing.T) {
	t.Parallel()
	maker := &graphMaker{}
	good, bad := 0, 0
	for i := range 300 {
		g := maker.sharing(3 + i%8)
		declared, _ := impl.PlacesOf(g, impl.ItemDeclares)
		for letters := 1; letters <= len(declared); letters++ {
			names := maker.naming(len(declared), letters)
			want := true
			for at, p := range declared {
				list, _ := impl.ConflictsOf(g, p)
				for other, q := range declared {
					want = want && (names[at] != names[other] || !slices.Contains(list, q))
				}
			}
			if impl.IsGoodNaming(g, names) != want {
				t.Fatalf("IsGoodNaming(%q, %q) is not %v", impl.FormatGraph(g), names, want)
			}
			if want {
				good++
			} else {
				bad++
			}
		}
	}
	if good < 200 || bad < 200 {
		t.Errorf("only %d namings are good, and only %d bad", good, bad)
	}
}

// TestSharedWhateverTheNames checks that nothing depends on the names that a graph has, but on what its items mean.
func TestSharedWhateverTheNames(t *testing.T) {
	t.Parallel()
	maker := &graphMaker{}
	for i := range 300 {
		g := maker.nameable(i)
		fresh, ok := impl.FreshGraph(g)
		if !ok {
			continue
		}
		swapped, _ := impl.SwapNames(g, "m", "x")
		names, ok := impl.FewestNames(g)
		greedy, _ := impl.GreedyNames(g)
		declared, _ := impl.PlacesOf(g, impl.ItemDeclares)
		for _, h := range []impl.Graph{fresh, swapped} {
			if !ok {
				checkNotFewest(t, h)
			} else {
				want, _ := impl.NamedGraph(g, names)
				checkFewest(t, h, names, impl.FormatGraph(want))
				checkGreedy(t, h, greedy)
			}
			for _, p := range declared[:min(3, len(declared))] {
				list, _ := impl.ConflictsOf(g, p)
				checkConflicts(t, h, p, impl.FormatPlaces(list))
			}
		}
		stopIfFailed(t)
	}
}

// TestSharingStays checks that no function of the chapter changes a graph, or the memory behind its scopes and items.
func TestSharingStays(t *testing.T) {
	g, check := watched(t)
	impl.FewestNames(g)
	impl.FewestGraph(g)
	impl.GreedyNames(g)
	impl.IsFewest(g)
	for s := -1; s < 3; s++ {
		for i := -1; i < 4; i++ {
			p := impl.Place{Scope: s, Index: i}
			impl.ConflictsOf(g, p)
			impl.CanShare(g, p, impl.Place{})
			impl.CanShare(g, impl.Place{Scope: 1}, p)
		}
	}
	check()
}

// TestFewestGraphsAreNew checks that graphs share no memory, even if no name becomes another one.
func TestFewestGraphsAreNew(t *testing.T) {
	for _, text := range []string{"-,a,?a,b=1;0,b;0,!b,?b,?a", "-,x,y,?x;0;1,z,?q", "-,x,m=1,?x;0,y,x;0,!m,?y,?x"} {
		checkNewGraph(t, "FewestGraph", roomy(t, text), impl.FewestGraph)
	}
}

// TestConflictListsAreNew checks that lists share no memory, their unused capacity included.
func TestConflictListsAreNew(t *testing.T) {
	g := parse(t, "-,x,y,w,?x;0,v,?x,?y")
	checkNew(t, "ConflictsOf", func() []impl.Place { list, _ := impl.ConflictsOf(g, impl.Place{}); return list }, impl.Place{Scope: 9, Index: 9})
}
