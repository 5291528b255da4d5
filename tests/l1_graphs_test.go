package tests

import (
	"math"
	"reflect"
	"regexp"
	"strconv"
	"strings"
	"testing"

	"loop.example/scopegraphs/impl"
)

// The functions up to graph keep the structs of the cases short.
func declares(name string) impl.Item {
	return impl.Item{Kind: impl.ItemDeclares, Name: name, Scope: -1}
}
func refers(name string) impl.Item  { return impl.Item{Kind: impl.ItemRefers, Name: name, Scope: -1} }
func imports(name string) impl.Item { return impl.Item{Kind: impl.ItemImports, Name: name, Scope: -1} }
func module(name string, scope int) impl.Item {
	return impl.Item{Kind: impl.ItemDeclares, Name: name, Scope: scope}
}
func scope(parent int, items ...impl.Item) impl.Scope {
	return impl.Scope{Parent: parent, Items: items}
}
func graph(scopes ...impl.Scope) impl.Graph { return impl.Graph{Scopes: scopes} }

// sameGraph takes nil and empty slices for equal.
func sameGraph(g, h impl.Graph) bool {
	if len(g.Scopes) != len(h.Scopes) {
		return false
	}
	for i, s := range g.Scopes {
		r := h.Scopes[i]
		if s.Parent != r.Parent || len(s.Items) != len(r.Items) {
			return false
		}
		for j := range s.Items {
			if s.Items[j] != r.Items[j] {
				return false
			}
		}
	}
	return true
}

// validGraphs holds each graph beside its text.
var validGraphs = []struct {
	text  string
	graph impl.Graph
}{
	{"-", graph(scope(-1))},
	{"-,x", graph(scope(-1, declares("x")))},
	{"-,a,?z,!m", graph(scope(-1, declares("a"), refers("z"), imports("m")))},
	{"-,x,x,?x,?x,x", graph(scope(-1, declares("x"), declares("x"), refers("x"), refers("x"), declares("x")))},
	{"-;0;1;0;3;4", graph(scope(-1), scope(0), scope(1), scope(0), scope(3), scope(4))},
	{"-,x,m=1;0,y;0,!m,?y", graph(scope(-1, declares("x"), module("m", 1)), scope(0, declares("y")), scope(0, imports("m"), refers("y")))},
	{"-,m=2,m=1;0;0", graph(scope(-1, module("m", 2), module("m", 1)), scope(0), scope(0))},
	{"-;0,n=2;1,?x", graph(scope(-1), scope(0, module("n", 2)), scope(1, refers("x")))},
	{"-,a=5,b=4,c=3,d=2,e=1;0;0;0;0;0", graph(scope(-1, module("a", 5), module("b", 4), module("c", 3), module("d", 2), module("e", 1)), scope(0), scope(0), scope(0), scope(0), scope(0))},
	{"-,m=1;0,m=2;1,m=3;2,m=4;3,m=5;4,!m", graph(scope(-1, module("m", 1)), scope(0, module("m", 2)), scope(1, module("m", 3)), scope(2, module("m", 4)), scope(3, module("m", 5)), scope(4, imports("m")))},
}

// invalidGraphs holds graphs that each break one rule.
var invalidGraphs = map[string]impl.Graph{
	"no scopes":                    graph(),
	"seven scopes":                 graph(scope(-1), scope(0), scope(0), scope(0), scope(0), scope(0), scope(0)),
	"first parent 0":               graph(scope(0)),
	"first parent -2":              graph(scope(-2)),
	"second parent -1":             graph(scope(-1), scope(-1)),
	"second parent -2":             graph(scope(-1), scope(-2)),
	"own parent":                   graph(scope(-1), scope(1)),
	"later parent":                 graph(scope(-1), scope(2), scope(0)),
	"parent past the end":          graph(scope(-1), scope(math.MaxInt)),
	"least parent":                 graph(scope(-1), scope(math.MinInt)),
	"six items":                    graph(scope(-1, declares("a"), declares("b"), declares("c"), declares("d"), declares("e"), declares("f"))),
	"six items in the last scope":  graph(scope(-1), scope(0, refers("a"), refers("a"), refers("a"), refers("a"), refers("a"), refers("a"))),
	"kind none":                    graph(scope(-1, impl.Item{Kind: impl.ItemNone, Name: "x", Scope: -1})),
	"kind 4":                       graph(scope(-1, impl.Item{Kind: 4, Name: "x", Scope: -1})),
	"kind -1":                      graph(scope(-1, impl.Item{Kind: -1, Name: "x", Scope: -1})),
	"no name":                      graph(scope(-1, declares(""))),
	"two letters":                  graph(scope(-1, declares("xy"))),
	"two letters of a reference":   graph(scope(-1, refers("xx"))),
	"two letters of an import":     graph(scope(-1, imports("xx"))),
	"capital letter":               graph(scope(-1, declares("X"))),
	"byte ahead of a":              graph(scope(-1, declares("`"))),
	"byte behind z":                graph(scope(-1, refers("{"))),
	"byte 0":                       graph(scope(-1, imports("\x00"))),
	"no UTF-8":                     graph(scope(-1, imports("\xff"))),
	"two bytes":                    graph(scope(-1, declares("é"))),
	"scope of a declaration -2":    graph(scope(-1, module("m", -2))),
	"scope of a reference 0":       graph(scope(-1, impl.Item{Kind: impl.ItemRefers, Name: "x"})),
	"scope of a reference -2":      graph(scope(-1, impl.Item{Kind: impl.ItemRefers, Name: "x", Scope: -2})),
	"scope of a reference 1":       graph(scope(-1, impl.Item{Kind: impl.ItemRefers, Name: "x", Scope: 1}), scope(0)),
	"scope of an import 1":         graph(scope(-1, impl.Item{Kind: impl.ItemImports, Name: "x", Scope: 1}), scope(0)),
	"module of the first scope":    graph(scope(-1, module("m", 0)), scope(0)),
	"module of the parent":         graph(scope(-1), scope(0, module("m", 0))),
	"module of its own scope":      graph(scope(-1), scope(0, module("m", 1))),
	"module of a scope within one": graph(scope(-1, module("m", 2)), scope(0), scope(1)),
	"module of a scope beside":     graph(scope(-1), scope(0, module("m", 2)), scope(0)),
	"module past the end":          graph(scope(-1, module("m", 2)), scope(0)),
	"module far past the end":      graph(scope(-1, module("m", math.MaxInt)), scope(0)),
	"least module":                 graph(scope(-1, module("m", math.MinInt)), scope(0)),
	"two modules of a scope":       graph(scope(-1, module("m", 1), module("n", 1)), scope(0)),
	"a module twice":               graph(scope(-1, module("m", 1), declares("x"), module("m", 1)), scope(0)),
	"an item without fields":       graph(scope(-1, impl.Item{})),
	"a scope without fields":       graph(scope(-1), scope(0), impl.Scope{Parent: 2}),
}

func TestParseGraph(t *testing.T) {
	for _, c := range validGraphs {
		g, ok := impl.ParseGraph(c.text)
		if !ok || !sameGraph(g, c.graph) {
			t.Errorf("ParseGraph(%q) = %v, %v", c.text, g, ok)
		}
		if !impl.GraphValid(c.graph) {
			t.Errorf("GraphValid of %q is false", c.text)
		}
		if text := impl.FormatGraph(c.graph); text != c.text {
			t.Errorf("FormatGraph = %q, want %q", text, c.text)
		}
	}
}

func TestParseEveryName(t *testing.T) {
	for b := range 256 {
		name := string([]byte{byte(b)})
		want := name >= "a" && name <= "z"
		for _, mark := range []string{"", "?", "!"} {
			text := "-," + mark + name
			g, ok := impl.ParseGraph(text)
			if ok != want || impl.FormatGraph(g) == text != want {
				t.Errorf("ParseGraph(%q) = %v, %v", text, g, ok)
			}
		}
	}
}

func TestParseNoGraph(t *testing.T) {
	texts := []string{
		"", ";", ",", "x", "0", "0,x", "-1", "--", "-x", " -", "- ", "-\n", "-;", ";-", "-,", "-,x,", "-,,x", "-x,y",
		"-;-", "-;0;-", "-;1", "-;0;2", "-;0;-1", "-;+0", "-;00", "-;0;01", "-; 0", "-;x", "-;0 ", "-;99999999999999999999",
		"-,X", "-,xy", "-,?xy", "-,!xy", "-,xy=1;0", "-,1", "-,é", "-,?", "-,!", "-,??x", "-,?!x", "-,!!x", "-,x?", "-,x!", "- ,x", "-, x", "-,x ",
		"-,=1;0", "-,m=", "-,m=;0", "-,m=-1", "-,m=-1;0", "-,m=+1;0", "-,m=01;0", "-,m==1;0", "-,m=1=1;0", "-,m=1x;0", "-,m=x;0", "-,m= 1;0",
		"-,?x=1;0", "-,!x=1;0", "-,m=0", "-,m=1", "-,m=0;0", "-,m=2;0", "-;0,m=0", "-;0,m=1", "-,m=2;0;1", "-;0,m=2;0", "-,m=1,n=1;0", "-,m=1,m=1;0", "-,m=18446744073709551617;0",
		"-,a,b,c,d,e,f", "-;0,?a,?a,?a,?a,?a,?a", "-;0;0;0;0;0;0", "-,m=6;0;0;0;0;0;0",
		"-" + strings.Repeat(";0", 1000), "-" + strings.Repeat(",x", 1000), strings.Repeat("-", 1000), "-\x00", "\xff",
	}
	for _, text := range texts {
		if g, ok := impl.ParseGraph(text); ok || len(g.Scopes) != 0 {
			t.Errorf("ParseGraph(%q) = %v, %v", text, g, ok)
		}
	}
}

// graphPattern is what texts look like, whatever their scopes are.
var graphPattern = regexp.MustCompile(`\A-(,([?!]?[a-z]|[a-z]=(0|[1-9][0-9]*)))*(;(0|[1-9][0-9]*)(,([?!]?[a-z]|[a-z]=(0|[1-9][0-9]*)))*)*\z`)

// isGraphText tells by the text alone whether it is one of a graph.
func isGraphText(text string) bool {
	if !graphPattern.MatchString(text) {
		return false
	}
	scopes := strings.Split(text, ";")
	parents := []string{"-"}
	for i, s := range scopes[1:] {
		parent := strings.Split(s, ",")[0]
		if n, err := strconv.Atoi(parent); err != nil || n > i {
			return false
		}
		parents = append(parents, parent)
	}
	taken := map[string]bool{}
	for i, s := range scopes {
		items := strings.Split(s, ",")[1:]
		for _, x := range items {
			_, of, found := strings.Cut(x, "=")
			if !found {
				continue
			}
			n, err := strconv.Atoi(of)
			if err != nil || n >= len(parents) || parents[n] != strconv.Itoa(i) || taken[of] {
				return false
			}
			taken[of] = true
		}
		if len(items) > impl.MaxItems {
			return false
		}
	}
	return len(scopes) <= impl.MaxScopes
}

// TestParseAllTexts goes through all short texts, and through all longer ones of the parts of texts.
func TestParseAllTexts(t *testing.T) {
	t.Parallel()
	accepted := 0
	check := func(text string) {
		want := isGraphText(text)
		g, ok := impl.ParseGraph(text)
		if ok != want || impl.GraphValid(g) != want || !want && len(g.Scopes) != 0 {
			t.Fatalf("ParseGraph(%q) = %v, %v", text, g, ok)
		}
		if want && impl.FormatGraph(g) != text {
			t.Fatalf("FormatGraph(ParseGraph(%q)) = %q", text, impl.FormatGraph(g))
		}
		if want {
			accepted++
		}
	}
	var join func(text string, parts []string, more int)
	join = func(text string, parts []string, more int) {
		check(text)
		if more == 0 {
			return
		}
		for _, part := range parts {
			join(text+part, parts, more-1)
		}
	}
	join("", []string{"-", ",", ";", "0", "1", "x", "?", "!", "=", "A"}, 5)
	join("-", []string{",x", ",?x", ",!x", ",m=1", ",m=2", ",m=3", ";0", ";1", ";2"}, 6)
	if accepted < 1000 {
		t.Errorf("only %d texts are those of graphs", accepted)
	}
}

func TestInvalidGraphs(t *testing.T) {
	for what, g := range invalidGraphs {
		if impl.GraphValid(g) {
			t.Errorf("%s: GraphValid is true", what)
		}
		if text := impl.FormatGraph(g); text != "" {
			t.Errorf("%s: FormatGraph = %q", what, text)
		}
		if x, ok := impl.ItemAt(g, impl.Place{}); ok || x != (impl.Item{}) {
			t.Errorf("%s: ItemAt = %v, %v", what, x, ok)
		}
		for kind := range 5 {
			if list, ok := impl.PlacesOf(g, kind); ok || len(list) != 0 {
				t.Errorf("%s: PlacesOf(%d) = %v, %v", what, kind, list, ok)
			}
		}
		if s, ok := impl.NamesOf(g); ok || s != "" {
			t.Errorf("%s: NamesOf = %q, %v", what, s, ok)
		}
	}
}

func TestItemAt(t *testing.T) {
	for _, c := range validGraphs {
		for s := -2; s <= impl.MaxScopes+1; s++ {
			for i := -2; i <= impl.MaxItems+1; i++ {
				var want impl.Item
				inside := s >= 0 && s < len(c.graph.Scopes) && i >= 0 && i < len(c.graph.Scopes[s].Items)
				if inside {
					want = c.graph.Scopes[s].Items[i]
				}
				if x, ok := impl.ItemAt(c.graph, impl.Place{Scope: s, Index: i}); ok != inside || x != want {
					t.Errorf("ItemAt(%q, %d.%d) = %v, %v", c.text, s, i, x, ok)
				}
			}
		}
		for _, p := range []impl.Place{{Scope: math.MaxInt}, {Scope: math.MinInt}, {Index: math.MaxInt}, {Index: math.MinInt}} {
			if x, ok := impl.ItemAt(c.graph, p); ok || x != (impl.Item{}) {
				t.Errorf("ItemAt(%q, %v) = %v, %v", c.text, p, x, ok)
			}
		}
	}
}

func TestPlacesOf(t *testing.T) {
	cases := []struct {
		text  string
		kinds [4]string
	}{
		{"-", [4]string{"-", "-", "-", "-"}},
		{"-,x,m=1;0,y;0,!m,?y", [4]string{"-", "0.0 0.1 1.0", "2.1", "2.0"}},
		{"-,?x,!x,x,?x,!x;0,!x,x;1,?x,x=3;2,!x", [4]string{"-", "0.2 1.1 2.1", "0.0 0.3 2.0", "0.1 0.4 1.0 3.0"}},
		{"-;0;0;0;0;0,?a,?b,?c,?d,?e", [4]string{"-", "-", "5.0 5.1 5.2 5.3 5.4", "-"}},
	}
	for _, c := range cases {
		g, _ := impl.ParseGraph(c.text)
		for kind := -1; kind <= 5; kind++ {
			known := kind >= impl.ItemDeclares && kind <= impl.ItemImports
			want := "-"
			if known {
				want = c.kinds[kind]
			}
			if list, ok := impl.PlacesOf(g, kind); ok != known || impl.FormatPlaces(list) != want {
				t.Errorf("PlacesOf(%q, %d) = %v, %v, want %s", c.text, kind, list, ok, want)
			}
		}
	}
}

func TestNamesOf(t *testing.T) {
	cases := map[string]string{
		"-":                               "",
		"-;0;0":                           "",
		"-,x,m=1;0,y;0,!m,?y":             "mxy",
		"-,z,?z,!z;0,z":                   "z",
		"-,!c,?b,a":                       "abc",
		"-,e,d,c,b,a;0,j,i,h,g,f;0,?z,!y": "abcdefghijyz",
	}
	for text, want := range cases {
		g, _ := impl.ParseGraph(text)
		if names, ok := impl.NamesOf(g); !ok || names != want {
			t.Errorf("NamesOf(%q) = %q, %v", text, names, ok)
		}
	}
}

func TestFormatPlaces(t *testing.T) {
	cases := []struct {
		list []impl.Place
		want string
	}{
		{nil, "-"},
		{[]impl.Place{}, "-"},
		{[]impl.Place{{}}, "0.0"},
		{[]impl.Place{{Scope: 2, Index: 1}, {Scope: 10, Index: 20}, {Scope: 2, Index: 1}}, "2.1 10.20 2.1"},
		{[]impl.Place{{Scope: -1, Index: -1}}, "-1.-1"},
		{[]impl.Place{{Scope: -5, Index: 3}, {Scope: 3, Index: -5}}, "-5.3 3.-5"},
		{[]impl.Place{{Scope: math.MinInt, Index: math.MaxInt}}, strconv.Itoa(math.MinInt) + "." + strconv.Itoa(math.MaxInt)},
	}
	for _, c := range cases {
		if text := impl.FormatPlaces(c.list); text != c.want {
			t.Errorf("FormatPlaces(%v) = %q, want %q", c.list, text, c.want)
		}
	}
}

func TestParsePlace(t *testing.T) {
	places := []impl.Place{{}, {Scope: 1}, {Index: 1}, {Scope: 5, Index: 4}, {Scope: 1, Index: 20}, {Scope: 100, Index: 7}, {Scope: 99999999999999999, Index: 99999999999999999}}
	for _, want := range places {
		text := impl.FormatPlaces([]impl.Place{want})
		if p, ok := impl.ParsePlace(text); !ok || p != want {
			t.Errorf("ParsePlace(%q) = %v, %v", text, p, ok)
		}
	}
	texts := []string{
		"", "-", ".", "..", "1", "1.", ".1", "1.2.3", "1.2.", ".1.2", "1..2", "1,2", "1 2", "1.2 3.4", "-1.2", "1.-2", "-1.-1", "+1.2", "1.+2", "-0.0", "0.-0",
		"01.2", "1.02", "00.0", "0.00", " 1.2", "1.2 ", "1. 2", "1.2\n", "a.b", "1.x", "x.1", "1_0.1", "0x1.1", "1e1.1", "١.٢", "1.2\x00",
		"100000000000000000.0", "0.100000000000000000", "999999999999999999.1", "1.00000000000000000000", "9223372036854775808.0", "0.18446744073709551616",
		strings.Repeat("1", 1000) + ".1", "1." + strings.Repeat("1", 1000),
	}
	for _, text := range texts {
		if p, ok := impl.ParsePlace(text); ok || p != (impl.Place{}) {
			t.Errorf("ParsePlace(%q) = %v, %v", text, p, ok)
		}
	}
}

// TestArgumentsStay checks that no function changes a graph, or the memory behind its items.
func TestArgumentsStay(t *testing.T) {
	items := []impl.Item{declares("x"), refers("y"), refers("spare")}
	scopes := []impl.Scope{{Parent: -1, Items: items[:2]}, {Parent: 7}}
	g := impl.Graph{Scopes: scopes[:1]}
	places := []impl.Place{{Scope: 1, Index: 2}, {Scope: 3, Index: 4}}
	impl.GraphValid(g)
	impl.FormatGraph(g)
	impl.ItemAt(g, impl.Place{})
	impl.PlacesOf(g, impl.ItemRefers)
	impl.NamesOf(g)
	impl.FormatPlaces(places[:1])
	if !reflect.DeepEqual(items, []impl.Item{declares("x"), refers("y"), refers("spare")}) {
		t.Errorf("items became %v", items)
	}
	if !reflect.DeepEqual(scopes, []impl.Scope{{Parent: -1, Items: items[:2]}, {Parent: 7}}) {
		t.Errorf("scopes became %v", scopes)
	}
	if places[0] != (impl.Place{Scope: 1, Index: 2}) || places[1] != (impl.Place{Scope: 3, Index: 4}) {
		t.Errorf("places became %v", places)
	}
}

// TestResultsAreNew checks that results share no memory, their unused capacity included.
func TestResultsAreNew(t *testing.T) {
	text := "-,a,b,c;0,d,e;0,f,?a"
	g, _ := impl.ParseGraph(text)
	h, _ := impl.ParseGraph(text)
	for i := range g.Scopes {
		g.Scopes[i].Items = append(g.Scopes[i].Items, refers("q"))
		g.Scopes[i].Items[0].Name = "p"
	}
	if want := "-,p,b,c,?q;0,p,e,?q;0,p,?a,?q"; impl.FormatGraph(g) != want {
		t.Errorf("changed graph = %q, want %q", impl.FormatGraph(g), want)
	}
	if impl.FormatGraph(h) != text {
		t.Errorf("other graph = %q", impl.FormatGraph(h))
	}
	first, _ := impl.PlacesOf(h, impl.ItemDeclares)
	first[0].Index = 9
	second, _ := impl.PlacesOf(h, impl.ItemDeclares)
	if impl.FormatPlaces(second) != "0.0 0.1 0.2 1.0 1.1 2.0" {
		t.Errorf("PlacesOf = %v", second)
	}
}

func TestConstants(t *testing.T) {
	if impl.ItemNone != 0 || impl.ItemDeclares != 1 || impl.ItemRefers != 2 || impl.ItemImports != 3 {
		t.Error("a kind has another number")
	}
	if impl.MaxScopes != 6 || impl.MaxItems != 5 {
		t.Error("a limit is another one")
	}
}
