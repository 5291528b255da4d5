package tests

import (
	"math"
	"reflect"
	"slices"
	"strconv"
	"strings"
	"testing"

	"loop.example/scopegraphs/impl"
)

// noScopes are numbers that no scope has in a graph of fewer than six.
var noScopes = []int{-1, -2, 5, impl.MaxScopes, impl.MaxScopes + 1, math.MaxInt, math.MinInt}

// parse returns the graph of a text that must be one.
func parse(t *testing.T, text string) impl.Graph {
	t.Helper()
	g, ok := impl.ParseGraph(text)
	if !ok {
		t.Fatalf("%q is the text of no graph", text)
	}
	return g
}

// scopeAnswers is what the functions of chapter 2 must return for a scope.
type scopeAnswers struct {
	chain, within []int
	depth         int
	module        impl.Place
	isModule      bool
	blocks        []int
	path          string
}

// checkScope compares all functions of one scope with what they must return.
func checkScope(t *testing.T, g impl.Graph, s int, want scopeAnswers) {
	t.Helper()
	text := impl.FormatGraph(g)
	if list, ok := impl.ChainOf(g, s); !ok || !slices.Equal(list, want.chain) {
		t.Errorf("ChainOf(%q, %d) = %v, %v, want %v", text, s, list, ok, want.chain)
	}
	if list, ok := impl.WithinOf(g, s); !ok || !slices.Equal(list, want.within) {
		t.Errorf("WithinOf(%q, %d) = %v, %v, want %v", text, s, list, ok, want.within)
	}
	if depth := impl.ScopeDepth(g, s); depth != want.depth {
		t.Errorf("ScopeDepth(%q, %d) = %d, want %d", text, s, depth, want.depth)
	}
	if p, ok := impl.ModuleOf(g, s); ok != want.isModule || p != want.module {
		t.Errorf("ModuleOf(%q, %d) = %v, %v, want %v, %v", text, s, p, ok, want.module, want.isModule)
	}
	if list, ok := impl.BlocksOf(g, s); !ok || !slices.Equal(list, want.blocks) {
		t.Errorf("BlocksOf(%q, %d) = %v, %v, want %v", text, s, list, ok, want.blocks)
	}
	if path, ok := impl.PathOf(g, s); !ok || path != want.path {
		t.Errorf("PathOf(%q, %d) = %q, %v, want %q", text, s, path, ok, want.path)
	}
}

// checkNoScope checks that all functions refuse a scope.
func checkNoScope(t *testing.T, g impl.Graph, s int) {
	t.Helper()
	if list, ok := impl.ChainOf(g, s); ok || len(list) != 0 {
		t.Errorf("ChainOf(%v, %d) = %v, %v", g, s, list, ok)
	}
	if list, ok := impl.WithinOf(g, s); ok || len(list) != 0 {
		t.Errorf("WithinOf(%v, %d) = %v, %v", g, s, list, ok)
	}
	if depth := impl.ScopeDepth(g, s); depth != -1 {
		t.Errorf("ScopeDepth(%v, %d) = %d", g, s, depth)
	}
	for _, other := range []int{0, s} {
		if common := impl.CommonScope(g, s, other); common != -1 {
			t.Errorf("CommonScope(%v, %d, %d) = %d", g, s, other, common)
		}
		if common := impl.CommonScope(g, other, s); common != -1 {
			t.Errorf("CommonScope(%v, %d, %d) = %d", g, other, s, common)
		}
	}
	if p, ok := impl.ModuleOf(g, s); ok || p != (impl.Place{}) {
		t.Errorf("ModuleOf(%v, %d) = %v, %v", g, s, p, ok)
	}
	if list, ok := impl.BlocksOf(g, s); ok || len(list) != 0 {
		t.Errorf("BlocksOf(%v, %d) = %v, %v", g, s, list, ok)
	}
	if path, ok := impl.PathOf(g, s); ok || path != "" {
		t.Errorf("PathOf(%v, %d) = %q, %v", g, s, path, ok)
	}
}

func TestScopesOfTexts(t *testing.T) {
	cases := []struct {
		text  string
		wants []scopeAnswers
	}{
		{"-", []scopeAnswers{{chain: []int{0}, within: []int{0}}}},
		{"-,m=1;0,n=2;1;2", []scopeAnswers{
			{chain: []int{0}, within: []int{0, 1, 2, 3}},
			{chain: []int{1, 0}, within: []int{1, 2, 3}, depth: 1, isModule: true, path: "m"},
			{chain: []int{2, 1, 0}, within: []int{2, 3}, depth: 2, module: impl.Place{Scope: 1}, isModule: true, blocks: []int{3}, path: "mn"},
			{chain: []int{3, 2, 1, 0}, within: []int{3}, depth: 3, path: "mn"},
		}},
		// A block between two modules of one name, and other items with that name.
		{"-,?m,m,m=2;0,!m;0,m;2;3,x,m=5;4", []scopeAnswers{
			{chain: []int{0}, within: []int{0, 1, 2, 3, 4, 5}, blocks: []int{1}},
			{chain: []int{1, 0}, within: []int{1}, depth: 1},
			{chain: []int{2, 0}, within: []int{2, 3, 4, 5}, depth: 1, module: impl.Place{Index: 2}, isModule: true, blocks: []int{3}, path: "m"},
			{chain: []int{3, 2, 0}, within: []int{3, 4, 5}, depth: 2, blocks: []int{4}, path: "m"},
			{chain: []int{4, 3, 2, 0}, within: []int{4, 5}, depth: 3, path: "m"},
			{chain: []int{5, 4, 3, 2, 0}, within: []int{5}, depth: 4, module: impl.Place{Scope: 4, Index: 1}, isModule: true, path: "mm"},
		}},
		// Modules that are declared in another order than that of their scopes.
		{"-,b=3,a=1;0;0;0;2;1", []scopeAnswers{
			{chain: []int{0}, within: []int{0, 1, 2, 3, 4, 5}, blocks: []int{2}},
			{chain: []int{1, 0}, within: []int{1, 5}, depth: 1, module: impl.Place{Index: 1}, isModule: true, blocks: []int{5}, path: "a"},
			{chain: []int{2, 0}, within: []int{2, 4}, depth: 1, blocks: []int{4}},
			{chain: []int{3, 0}, within: []int{3}, depth: 1, isModule: true, path: "b"},
			{chain: []int{4, 2, 0}, within: []int{4}, depth: 2},
			{chain: []int{5, 1, 0}, within: []int{5}, depth: 2, path: "a"},
		}},
	}
	for _, c := range cases {
		g := parse(t, c.text)
		for s, want := range c.wants {
			checkScope(t, g, s, want)
		}
		checkNoScope(t, g, len(c.wants))
	}
}

func TestDeepestScopes(t *testing.T) {
	g := parse(t, "-,a=1;0,b=2;1,c=3;2,d=4;3,e=5;4")
	checkScope(t, g, 5, scopeAnswers{chain: []int{5, 4, 3, 2, 1, 0}, within: []int{5}, depth: 5, module: impl.Place{Scope: 4}, isModule: true, path: "abcde"})
	checkScope(t, g, 0, scopeAnswers{chain: []int{0}, within: []int{0, 1, 2, 3, 4, 5}})
	wide := parse(t, "-;0;0;0;0;0")
	checkScope(t, wide, 0, scopeAnswers{chain: []int{0}, within: []int{0, 1, 2, 3, 4, 5}, blocks: []int{1, 2, 3, 4, 5}})
	checkScope(t, wide, 5, scopeAnswers{chain: []int{5, 0}, within: []int{5}, depth: 1})
}

func TestCommonScope(t *testing.T) {
	cases := []struct {
		text       string
		a, b, want int
	}{
		{"-", 0, 0, 0},
		{"-,m=1;0,n=2;1;2;1", 3, 4, 1},
		{"-,m=1;0,n=2;1;2;1", 2, 3, 2},
		{"-,m=1;0,n=2;1;2;1", 3, 3, 3},
		{"-,m=1;0,n=2;1;2;1", 0, 3, 0},
		{"-;0;0;1;2", 3, 4, 0},
		{"-;0;0;1;2", 1, 2, 0},
		{"-;0;1;2;3;2", 4, 5, 2},
	}
	for _, c := range cases {
		g := parse(t, c.text)
		if s := impl.CommonScope(g, c.a, c.b); s != c.want {
			t.Errorf("CommonScope(%q, %d, %d) = %d, want %d", c.text, c.a, c.b, s, c.want)
		}
		if s := impl.CommonScope(g, c.b, c.a); s != c.want {
			t.Errorf("CommonScope(%q, %d, %d) = %d, want %d", c.text, c.b, c.a, s, c.want)
		}
	}
}

func TestNoScopes(t *testing.T) {
	for _, c := range validGraphs {
		checkNoScope(t, c.graph, len(c.graph.Scopes))
		for _, s := range noScopes {
			if s < 0 || s >= len(c.graph.Scopes) {
				checkNoScope(t, c.graph, s)
			}
		}
	}
}

func TestScopesOfInvalidGraphs(t *testing.T) {
	for what, g := range invalidGraphs {
		t.Run(what, func(t *testing.T) {
			for s := range impl.MaxScopes {
				checkNoScope(t, g, s)
			}
			for _, s := range noScopes {
				checkNoScope(t, g, s)
			}
		})
	}
}

// eachTree calls a function with all parents of at most MaxScopes scopes.
func eachTree(parents []int, check func([]int)) {
	check(parents)
	if len(parents) == impl.MaxScopes {
		return
	}
	for parent := range parents {
		eachTree(append(slices.Clone(parents), parent), check)
	}
}

// treeText writes a graph with a module for each scope whose bit in modules is set; with backwards, modules of later scopes are declared first.
func treeText(parents []int, modules int, backwards bool) string {
	scopes := []string{"-"}
	for _, parent := range parents[1:] {
		scopes = append(scopes, strconv.Itoa(parent))
	}
	for i := 1; i < len(parents); i++ {
		s := i
		if backwards {
			s = len(parents) - i
		}
		if modules>>s&1 == 1 {
			scopes[parents[s]] += "," + moduleName(s) + "=" + strconv.Itoa(s)
		}
	}
	return strings.Join(scopes, ";")
}

func moduleName(s int) string { return string("abcdef"[s]) }

// aroundOf tells, by going from parents to their parents, which scope lies around which one, itself included.
func aroundOf(parents []int) [][]bool {
	around := make([][]bool, len(parents))
	for s, parent := range parents {
		around[s] = make([]bool, len(parents))
		if parent >= 0 {
			copy(around[s], around[parent])
		}
		around[s][s] = true
	}
	return around
}

// answersOf finds what the functions must return, since parents have lower numbers than what lies in them.
func answersOf(parents []int, modules int, backwards bool, s int) scopeAnswers {
	around := aroundOf(parents)
	want := scopeAnswers{depth: -1, isModule: modules>>s&1 == 1}
	for r := range parents {
		isModule := modules>>r&1 == 1
		if around[s][r] {
			want.chain = append([]int{r}, want.chain...)
			want.depth++
			if isModule {
				want.path += moduleName(r)
			}
		}
		if around[r][s] {
			want.within = append(want.within, r)
		}
		if parents[r] == s && !isModule {
			want.blocks = append(want.blocks, r)
		}
		ahead := r < s && !backwards || r > s && backwards
		if want.isModule && isModule && parents[r] == parents[s] && ahead {
			want.module.Index++
		}
	}
	if want.isModule {
		want.module.Scope = parents[s]
	}
	return want
}

// checkTree compares all functions for all scopes of one graph.
func checkTree(t *testing.T, parents []int, modules int, backwards bool) {
	g := parse(t, treeText(parents, modules, backwards))
	around := aroundOf(parents)
	for s := range parents {
		checkScope(t, g, s, answersOf(parents, modules, backwards, s))
		for r := range parents {
			want := 0
			for c := range parents {
				if around[s][c] && around[r][c] {
					want = c
				}
			}
			if common := impl.CommonScope(g, s, r); common != want {
				t.Errorf("CommonScope(%v, %d, %d) = %d, want %d", parents, s, r, common, want)
			}
		}
	}
	checkNoScope(t, g, len(parents))
	checkNoScope(t, g, -1)
}

// TestAllTrees goes through all trees of scopes, with each choice of modules.
func TestAllTrees(t *testing.T) {
	trees := 0
	eachTree([]int{-1}, func(parents []int) {
		trees++
		// The first scope is of no module, so that its bit stays 0.
		for modules := 0; modules < 1<<len(parents); modules += 2 {
			checkTree(t, parents, modules, false)
			checkTree(t, parents, modules, true)
		}
	})
	if want := 1 + 1 + 2 + 6 + 24 + 120; trees != want {
		t.Errorf("%d trees, want %d", trees, want)
	}
}

// TestScopesStay checks that no function of scopes changes a graph, or the memory behind its scopes and items.
func TestScopesStay(t *testing.T) {
	items := []impl.Item{module("m", 1), refers("y"), refers("spare")}
	scopes := []impl.Scope{{Parent: -1, Items: items[:2]}, {Parent: 0}, {Parent: 1}, {Parent: 7}}
	g := impl.Graph{Scopes: scopes[:3]}
	for s := -1; s < 5; s++ {
		impl.ChainOf(g, s)
		impl.WithinOf(g, s)
		impl.ScopeDepth(g, s)
		impl.CommonScope(g, s, 1)
		impl.ModuleOf(g, s)
		impl.BlocksOf(g, s)
		impl.PathOf(g, s)
	}
	if !reflect.DeepEqual(items, []impl.Item{module("m", 1), refers("y"), refers("spare")}) {
		t.Errorf("items became %v", items)
	}
	if !reflect.DeepEqual(scopes, []impl.Scope{{Parent: -1, Items: items[:2]}, {Parent: 0}, {Parent: 1}, {Parent: 7}}) {
		t.Errorf("scopes became %v", scopes)
	}
}

// TestScopeListsAreNew checks that lists of scopes share no memory, their unused capacity included.
func TestScopeListsAreNew(t *testing.T) {
	g := parse(t, "-;0;0;1;1")
	functions := map[string]func(impl.Graph, int) ([]int, bool){"ChainOf": impl.ChainOf, "WithinOf": impl.WithinOf, "BlocksOf": impl.BlocksOf}
	for name, f := range functions {
		first, _ := f(g, 1)
		second, _ := f(g, 1)
		want := slices.Clone(second)
		for i := range first[:cap(first)] {
			first[:cap(first)][i] = 9
		}
		third, _ := f(g, 1)
		if !slices.Equal(second, want) || !slices.Equal(third, want) {
			t.Errorf("%s = %v and %v, want %v", name, second, third, want)
		}
	}
}
