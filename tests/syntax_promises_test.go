package tests

import (
	"math"
	"slices"
	"testing"

	"loop.example/g00001/impl"
)

// wantRoundTrip asks for promise 7 of a text that Parse accepts; it tells whether Print could write it.
func wantRoundTrip(t *testing.T, src string) bool {
	t.Helper()
	tree, code, pos := impl.Parse(src)
	if code != impl.OK || pos != 0 {
		t.Fatalf("Parse(%q): %d, %d", src, code, pos)
	}
	if !impl.TreeOK(tree) {
		t.Fatalf("Parse(%q) gave a tree that is not valid", src)
	}
	text, code := impl.Print(tree)
	if code != impl.OK {
		if code != impl.ErrBig || text != "" {
			t.Fatalf("Print of %q: %q, %d", src, text, code)
		}
		return false
	}
	again, code, pos := impl.Parse(text)
	if code != impl.OK || pos != 0 || !sameTree(bare(again), bare(tree)) {
		t.Fatalf("%q was printed as %q, which is read as %v, %d, %d", src, text, again, code, pos)
	}
	if more, code := impl.Print(again); code != impl.OK || more != text {
		t.Fatalf("%q is printed as %q, %d", text, more, code)
	}
	return true
}

func TestPromise7(t *testing.T) {
	t.Parallel()
	numbers := &numberSource{state: 7}
	written := 0
	for round := 0; round < 6000; round++ {
		root := grower{numbers}.statement(1 + round%6)
		src := looseText(numbers, root)
		got, code, pos := impl.Parse(src)
		if len(src) > impl.MaxSource || len(planted(root).Nodes) > impl.MaxNodes {
			if code != impl.ErrBig {
				t.Fatalf("Parse of %d bytes: %d, %d", len(src), code, pos)
			}
			continue
		}
		if want := planted(root); code != impl.OK || pos != 0 || !sameTree(got, want) {
			t.Fatalf("Parse(%q) = %v, %d, %d; want %v", src, got, code, pos, want)
		}
		want, count := normalText(root)
		text, code := impl.Print(got)
		switch {
		case len(want) > impl.MaxSource || count > impl.MaxTokens:
			if code != impl.ErrBig || text != "" {
				t.Fatalf("Print of %d tokens, %d bytes: %q, %d", count, len(want), text, code)
			}
		case text != want || code != impl.OK:
			t.Fatalf("Print of %q: %q, %d; want %q", src, text, code, want)
		case wantRoundTrip(t, src):
			written++
		}
	}
	if written < 5000 {
		t.Errorf("only %d of the trees were written", written)
	}
}

// TestPromise7OfText asks for the promise of texts that were not made from a tree.
func TestPromise7OfText(t *testing.T) {
	for _, c := range parseCases() {
		wantRoundTrip(t, c.src)
		wantRoundTrip(t, c.src+" ; -- end")
	}
}

func oddNode(numbers *numberSource) impl.Node {
	g := grower{numbers}
	values := append(validValues(), invalidValues()...)
	number := func() int {
		return g.pick(0, 0, 1, 2, 3, -1, 5, 8, 16, math.MaxInt, math.MinInt, below(numbers, 70), -below(numbers, 70))
	}
	node := impl.Node{Op: number(), N: number(), M: number(), Pos: number(), Val: values[below(numbers, len(values))]}
	names := []string{"", "", "a", "\x00", "é", g.name(), "\xff", string(make([]byte, 9000))}
	node.Name, node.Qual = names[below(numbers, len(names))], names[below(numbers, len(names))]
	for count := below(numbers, 4); count > 0; count-- {
		node.Kids = append(node.Kids, number())
	}
	return node
}

func TestPromise1OfSyntax(t *testing.T) {
	t.Parallel()
	numbers := &numberSource{state: 17}
	pieces := append(lexPieces(), "?", "\x00", "\xff", "(", ")", "select ", " from ", " as ", " case ", " in ", " not ", " - ", "date ", " union ", "insert into ")
	for round := 0; round < 3000; round++ {
		src := randomSource(numbers, pieces, 30)
		tree, code, pos := impl.Parse(src)
		told := slices.Contains([]int{impl.OK, impl.ErrToken, impl.ErrSyntax, impl.ErrDeep, impl.ErrBig}, code)
		if !told || code != impl.OK && len(tree.Nodes) > 0 || code == impl.OK && pos != 0 || pos < 0 || pos > len(src) {
			t.Fatalf("Parse(%q) = %v, %d, %d", src, tree, code, pos)
		}
	}
	for round := 0; round < 5000; round++ {
		tree := planted(grower{numbers}.statement(round % 4))
		for count := below(numbers, 3); count >= 0; count-- {
			tree.Nodes[below(numbers, len(tree.Nodes))] = oddNode(numbers)
		}
		kept := copyTree(tree)
		valid := impl.TreeOK(tree)
		text, code := impl.Print(tree)
		if !sameTree(tree, kept) {
			t.Fatalf("%v was written into", kept)
		}
		if valid != (code != impl.ErrBad) || code != impl.OK && text != "" {
			t.Fatalf("Print(%v) = %q, %d; valid: %v", tree, text, code, valid)
		}
	}
}

func TestParseSharesNothing(t *testing.T) {
	src := "select a, b, f(c, d, e) from t, u join v on x in (1, 2, 3) where case a when b then c else d end group by a, b, c order by a, b"
	tree, _, _ := impl.Parse(src)
	kept := copyTree(tree)
	var lists [][]int
	for _, node := range tree.Nodes {
		lists = append(lists, node.Kids)
	}
	wantApart(t, src, lists)
	if again, _, _ := impl.Parse(src); !sameTree(again, kept) {
		t.Errorf("a second call gives %v", again)
	}
}
