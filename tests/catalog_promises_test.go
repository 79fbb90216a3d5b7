package tests

import (
	"math"
	"slices"
	"strings"
	"testing"

	"loop.example/g00001/impl"
)

// wantWholeLiteral asks for promise 3 of one value.
func wantWholeLiteral(t *testing.T, v impl.Value) {
	t.Helper()
	tree := parsed(t, "select "+impl.Show(v))
	e, code, pos := impl.BindPlain(tree, firstItem(t, tree), nil)
	if code != impl.OK || pos != 0 || !impl.ExprOK(e, nil) {
		t.Fatalf("%s: %v, %d, %d", impl.Show(v), e, code, pos)
	}
	wantWorkedOut(t, e, v)
	if v == null {
		return
	}
	words := strings.Fields("- INT DECIMAL TEXT BOOLEAN DATE")
	s, code, pos := impl.Define(impl.Schema{Next: 1}, parsed(t, "create table t (c "+words[v.Kind]+" default "+impl.Show(v)+")"))
	if code != impl.OK || pos != 0 || s.Tables[0].Cols[0].Default != v {
		t.Fatalf("DEFAULT %s: %v, %d, %d", impl.Show(v), s, code, pos)
	}
}

func TestPromise3Whole(t *testing.T) {
	for _, v := range literalValues(&numberSource{state: 33}, 1000) {
		wantWholeLiteral(t, v)
	}
	// The least Int has no literal, but can be written.
	tree := parsed(t, "select -9223372036854775807 - 1")
	e, code, _ := impl.BindPlain(tree, firstItem(t, tree), nil)
	if v, failed := impl.EvalExpr(e, nil); v != intv(math.MinInt) || code != impl.OK || failed != impl.OK {
		t.Errorf("the least Int: %v, %d, %d", v, code, failed)
	}
}

func TestBindByChance(t *testing.T) {
	t.Parallel()
	numbers := &numberSource{state: 61}
	// The columns that are grown are meant by their names alone; the others make names mean several.
	cols := []impl.ColName{
		{Qual: "t", Name: "c0", Kind: 1}, {Qual: "t", Name: "c1", Kind: 4}, {Qual: "u", Name: "c2", Kind: 0}, {Qual: "u", Name: "c3", Kind: 2}, {Name: "c4", Kind: 3}, {Qual: "t", Name: "c5", Kind: 5},
		{Qual: "t", Name: "a", Kind: 1}, {Qual: "t", Name: "a", Kind: 2}, {Qual: "t", Name: "b", Kind: 1}, {Qual: "b", Name: "b", Kind: 3},
	}
	g := newCatalogGrower(numbers, cols[:6])
	codes := map[int]int{}
	for round := 0; round < 12000; round++ {
		p := g.sql(g.pick(0, 1, 2, 3, 4, 5), 1+round%5)
		for count := below(numbers, 3); count > 1; count-- {
			g.spoil(p)
		}
		tree := selected(p)
		if len(tree.Nodes) > 2000 {
			continue
		}
		kept := copyTree(tree)
		at := firstItem(t, tree)
		want, code, pos := asked(func() impl.Expr { return laid(wantedBinding(tree, at, cols)) })
		e, gotCode, gotPos := impl.BindPlain(tree, at, cols)
		if gotCode != code || gotPos != pos || !sameExpr(e, want) {
			text, _ := impl.Print(tree)
			t.Fatalf("%s: %s, %d, %d; want %s, %d, %d", text, impl.ExprText(e), gotCode, gotPos, impl.ExprText(want), code, pos)
		}
		if code == impl.OK && !impl.ExprOK(e, kindsOfCols(cols)) || !sameTree(tree, kept) {
			t.Fatalf("%v", tree)
		}
		codes[code]++
	}
	for code, least := range map[int]int{impl.OK: 5000, impl.ErrColumn: 200, impl.ErrMany: 10, impl.ErrType: 400, impl.ErrGroup: 400, impl.ErrWidth: 100, impl.ErrBig: 5} {
		if codes[code] < least {
			t.Errorf("code %d: %d", code, codes[code])
		}
	}
}

// wantDefined asks of a valid schema for what the reference answers, and for promise 9.
func wantDefined(t *testing.T, s impl.Schema, tree impl.Tree) (impl.Schema, int) {
	t.Helper()
	kept, keptTree := copySchema(s), copyTree(tree)
	want, code, pos := wantedDefine(s, tree)
	got, gotCode, gotPos := impl.Define(s, tree)
	text, _ := impl.Print(tree)
	if gotCode != code || gotPos != pos || !sameSchema(got, want) {
		t.Fatalf("%s\non %v\nis %v, %d, %d\nnot %v, %d, %d", text, s, got, gotCode, gotPos, want, code, pos)
	}
	if !sameSchema(s, kept) || !sameTree(tree, keptTree) {
		t.Fatalf("%s on %v: an argument was written into", text, kept)
	}
	if code == impl.OK {
		if !impl.SchemaOK(got) || !wantedSchemaOK(got) {
			t.Fatalf("%s on %v gives a schema that is not valid: %v", text, s, got)
		}
		wantDropped(t, s, got, tree)
	}
	return got, code
}

// wantDropped asks that a DROP of what was created leaves what was there.
func wantDropped(t *testing.T, s, more impl.Schema, tree impl.Tree) {
	t.Helper()
	root := tree.Nodes[len(tree.Nodes)-1]
	drop := map[int]int{impl.NCreateTable: impl.NDropTable, impl.NCreateIndex: impl.NDropIndex}[root.Op]
	if drop == 0 {
		return
	}
	less, code, pos := impl.Define(more, impl.Tree{Nodes: []impl.Node{{Op: drop, Name: root.Name}}})
	want := copySchema(s)
	want.Next++
	if code != impl.OK || pos != 0 || !sameSchema(less, want) {
		t.Fatalf("%v\nis dropped from %v\nto %v, %d, %d", root, more, less, code, pos)
	}
}

func TestPromise9(t *testing.T) {
	t.Parallel()
	numbers := &numberSource{state: 9}
	codes, changed := map[int]int{}, map[int]int{}
	for run := 0; run < 60; run++ {
		s := impl.Schema{Next: 1}
		if run%10 == 9 {
			s.Next = impl.MaxIds - 6
		}
		for step := 0; step < 40; step++ {
			root := newCatalogGrower(numbers, nil).definition(s)
			next, code := wantDefined(t, s, inTree(root))
			codes[code]++
			if code == impl.OK {
				s = next
				changed[root.Op]++
			}
		}
	}
	for code, least := range map[int]int{
		impl.OK: 900, impl.ErrBig: 20, impl.ErrTable: 20, impl.ErrColumn: 50, impl.ErrMany: 10, impl.ErrExists: 200, impl.ErrType: 5, impl.ErrGroup: 3, impl.ErrOverflow: 10, impl.ErrZero: 1, impl.ErrCast: 10,
	} {
		if codes[code] < least {
			t.Errorf("code %d: %d", code, codes[code])
		}
	}
	for op, least := range map[int]int{impl.NCreateTable: 300, impl.NCreateIndex: 150, impl.NDropTable: 60, impl.NDropIndex: 60} {
		if changed[op] < least {
			t.Errorf("operation %d: %d", op, changed[op])
		}
	}
}

// grownSchema is a valid schema of some definitions.
func grownSchema(g catalogGrower, steps int) impl.Schema {
	s := impl.Schema{Next: 1}
	for ; steps > 0; steps-- {
		if next, code, _ := impl.Define(s, inTree(g.definition(s))); code == impl.OK {
			s = next
		}
	}
	return s
}

func oddText(g catalogGrower) string {
	return g.oneOf("", "\x00", "\xff", "CREATE TABLE t ( a INT )", "CREATE INDEX i ON t ( a )", "DROP TABLE t", "SELECT 1", "CREATE TABLE", "create table t (a int)", "CREATE TABLE t ( a INT ) ;",
		strings.Repeat("CREATE ", 5000), "CREATE TABLE "+g.tableName()+" ( "+g.columnName()+" INT )")
}

func oddNumber(g catalogGrower) int {
	return g.pick(0, 1, 2, 3, -1, 7, 24, impl.MaxIds-1, impl.MaxIds, impl.MaxIds+1, math.MaxInt, math.MinInt)
}

func oddTable(g catalogGrower) impl.Table {
	table := impl.Table{Name: g.tableName(), Id: oddNumber(g), Text: oddText(g)}
	for count := below(g.numberSource, 4); count > 0; count-- {
		values := append(validValues(), invalidValues()...)
		column := impl.Column{Name: g.columnName(), Kind: oddNumber(g), NotNull: g.chance(2), HasDefault: g.chance(2), Default: values[below(g.numberSource, len(values))]}
		table.Cols = append(table.Cols, column)
		table.Primary = append(table.Primary, oddNumber(g))
		table.Uniques = append(table.Uniques, []int{oddNumber(g)}, nil)
		table.Checks = append(table.Checks, impl.Expr{Nodes: []impl.XNode{oddXNode(g.grower), oddXNode(g.grower)}})
	}
	return table
}

// oddSchema changes a valid schema a little.
func oddSchema(g catalogGrower, s impl.Schema) impl.Schema {
	s = copySchema(s)
	if g.chance(2) {
		return s
	}
	if len(s.Tables) == 0 || len(s.Indexes) == 0 {
		return impl.Schema{Tables: []impl.Table{oddTable(g)}, Next: oddNumber(g)}
	}
	table, index := &s.Tables[below(g.numberSource, len(s.Tables))], &s.Indexes[below(g.numberSource, len(s.Indexes))]
	switch below(g.numberSource, 12) {
	case 0:
		s.Next = oddNumber(g)
	case 1:
		table.Id = oddNumber(g)
	case 2:
		index.Id = oddNumber(g)
	case 3:
		table.Text = oddText(g)
	case 4:
		index.Text = oddText(g)
	case 5:
		index.Table = g.tableName()
	case 6:
		table.Primary = append(table.Primary, oddNumber(g))
	case 7:
		table.Checks = append(table.Checks, impl.Expr{Nodes: []impl.XNode{oddXNode(g.grower)}})
	case 8:
		*table = oddTable(g)
	case 9:
		table.Name = g.tableName()
	case 10:
		s.Tables = append(s.Tables, *table)
	}
	return s
}

func oddRow(g catalogGrower, table impl.Table) []impl.Value {
	var row []impl.Value
	for _, column := range table.Cols {
		row = append(row, g.valueOf(g.pick(column.Kind, column.Kind, column.Kind, column.Kind, impl.Null, impl.Int)))
	}
	wrong := invalidValues()
	switch below(g.numberSource, 8) {
	case 0:
		row = append(row, null)
	case 1:
		row = row[:len(row)-1]
	case 2:
		row[0] = wrong[below(g.numberSource, len(wrong))]
	}
	return row
}

func TestPromise1OfCatalog(t *testing.T) {
	t.Parallel()
	g := newCatalogGrower(&numberSource{state: 101}, nil)
	valid, codes := 0, map[int]int{}
	for round := 0; round < 1500; round++ {
		whole := grownSchema(g, 9)
		s := oddSchema(g, whole)
		kept := copySchema(s)
		ok := wantedSchemaOK(s)
		if impl.SchemaOK(s) != ok {
			t.Fatalf("SchemaOK(%v) is not %v", s, ok)
		}
		if ok {
			valid++
		}
		tree := inTree(g.definition(whole))
		if g.chance(3) {
			tree.Nodes[below(g.numberSource, len(tree.Nodes))] = oddNode(g.numberSource)
		}
		want, code, pos := wantedDefine(s, tree)
		if !ok {
			want, code, pos = impl.Schema{}, impl.ErrBad, 0
		}
		if got, gotCode, gotPos := impl.Define(s, tree); gotCode != code || gotPos != pos || !sameSchema(got, want) {
			t.Fatalf("Define(%v, %v) is %v, %d, %d; not %v, %d, %d", s, tree, got, gotCode, gotPos, want, code, pos)
		}
		for table := -1; table <= len(s.Tables); table++ {
			row := oddRow(g, impl.Table{Cols: make([]impl.Column, 2)})
			if table >= 0 && table < len(whole.Tables) {
				row = oddRow(g, whole.Tables[table])
			}
			keptRow := slices.Clone(row)
			code := impl.ErrBad
			if ok {
				code = wantedRowCode(s, table, row)
			}
			if got := impl.CheckRow(s, table, row); got != code || !slices.Equal(row, keptRow) {
				t.Fatalf("CheckRow(%v, %d, %v) is %d, not %d", s, table, row, got, code)
			}
			codes[code]++
		}
		if !sameSchema(s, kept) {
			t.Fatalf("%v was written into", kept)
		}
	}
	if valid < 200 || valid > 1300 || codes[impl.OK] < 100 || codes[impl.ErrBad] < 100 || codes[impl.ErrNull] < 30 || codes[impl.ErrCheck] < 30 {
		t.Errorf("%d are valid, codes of rows: %v", valid, codes)
	}
}

// TestPromise1OfOddBindings hands trees, nodes and columns to BindPlain that are not valid.
func TestPromise1OfOddBindings(t *testing.T) {
	g := newCatalogGrower(&numberSource{state: 103}, nil)
	rules := treeRules()
	for round := 0; round < 4000; round++ {
		tree := planted(g.statement(round % 4))
		if g.chance(2) {
			tree.Nodes[below(g.numberSource, len(tree.Nodes))] = oddNode(g.numberSource)
		}
		node := below(g.numberSource, len(tree.Nodes)+2) - 1
		var cols []impl.ColName
		for count := below(g.numberSource, 3); count > 0; count-- {
			cols = append(cols, impl.ColName{Qual: g.name(), Name: g.name(), Kind: g.pick(0, 1, 2, 3, 4, 5, 1, 3, -1, 6, math.MaxInt, math.MinInt)})
		}
		kept, keptCols := copyTree(tree), slices.Clone(cols)
		want, code, pos := impl.Expr{}, impl.ErrBad, 0
		named := node >= 0 && node < len(tree.Nodes) && tree.Nodes[node].Op >= impl.NLit && tree.Nodes[node].Op <= impl.NScalar
		if treeValid(rules, tree) && named && !slices.ContainsFunc(cols, func(c impl.ColName) bool { return c.Kind < 0 || c.Kind > 5 }) {
			want, code, pos = asked(func() impl.Expr { return laid(wantedBinding(tree, node, cols)) })
		}
		if e, gotCode, gotPos := impl.BindPlain(tree, node, cols); gotCode != code || gotPos != pos || !sameExpr(e, want) {
			t.Fatalf("BindPlain(%v, %d, %v) is %v, %d, %d; not %v, %d, %d", tree, node, cols, e, gotCode, gotPos, want, code, pos)
		}
		if !sameTree(tree, kept) || !slices.Equal(cols, keptCols) {
			t.Fatalf("%v, %v was written into", kept, keptCols)
		}
	}
}
