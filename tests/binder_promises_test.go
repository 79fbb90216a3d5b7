package tests

import (
	"slices"
	"testing"

	"loop.example/g00001/impl"
)

// house has columns of each kind, names that several tables have, defaults, and a number of a table that is not its place.
func house(t *testing.T) impl.Schema {
	t.Helper()
	return defined(t, "create table t (id int primary key, a int, b text, c decimal, d boolean, e date)", "create table gone (z int)", "drop table gone",
		"create table u (id int, x decimal default 1.5, y text not null default 'q', a int default 7, w boolean, v date)", `create table "k 1" (k int)`)
}

func toldPlan(p impl.Plan) []string {
	var list []string
	for _, node := range p.Nodes {
		list = append(list, toldPlanNode(node))
	}
	return list
}

// wantStatement asks Bind and BindChange of a valid schema for what the reference answers.
func wantStatement(t *testing.T, s impl.Schema, tree impl.Tree) int {
	t.Helper()
	kept, keptTree := copySchema(s), copyTree(tree)
	text, _ := impl.Print(tree)
	plan, names, code, pos := wantedPlan(s, tree)
	got, gotNames, gotCode, gotPos := impl.Bind(s, tree)
	if gotCode != code || gotPos != pos || !slices.Equal(gotNames, names) || !samePlan(got, plan) {
		t.Fatalf("%s\nis %d, %d, %v\n%q\nnot %d, %d, %v\n%q", text, gotCode, gotPos, gotNames, toldPlan(got), code, pos, names, toldPlan(plan))
	}
	change, changeCode, changePos := wantedStatementChange(s, tree)
	made, madeCode, madePos := impl.BindChange(s, tree)
	if madeCode != changeCode || madePos != changePos || made.Kind != change.Kind || made.Table != change.Table || !samePlan(made.Plan, change.Plan) {
		t.Fatalf("%s\nis %d, %d, %d, %d\n%q\nnot %d, %d, %d, %d\n%q", text, madeCode, madePos, made.Kind, made.Table, toldPlan(made.Plan), changeCode, changePos, change.Kind, change.Table, toldPlan(change.Plan))
	}
	if !sameSchema(s, kept) || !sameTree(tree, keptTree) {
		t.Fatalf("%s: an argument was written into", text)
	}
	if code == impl.ErrBad {
		return changeCode
	}
	return code
}

func TestQueriesByChance(t *testing.T) {
	t.Parallel()
	s := house(t)
	numbers := &numberSource{state: 71}
	codes, ops, xops := map[int]int{}, map[int]int{}, map[int]int{}
	for round := 0; round < 6000; round++ {
		q := newQueryGrower(numbers, s, round%4)
		root := q.query(q.kinds(0, 3), false)
		if q.chance(10) {
			root = newPlant(impl.Node{Op: impl.NExplain}, root)
		}
		for count := below(numbers, 4); count > 2; count-- {
			q.spoilStatement(root)
		}
		tree := inTree(root)
		codes[wantStatement(t, s, tree)]++
		plan, _, _, _ := impl.Bind(s, tree)
		for _, node := range plan.Nodes {
			ops[node.Op]++
			for _, e := range node.Exprs {
				for _, x := range e.Nodes {
					xops[x.Op]++
				}
			}
		}
	}
	for code, least := range map[int]int{impl.OK: 2500, impl.ErrBig: 30, impl.ErrTable: 100, impl.ErrColumn: 200, impl.ErrMany: 400, impl.ErrType: 100, impl.ErrGroup: 30, impl.ErrWidth: 30} {
		if codes[code] < least {
			t.Errorf("code %d: %d", code, codes[code])
		}
	}
	for op := impl.PScan; op <= impl.PExcept; op++ {
		if ops[op] < 200 {
			t.Errorf("operation %d of plans: %d", op, ops[op])
		}
	}
	for op := impl.XConst; op <= impl.XInPlan; op++ {
		if xops[op] < 20 {
			t.Errorf("operation %d of expressions: %d", op, xops[op])
		}
	}
}

func TestChangesByChance(t *testing.T) {
	t.Parallel()
	s := house(t)
	numbers := &numberSource{state: 73}
	codes := map[int]int{}
	for round := 0; round < 6000; round++ {
		q := newQueryGrower(numbers, s, round%3)
		root := q.change()
		for count := below(numbers, 4); count > 2; count-- {
			q.spoilStatement(root)
		}
		codes[wantStatement(t, s, inTree(root))]++
	}
	for code, least := range map[int]int{impl.OK: 2000, impl.ErrTable: 50, impl.ErrColumn: 50, impl.ErrMany: 50, impl.ErrType: 50, impl.ErrGroup: 10, impl.ErrWidth: 20} {
		if codes[code] < least {
			t.Errorf("code %d: %d", code, codes[code])
		}
	}
}

// TestPromise1OfBinder hands in schemas and trees of which many are not valid, and trees of all statements.
func TestPromise1OfBinder(t *testing.T) {
	t.Parallel()
	g := newCatalogGrower(&numberSource{state: 107}, nil)
	rules := treeRules()
	codes := map[int]int{}
	for round := 0; round < 3000; round++ {
		whole := grownSchema(g, 4)
		s := oddSchema(g, whole)
		tree := planted(g.statement(round % 4))
		if q := newQueryGrower(g.numberSource, whole, 2); len(whole.Tables) > 0 && g.chance(2) {
			tree = inTree([]*plant{q.query(nil, false), q.change()}[g.flag()])
		}
		if g.chance(3) {
			tree.Nodes[below(g.numberSource, len(tree.Nodes))] = oddNode(g.numberSource)
		}
		if wantedSchemaOK(s) && treeValid(rules, tree) {
			codes[wantStatement(t, s, tree)]++
			continue
		}
		kept, keptTree := copySchema(s), copyTree(tree)
		p, names, code, pos := impl.Bind(s, tree)
		change, changeCode, changePos := impl.BindChange(s, tree)
		if code != impl.ErrBad || pos != 0 || len(p.Nodes) > 0 || len(names) > 0 || changeCode != impl.ErrBad || changePos != 0 || change.Kind != 0 || change.Table != 0 || len(change.Plan.Nodes) > 0 {
			t.Fatalf("%v, %v: %v, %v, %d, %d; %v, %d, %d", s, tree, p, names, code, pos, change, changeCode, changePos)
		}
		if !sameSchema(s, kept) || !sameTree(tree, keptTree) {
			t.Fatalf("%v, %v: an argument was written into", kept, keptTree)
		}
		codes[-1]++
	}
	if codes[-1] < 500 || codes[impl.OK] < 200 || codes[impl.ErrBad] < 100 {
		t.Errorf("%v", codes)
	}
}

// TestBindOtherStatements hands each function what is the other one's, or neither's.
func TestBindOtherStatements(t *testing.T) {
	s := house(t)
	queries := []string{"select 1", "explain select 1", "(select 1) order by 1"}
	changes := []string{"insert into t select zz", "update t set a = 1", "delete from t"}
	for _, text := range append(changes, "commit", "rollback to p", "begin", "checkpoint", "drop table t", "create table z (a int)", "create index i on t (a)", "drop index i", "savepoint p", "release p") {
		if p, names, code, pos := impl.Bind(s, parsed(t, " "+text)); code != impl.ErrBad || pos != 0 || len(p.Nodes) > 0 || len(names) > 0 {
			t.Errorf("%s: %v, %v, %d, %d", text, p, names, code, pos)
		}
	}
	for _, text := range append(queries, "commit", "rollback", "begin serializable", "checkpoint", "drop table t", "create table z (a int)", "create unique index i on t (a)", "drop index i", "savepoint p", "release p") {
		if change, code, pos := impl.BindChange(s, parsed(t, " "+text)); code != impl.ErrBad || pos != 0 || change.Kind != 0 || change.Table != 0 || len(change.Plan.Nodes) > 0 {
			t.Errorf("%s: %v, %d, %d", text, change, code, pos)
		}
	}
	for _, wrong := range []impl.Schema{{}, {Next: -1}, {Tables: s.Tables, Next: 1}, {Tables: append(slices.Clone(s.Tables), s.Tables[0]), Next: s.Next}} {
		if _, _, code, _ := impl.Bind(wrong, parsed(t, "select 1")); code != impl.ErrBad {
			t.Errorf("%v: %d", wrong, code)
		}
		if _, code, _ := impl.BindChange(wrong, parsed(t, "delete from t")); code != impl.ErrBad {
			t.Errorf("%v: %d", wrong, code)
		}
	}
	for _, tree := range []impl.Tree{{}, {Nodes: []impl.Node{{Op: impl.NQuery}}}, {Nodes: []impl.Node{{Op: impl.NDelete}}}} {
		_, _, code, _ := impl.Bind(s, tree)
		_, changeCode, _ := impl.BindChange(s, tree)
		if code != impl.ErrBad || changeCode != impl.ErrBad {
			t.Errorf("%v: %d, %d", tree, code, changeCode)
		}
	}
}

// listsOfPlan are all lists of numbers in a plan.
func listsOfPlan(p impl.Plan) [][]int {
	var lists [][]int
	for _, node := range p.Nodes {
		lists = append(lists, node.Keys, node.Kinds)
		for _, e := range node.Exprs {
			lists = append(lists, kidsOfExpr(e)...)
		}
	}
	return lists
}

// TestBindAnswersApart asks that no two lists of an answer share memory, also where one part of the statement is written several times.
func TestBindAnswersApart(t *testing.T) {
	s := house(t)
	many := "(select count(*) + max(a + t.a) from u group by id, x having sum(a) > 1 order by avg(a), 1 limit 1)"
	tree := parsed(t, "select distinct a, "+many+", case "+many+" when 1 then 2 when 2 then 3 end, *, t.* from t where exists (select 1 union all select 2.5) order by 2, 3 desc limit 3")
	p, names, code, _ := impl.Bind(s, tree)
	if code != impl.OK {
		t.Fatalf("%d", code)
	}
	for i := range p.Nodes {
		_ = append(p.Nodes[i].Aggs, impl.PAgg{Fn: 99})
		_ = append(p.Nodes[i].Sorts, impl.SortKey{Col: 99})
		_ = append(p.Nodes[i].Exprs, impl.Expr{})
		for k := range p.Nodes[i].Aggs {
			p.Nodes[i].Aggs[k].Fn += 100
		}
		for k := range p.Nodes[i].Sorts {
			p.Nodes[i].Sorts[k].Col += 100
		}
	}
	wanted, wantedNames, _, _ := wantedPlan(s, tree)
	for i, node := range wanted.Nodes {
		for k := range node.Aggs {
			if p.Nodes[i].Aggs[k].Fn != node.Aggs[k].Fn+100 {
				t.Errorf("node %d shares its aggregates", i)
			}
		}
		for k := range node.Sorts {
			if p.Nodes[i].Sorts[k].Col != node.Sorts[k].Col+100 {
				t.Errorf("node %d shares its sorts", i)
			}
		}
	}
	if !slices.Equal(names, wantedNames) {
		t.Errorf("%v", names)
	}
	wantApart(t, "a plan", listsOfPlan(p))
	change, _, _ := impl.BindChange(s, parsed(t, "update t set a = case "+many+" when 1 then 2 when 2 then 3 end where a in "+many))
	wantApart(t, "a change", listsOfPlan(change.Plan))
	if !sameSchema(s, house(t)) {
		t.Errorf("what was written into an answer is seen in the schema")
	}
}
