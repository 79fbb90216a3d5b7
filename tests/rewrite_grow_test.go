package tests

import (
	"fmt"
	"slices"
	"strings"
	"testing"

	"loop.example/g00001/impl"
)

// planReader reads plans that are written as calls, over the tables t, u, k and p of the estate. The columns of expressions tell what they are: i0 is column 0,
// an Int, of row 0; r2.b1 column 1, a Bool, of row 2.
type planReader struct {
	*testing.T
	planner
	// more reads calls that are no plans here; nil for others.
	more func(call impl.Node) *shrub
}

// readPlan reads a plan, which may be no valid one.
func readPlan(t *testing.T, s impl.Schema, text string) impl.Plan {
	t.Helper()
	r := &planReader{T: t, planner: planner{schema: s, tree: parsed(t, "select "+text)}}
	return impl.Plan{Nodes: r.lay(r.plan(firstItem(t, r.tree)), nil)}
}

func (r *planReader) plan(at int) *shrub {
	node := r.at(at)
	if node.Op == impl.NCol {
		return r.scan(node.Name)
	}
	if node.Name == "vals" {
		return r.values(node)
	}
	if r.more != nil {
		if made := r.more(node); made != nil {
			return made
		}
	}
	left := r.plan(node.Kids[0])
	switch node.Name {
	case "filtered":
		return sameRows(left, impl.PNode{Op: impl.PFilter}, r.expr(node.Kids[1]))
	case "projected":
		return project(left, r.exprsOf(node.Kids[1:]))
	case "joined", "leftjoined", "semijoined", "antijoined":
		return r.join(node, left, r.plan(node.Kids[1]))
	case "grouped":
		return r.group(left, r.at(node.Kids[1]).Val.S)
	case "once":
		return sameRows(left, impl.PNode{Op: impl.PDistinct})
	case "sorted":
		return sameRows(left, impl.PNode{Op: impl.PSort, Sorts: sortsOf(r.at(node.Kids[1]).Val.S)})
	case "limited":
		return sameRows(left, impl.PNode{Op: impl.PLimit, A: r.number(node.Kids[1]), B: r.number(node.Kids[2])})
	case "unioned", "unionedall", "excepted", "exceptedall":
		made := &shrub{PNode: impl.PNode{Op: impl.PUnion, Kinds: left.Kinds}, l: left, r: r.plan(node.Kids[1])}
		if strings.HasPrefix(node.Name, "except") {
			made.Op = impl.PExcept
		}
		if strings.HasSuffix(node.Name, "all") {
			made.A = 1
		}
		return made
	}
	r.Fatalf("%s is no plan", node.Name)
	return nil
}

func (r *planReader) scan(name string) *shrub {
	for i, table := range []string{"t", "u", "k", "p"} {
		if table == name {
			return scanned(r.schema.Tables[i], "").plan
		}
	}
	r.Fatalf("%s is no table", name)
	return nil
}

// values are those of vals: the letters of the kinds, then the values row by row; a row of no column for each NULL where there are no letters.
func (r *planReader) values(node impl.Node) *shrub {
	made := &shrub{PNode: impl.PNode{Op: impl.PValues}}
	for _, letter := range r.at(node.Kids[0]).Val.S {
		made.Kinds = append(made.Kinds, strings.IndexRune(kindLetters, letter))
	}
	made.A = (len(node.Kids) - 1) / max(1, len(made.Kinds))
	if len(made.Kinds) > 0 {
		made.exprs = r.exprsOf(node.Kids[1:])
	}
	return made
}

func (r *planReader) join(node impl.Node, left, right *shrub) *shrub {
	kind := joinNamed(node.Name, "joined")
	return &shrub{impl.PNode{Op: impl.PJoin, A: kind, Kinds: joinedKinds(kind, left.Kinds, right.Kinds)}, left, right, []*branch{r.expr(node.Kids[2])}}
}

// joinNamed is the join that a call's name tells ahead of a word; 0 if it does not.
func joinNamed(name, word string) int {
	return map[string]int{word: impl.JoinInner, "left" + word: impl.JoinLeft, "semi" + word: impl.JoinSemi, "anti" + word: impl.JoinAnti}[name]
}

func joinedKinds(kind int, left, right []int) []int {
	if kind > impl.JoinCross {
		return left
	}
	return append(slices.Clone(left), right...)
}

// group reads keys and aggregates as toldPlanNode tells them.
func (r *planReader) group(left *shrub, text string) *shrub {
	node := impl.PNode{Op: impl.PGroup}
	for _, word := range strings.Fields(text) {
		var number int
		if n, _ := fmt.Sscanf(word, "k%d", &number); n == 1 {
			node.Keys = append(node.Keys, number)
			continue
		}
		name, argument, _ := strings.Cut(strings.TrimSuffix(word, ")"), "(")
		agg := impl.PAgg{Fn: slices.Index(strings.Fields("? all count sum avg min max"), name), Col: -1}
		if argument != "" {
			agg.Col = int(argument[0] - '0')
		}
		node.Aggs = append(node.Aggs, agg)
	}
	node.Kinds, _ = groupKinds(node, left.Kinds)
	return &shrub{PNode: node, l: left}
}

// sortsOf reads keys as toldPlanNode tells them.
func sortsOf(text string) []impl.SortKey {
	var keys []impl.SortKey
	for _, word := range strings.Fields(text) {
		keys = append(keys, impl.SortKey{Col: int(word[1] - '0'), Desc: strings.Contains(word, "d"), First: strings.Contains(word, "f")})
	}
	return keys
}

func (r *planReader) number(at int) int {
	if node := r.at(at); node.Op == impl.NNeg {
		return -r.number(node.Kids[0])
	}
	return r.at(at).Val.N
}

func (r *planReader) exprsOf(list []int) []*branch {
	var exprs []*branch
	for _, at := range list {
		exprs = append(exprs, r.expr(at))
	}
	return exprs
}

func (r *planReader) expr(at int) *branch { return boundNode(r.T, r.tree, at, r.naming) }

// naming reads the calls that name plans; nil for other calls.
func (r *planReader) naming(call impl.Node) *branch {
	made := &branch{XNode: impl.XNode{Kind: impl.Bool}}
	switch call.Name {
	case "some":
		made.Op = impl.XExists
	case "one":
		made.Op = impl.XScalar
	case "among", "notamong":
		made.Op = impl.XInPlan
		made.kids = []*branch{r.expr(call.Kids[0])}
		if call.Name == "notamong" {
			made.A = 1
		}
	default:
		return nil
	}
	plan := r.plan(call.Kids[len(call.Kids)-1])
	if made.Op == impl.XScalar {
		made.Kind = plan.Kinds[0]
	}
	r.plans = append(r.plans, plan)
	made.B = len(r.plans) - 1
	return made
}

// rewriteCase is a plan, and what a rewriting makes of it: itself, if nothing is said.
type rewriteCase struct{ plan, want string }

// wantRewrites asks a rewriting for plans, the reference for the same, and Meaning for the same rows.
func wantRewrites(t *testing.T, name string, cases []rewriteCase) {
	t.Helper()
	s := estate(t)
	states := []impl.State{emptyState(s), packedState(s, 3), packedState(s, 9)}
	for _, c := range cases {
		if c.want == "" {
			c.want = c.plan
		}
		p, want := readPlan(t, s, c.plan), readPlan(t, s, c.want)
		got := wantRewriting(t, s, rewritingNamed(name), p)
		if !impl.PlanOK(s, p) || !samePlan(got, want) {
			t.Errorf("%s of %s is\n%s\nnot\n%s", name, c.plan, shortPlan(got), shortPlan(want))
		}
		for _, st := range states {
			wantSameMeaning(t, s, st, p, got)
		}
	}
}

func rewritingNamed(name string) rewriting {
	all := rewritings()
	return all[slices.IndexFunc(all, func(r rewriting) bool { return r.name == name })]
}

// wantRewriting asks a rewriting of a valid schema for what the reference answers; it tells the answer.
func wantRewriting(t *testing.T, s impl.Schema, r rewriting, p impl.Plan) impl.Plan {
	t.Helper()
	kept := copyPlan(p)
	var want impl.Plan
	wantCode := impl.ErrBad
	if wantedPlanOK(s, p) {
		want, wantCode = r.wanted(p), impl.OK
	}
	got, code := r.call(s, p)
	if code != wantCode || !samePlan(got, want) {
		t.Fatalf("%s of %s\nis %d\n%s\nnot %d\n%s", r.name, shortPlan(p), code, shortPlan(got), wantCode, shortPlan(want))
	}
	if code == impl.OK && !impl.PlanOK(s, got) {
		t.Fatalf("%s of %s is not valid:\n%s", r.name, shortPlan(p), shortPlan(got))
	}
	if !samePlan(p, kept) {
		t.Fatalf("%s wrote into %s", r.name, shortPlan(kept))
	}
	return got
}

// wantSameMeaning holds the meanings of two plans against each other; it tells the code, ErrFuel where one of them has that.
func wantSameMeaning(t *testing.T, s impl.Schema, st impl.State, p, q impl.Plan) int {
	t.Helper()
	one, code := impl.Meaning(s, st, p)
	two, other := impl.Meaning(s, st, q)
	if code == impl.ErrFuel || other == impl.ErrFuel {
		return impl.ErrFuel
	}
	if code != other || !sameValues(one, two) {
		t.Fatalf("%s\nis %d %v\n%s\nis %d %v\nover %v", shortPlan(p), code, one, shortPlan(q), other, two, st)
	}
	return code
}

// richCondition joins some conditions by AND: most are safe, many compare two columns or name a plan.
func (g planGrower) richCondition(lists [][]int) *branch {
	var list []*branch
	for count := g.pick(1, 1, 1, 2, 2, 3, 4); count > 0; count-- {
		list = append(list, g.conjunct(lists))
	}
	if len(list) == 3 && g.chance(2) {
		return binOf(impl.OpAnd, list[0], binOf(impl.OpAnd, list[1], list[2]))
	}
	whole := list[0]
	for _, next := range list[1:] {
		whole = binOf(impl.OpAnd, whole, next)
	}
	return whole
}

func (g planGrower) conjunct(lists [][]int) *branch {
	switch choice := below(g.numberSource, 24); {
	case choice < 2:
		return constOf(boolv(true))
	case choice == 2 && g.chance(2):
		return g.pickBranch(constOf(boolv(false)), constOf(null), castOf(impl.Bool, constOf(null)))
	case choice == 3:
		return g.exprs(lists).ofKind(impl.Bool, g.pick(1, 2))
	case choice < 10 && g.depth > 0 && len(lists) < 8:
		return g.question(lists)
	case choice < 20:
		return g.comparison(lists)
	}
	return g.pickBranch(unOf(impl.OpIsNull, g.someColumn(lists)), unOf(impl.OpNot, g.comparison(lists)), binOf(impl.OpOr, g.comparison(lists), g.comparison(lists)))
}

func (g planGrower) pickBranch(list ...*branch) *branch {
	return list[below(g.numberSource, len(list))]
}

// someColumn is most often a column of row 0.
func (g planGrower) someColumn(lists [][]int) *branch {
	row := 0
	if g.chance(4) {
		row = below(g.numberSource, len(lists))
	}
	if len(lists[row]) == 0 {
		return constOf(intv(1))
	}
	column := below(g.numberSource, len(lists[row]))
	return columnOf(lists[row][column], row, column)
}

// comparison is between a column and another one, or a constant.
func (g planGrower) comparison(lists [][]int) *branch {
	first := g.someColumn(lists)
	second := constOf(g.exprs(lists).valueOf(first.Kind))
	for range 4 {
		if other := g.someColumn(lists); g.chance(2) && impl.OpKind(impl.OpEq, first.Kind, other.Kind) >= 0 {
			second = other
		}
	}
	switch below(g.numberSource, 8) {
	case 0:
		return newBranch(impl.XNode{Op: impl.XIn, A: g.flag()}, first, second, constOf(g.exprs(lists).valueOf(first.Kind)))
	case 1:
		return newBranch(impl.XNode{Op: impl.XBetween, A: g.flag()}, first, second, second)
	case 2:
		return binOf(impl.OpSame, first, second)
	}
	return binOf(g.pick(impl.OpEq, impl.OpEq, impl.OpNe, impl.OpNe, impl.OpLe, impl.OpGe), first, second)
}

// question is about a plan with a shell, whose core mostly does not see row 0 of the lists.
func (g planGrower) question(lists [][]int) *branch {
	inner := g
	inner.depth--
	core := inner.grown(lists, g.pick(0, 0, 0, 1, 2))
	if g.chance(3) {
		core = scanned(g.schema.Tables[below(g.numberSource, len(g.schema.Tables))], "").plan
	}
	for count := g.pick(0, 1, 1, 2); count > 0; count-- {
		core = sameRows(core, impl.PNode{Op: impl.PFilter}, inner.condition(append([][]int{core.Kinds}, lists...)))
	}
	node := impl.XNode{Op: impl.XExists, Kind: impl.Bool}
	var kids []*branch
	if g.chance(2) {
		kid := g.someColumn(lists)
		node.Op, node.A = impl.XInPlan, g.pick(0, 0, 0, 1)
		kids = []*branch{kid}
		core = project(core, []*branch{inner.exprs(append([][]int{core.Kinds}, lists...)).ofKind(kid.Kind, g.pick(0, 0, 0, 1))})
	} else if g.chance(2) {
		core = project(core, plainColumns(core.Kinds))
	}
	for count := g.pick(0, 0, 0, 1, 2); count > 0; count-- {
		shell := impl.PNode{Op: impl.PDistinct}
		if len(core.Kinds) > 0 && g.chance(2) {
			shell = impl.PNode{Op: impl.PSort, Sorts: []impl.SortKey{{}}}
		}
		core = sameRows(core, shell)
	}
	g.plans = append(g.plans, core)
	node.B = len(g.plans) - 1
	asked := &branch{node, kids}
	if node.Op == impl.XExists && g.chance(3) {
		return unOf(impl.OpNot, asked)
	}
	return asked
}
