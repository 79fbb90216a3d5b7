package tests

import (
	"slices"

	"loop.example/g00001/impl"
)

// rewriting is one of the functions of chapter 9, and the same by its words.
type rewriting struct {
	name   string
	call   func(s impl.Schema, p impl.Plan) (impl.Plan, int)
	wanted func(p impl.Plan) impl.Plan
}

func rewritings() []rewriting {
	one := func(change func(r *rewriter, root *shrub) *shrub) func(p impl.Plan) impl.Plan {
		return func(p impl.Plan) impl.Plan { return wantedRewriting(p, change) }
	}
	fold, join, simple := one((*rewriter).fold), one((*rewriter).decorrelate), one((*rewriter).simplify)
	push := one(func(r *rewriter, root *shrub) *shrub { return r.push(root, nil) })
	return []rewriting{
		{"FoldPlan", impl.FoldPlan, fold}, {"Decorrelate", impl.Decorrelate, join}, {"SimplifyJoins", impl.SimplifyJoins, simple}, {"PushFilters", impl.PushFilters, push},
		{"Rewrite", impl.Rewrite, func(p impl.Plan) impl.Plan { return fold(push(simple(join(fold(p))))) }},
	}
}

// rewriter says chapter 9 once more; a branch that names a plan has the plan's place in the planner's list as B.
type rewriter struct{ planner }

// shrubsOf is a plan's root with all below it at hand, and what knows its plans.
func shrubsOf(p impl.Plan) (*rewriter, *shrub) {
	r := &rewriter{}
	for _, n := range p.Nodes {
		made := &shrub{PNode: n}
		made.Exprs = nil
		if n.L >= 0 {
			made.l = r.plans[n.L]
		}
		if n.R >= 0 {
			made.r = r.plans[n.R]
		}
		for _, e := range n.Exprs {
			made.exprs = append(made.exprs, upright(e))
		}
		r.plans = append(r.plans, made)
	}
	return r, r.plans[len(r.plans)-1]
}

// wantedRewriting is a rewriting of a valid plan, or the plan itself where that would have too many nodes.
func wantedRewriting(p impl.Plan, change func(r *rewriter, root *shrub) *shrub) impl.Plan {
	r, root := shrubsOf(p)
	root = change(r, root)
	if r.nodeCount(root, map[*shrub]int{}) > 200 {
		return p
	}
	q := impl.Plan{Nodes: r.lay(root, nil)}
	for _, n := range q.Nodes {
		if slices.ContainsFunc(n.Exprs, func(e impl.Expr) bool { return len(e.Nodes) > 400 }) {
			return p
		}
	}
	return q
}

// plansOf are the plans that an expression names.
func (r *rewriter) plansOf(b *branch) []*shrub {
	var list []*shrub
	for _, node := range laid(b).Nodes {
		if node.Op >= impl.XExists {
			list = append(list, r.plans[node.B])
		}
	}
	return list
}

func (r *rewriter) isPlain(b *branch) bool { return len(r.plansOf(b)) == 0 }

func (r *rewriter) safeNode(n *shrub) bool {
	for _, agg := range n.Aggs {
		if agg.Fn == impl.AggSum || agg.Fn == impl.AggAvg {
			return false
		}
	}
	for _, e := range n.exprs {
		if !wantedSafe(e) || slices.ContainsFunc(laid(e).Nodes, func(x impl.XNode) bool { return x.Op == impl.XScalar }) {
			return false
		}
		for _, plan := range r.plansOf(e) {
			if !r.safePlan(plan) {
				return false
			}
		}
	}
	return true
}

func (r *rewriter) safePlan(n *shrub) bool {
	return n == nil || r.safeNode(n) && r.safePlan(n.l) && r.safePlan(n.r)
}

// within puts what a change makes of them in the place of L, R and the plans in a node's expressions.
func (r *rewriter) within(n *shrub, change func(n *shrub) *shrub) *shrub {
	made := *n
	if n.l != nil {
		made.l = change(n.l)
	}
	if n.r != nil {
		made.r = change(n.r)
	}
	made.exprs = r.inPlans(n.exprs, change)
	return &made
}

func (r *rewriter) inPlans(exprs []*branch, change func(n *shrub) *shrub) []*branch {
	var list []*branch
	for _, e := range exprs {
		made := *e
		made.kids = r.inPlans(e.kids, change)
		if e.Op >= impl.XExists {
			r.plans = append(r.plans, change(r.plans[e.B]))
			made.B = len(r.plans) - 1
		}
		list = append(list, &made)
	}
	return list
}

// renumbered has other rows and columns in a plain expression.
func renumbered(b *branch, to func(row, column int) (int, int)) *branch {
	made := *b
	made.kids = nil
	for _, kid := range b.kids {
		made.kids = append(made.kids, renumbered(kid, to))
	}
	if b.Op == impl.XCol {
		made.A, made.B = to(b.A, b.B)
	}
	return &made
}

func wantedConjuncts(b *branch) []*branch {
	if b.Op == impl.XBin && b.A == impl.OpAnd {
		return append(wantedConjuncts(b.kids[0]), wantedConjuncts(b.kids[1])...)
	}
	return []*branch{b}
}

func andOf(list []*branch) *branch {
	switch last := len(list) - 1; last {
	case -1:
		return constOf(boolv(true))
	case 0:
		return wantedAt(list[0], impl.Bool)
	default:
		return binOf(impl.OpAnd, andOf(list[:last]), list[last])
	}
}

func filtered(n *shrub, list []*branch) *shrub {
	if len(list) == 0 {
		return n
	}
	return sameRows(n, impl.PNode{Op: impl.PFilter}, andOf(list))
}

func isEmpty(n *shrub) bool { return n != nil && n.Op == impl.PValues && n.A == 0 }

func (r *rewriter) fold(n *shrub) *shrub {
	n = r.within(n, r.fold)
	for i, e := range n.exprs {
		if r.isPlain(e) {
			if made := wantedFold(e); len(laid(made).Nodes) <= 400 {
				n.exprs[i] = made
			}
		}
	}
	empty := &shrub{PNode: impl.PNode{Op: impl.PValues, Kinds: n.Kinds}}
	isTrue, isOther := false, false
	if n.Op == impl.PFilter || n.Op == impl.PJoin {
		v := heldBy(n.exprs[0])
		isTrue, isOther = v != nil && *v == boolv(true), v != nil && *v != boolv(true)
	}
	noL, noR, safeL, safeR := isEmpty(n.l), isEmpty(n.r), r.safePlan(n.l), r.safePlan(n.r)
	once := func(side *shrub) *shrub {
		if n.A == 0 && side != nil {
			return sameRows(side, impl.PNode{Op: impl.PDistinct})
		}
		return side
	}
	for _, rule := range []struct {
		ops  []int
		when bool
		made *shrub
	}{
		{[]int{impl.PFilter}, isTrue, n.l},
		{[]int{impl.PFilter}, isOther && safeL, empty},
		{[]int{impl.PFilter, impl.PProject, impl.PDistinct, impl.PSort, impl.PLimit}, noL, empty},
		{[]int{impl.PLimit}, n.A == 0 && safeL, empty},
		{[]int{impl.PLimit}, n.A == -1 && n.B == 0, n.l},
		{[]int{impl.PGroup}, len(n.Keys) > 0 && noL, empty},
		{[]int{impl.PJoin, impl.PExcept}, noL && safeR, empty},
		{[]int{impl.PJoin}, (n.A == impl.JoinInner || n.A == impl.JoinSemi) && noR && safeL, empty},
		{[]int{impl.PJoin}, n.A == impl.JoinAnti && noR, n.l},
		{[]int{impl.PJoin}, n.A == impl.JoinLeft && noR, withNulls(n)},
		{[]int{impl.PJoin}, n.A == impl.JoinInner && isOther && safeL && safeR, empty},
		{[]int{impl.PUnion}, noL, once(n.r)},
		{[]int{impl.PUnion, impl.PExcept}, noR, once(n.l)},
	} {
		if rule.when && slices.Contains(rule.ops, n.Op) {
			return rule.made
		}
	}
	return n
}

// withNulls are the rows of a join's L with NULLs for the columns of R.
func withNulls(n *shrub) *shrub {
	if n.l == nil || n.r == nil {
		return nil
	}
	exprs := plainColumns(n.l.Kinds)
	for _, kind := range n.r.Kinds {
		exprs = append(exprs, wantedConstant(null, kind))
	}
	return project(n.l, exprs)
}

func (r *rewriter) decorrelate(n *shrub) *shrub {
	n = r.within(n, r.decorrelate)
	if n.Op != impl.PFilter || !r.safeNode(n) {
		return n
	}
	made := n.l
	var others []*branch
	for _, conjunct := range wantedConjuncts(n.exprs[0]) {
		asked, kind := conjunct, impl.JoinSemi
		if conjunct.Op == impl.XUn && conjunct.A == impl.OpNot && conjunct.kids[0].Op == impl.XExists {
			asked, kind = conjunct.kids[0], impl.JoinAnti
		}
		var join *shrub
		if asked.Op == impl.XExists || asked.Op == impl.XInPlan && asked.A == 0 && r.isPlain(asked.kids[0]) {
			join = r.joinOf(made, asked, kind)
		}
		if join == nil {
			others = append(others, conjunct)
		} else {
			made = join
		}
	}
	if made == n.l {
		return n
	}
	return filtered(made, others)
}

// joinOf is the join that stands for an XExists or XInPlan; nil if it cannot be.
func (r *rewriter) joinOf(left *shrub, asked *branch, kind int) *shrub {
	core := r.plans[asked.B]
	for core.Op == impl.PSort || core.Op == impl.PDistinct {
		core = core.l
	}
	y := columnOf(core.firstKind(), 0, 0)
	if core.Op == impl.PProject && !slices.ContainsFunc(core.exprs, func(e *branch) bool { return !r.isPlain(e) }) {
		if asked.Op == impl.XInPlan {
			y = core.exprs[0]
		}
		core = core.l
	}
	var kept []*branch
	for core.Op == impl.PFilter && r.isPlain(core.exprs[0]) {
		kept = append(wantedConjuncts(core.exprs[0]), kept...)
		core = core.l
	}
	if r.sees(core, 1) || len(left.Kinds)+len(core.Kinds) > 32 {
		return nil
	}
	here := func(row, column int) (int, int) {
		switch row {
		case 0:
			return 0, len(left.Kinds) + column
		case 1:
			return 0, column
		}
		return row - 1, column
	}
	var on []*branch
	if asked.Op == impl.XInPlan {
		on = append(on, binOf(impl.OpEq, asked.kids[0], renumbered(y, here)))
	}
	for _, e := range kept {
		on = append(on, renumbered(e, here))
	}
	node := impl.PNode{Op: impl.PJoin, A: kind, Kinds: left.Kinds}
	return &shrub{node, left, r.without(core, 1), []*branch{andOf(on)}}
}

// firstKind is the kind of the first column, if there is one.
func (n *shrub) firstKind() int { return append(slices.Clone(n.Kinds), impl.Null)[0] }

// sees tells whether an expression somewhere in a plan has a column of a row.
func (r *rewriter) sees(n *shrub, row int) bool {
	if n == nil {
		return false
	}
	found := r.sees(n.l, row) || r.sees(n.r, row)
	for _, e := range n.exprs {
		for _, x := range laid(e).Nodes {
			found = found || x.Op == impl.XCol && x.A == row
		}
		for _, plan := range r.plansOf(e) {
			found = found || r.sees(plan, row+1)
		}
	}
	return found
}

// without is a plan that stands a row less deep, where that row is known by a number to its own nodes.
func (r *rewriter) without(n *shrub, gone int) *shrub {
	if n == nil {
		return nil
	}
	made := *n
	made.l, made.r, made.exprs = r.without(n.l, gone), r.without(n.r, gone), nil
	for _, e := range r.inPlans(n.exprs, func(n *shrub) *shrub { return r.without(n, gone+1) }) {
		made.exprs = append(made.exprs, renumbered(e, func(row, column int) (int, int) {
			if row > gone {
				row--
			}
			return row, column
		}))
	}
	return &made
}

func (r *rewriter) simplify(n *shrub) *shrub {
	n = r.within(n, r.simplify)
	if n.Op != impl.PFilter || n.l.Op != impl.PJoin || n.l.A != impl.JoinLeft || !r.safeNode(n) {
		return n
	}
	for _, conjunct := range wantedConjuncts(n.exprs[0]) {
		if r.isPlain(conjunct) && wantedNeed(conjunct, len(n.l.l.Kinds)) {
			join := *n.l
			join.A = impl.JoinInner
			n.l = &join
			return n
		}
	}
	return n
}

// wantedNeed is the list of chapter 9: of how many kids, the first so many, one or all must need such a column.
func wantedNeed(b *branch, first int) bool {
	if b.Op == impl.XCol {
		return b.A == 0 && b.B >= first
	}
	count := 0
	for _, kid := range b.kids {
		if wantedNeed(kid, first) {
			count++
		}
	}
	switch b.Op {
	case impl.XBin:
		return b.A <= impl.OpGe && count > 0 || b.A == impl.OpOr && count == 2
	case impl.XUn:
		return (b.A == impl.OpNeg || b.A == impl.OpNot) && count == 1
	case impl.XLike, impl.XCast:
		return count > 0
	case impl.XBetween, impl.XIn:
		return wantedNeed(b.kids[0], first)
	case impl.XCall:
		return b.A != impl.FnNullif && count > 0
	}
	return false
}

// columnsSeen are the columns of row 0 in a plain expression.
func columnsSeen(b *branch) []int {
	var list []int
	for _, x := range laid(b).Nodes {
		if x.Op == impl.XCol && x.A == 0 {
			list = append(list, x.B)
		}
	}
	return list
}

// moveTo says conditions of other columns: those of row 0 get the numbers of a list.
func moveTo(list []*branch, places []int) []*branch {
	var moved []*branch
	for _, b := range list {
		moved = append(moved, renumbered(b, func(row, column int) (int, int) {
			if row == 0 {
				column = places[column]
			}
			return row, column
		}))
	}
	return moved
}

func (r *rewriter) pushNothing(n *shrub) *shrub { return r.push(n, nil) }

func (r *rewriter) push(n *shrub, conditions []*branch) *shrub {
	// places has for each column of the node the column of L that it is, -1 if it is none.
	var places []int
	least := 0
	switch {
	case n.Op == impl.PFilter && r.safeNode(n):
		return r.pushFilter(n, conditions)
	case n.Op == impl.PJoin && r.safeNode(n):
		return r.pushJoin(n, conditions)
	case n.Op == impl.PUnion:
		made := *n
		made.l, made.r = r.push(n.l, conditions), r.push(n.r, conditions)
		return &made
	case n.Op == impl.PDistinct || n.Op == impl.PSort || n.Op == impl.PExcept:
		made := *n
		made.l = r.push(n.l, conditions)
		if n.r != nil {
			made.r = r.push(n.r, nil)
		}
		return &made
	case n.Op == impl.PProject && r.safeNode(n):
		for _, e := range n.exprs {
			if e.Op == impl.XCol && e.A == 0 {
				places = append(places, e.B)
			} else {
				places = append(places, -1)
			}
		}
	case n.Op == impl.PGroup && len(n.Keys) > 0 && r.safeNode(n):
		places, least = append(slices.Clone(n.Keys), slices.Repeat([]int{-1}, len(n.Aggs))...), 1
	default:
		return filtered(r.within(n, r.pushNothing), conditions)
	}
	var down, over []*branch
	for _, c := range conditions {
		seen := columnsSeen(c)
		if len(seen) >= least && !slices.ContainsFunc(seen, func(column int) bool { return places[column] < 0 }) {
			down = append(down, c)
		} else {
			over = append(over, c)
		}
	}
	made := *n
	made.l, made.exprs = r.push(n.l, moveTo(down, places)), r.inPlans(n.exprs, r.pushNothing)
	return filtered(&made, over)
}

// ownConditions are the conjuncts of a node that are not true anyway: the plain ones, and the others.
func (r *rewriter) ownConditions(n *shrub) (plain, others []*branch) {
	for _, c := range wantedConjuncts(n.exprs[0]) {
		switch {
		case c.Op == impl.XConst && c.Val == boolv(true):
		case r.isPlain(c):
			plain = append(plain, c)
		default:
			others = append(others, c)
		}
	}
	return plain, others
}

func (r *rewriter) pushFilter(n *shrub, conditions []*branch) *shrub {
	plain, others := r.ownConditions(n)
	return filtered(r.push(n.l, append(plain, conditions...)), r.inPlans(others, r.pushNothing))
}

func (r *rewriter) pushJoin(n *shrub, conditions []*branch) *shrub {
	width := len(n.l.Kinds)
	// sides tells how many columns of each side a condition sees.
	sides := func(c *branch) (left, right int) {
		for _, column := range columnsSeen(c) {
			if column < width {
				left++
			} else {
				right++
			}
		}
		return left, right
	}
	plain, others := r.ownConditions(n)
	var toLeft, toRight, stay, over []*branch
	if n.A == impl.JoinInner {
		stay = others
		for _, c := range append(plain, conditions...) {
			switch left, right := sides(c); {
			case right == 0:
				toLeft = append(toLeft, c)
			case left == 0:
				toRight = append(toRight, c)
			default:
				stay = append(stay, c)
			}
		}
	} else {
		for _, c := range conditions {
			if _, right := sides(c); right == 0 {
				toLeft = append(toLeft, c)
			} else {
				over = append(over, c)
			}
		}
		for _, c := range wantedConjuncts(n.exprs[0]) {
			left, right := sides(c)
			switch {
			case slices.Contains(others, c):
				stay = append(stay, c)
			case !slices.Contains(plain, c):
			case left == 0 && right > 0:
				toRight = append(toRight, c)
			case right == 0 && n.A == impl.JoinSemi:
				toLeft = append(toLeft, c)
			default:
				stay = append(stay, c)
			}
		}
	}
	var places []int
	for column := range width + len(n.r.Kinds) {
		places = append(places, column-width)
	}
	made := *n
	made.l, made.r = r.push(n.l, toLeft), r.push(n.r, moveTo(toRight, places))
	made.exprs = []*branch{andOf(r.inPlans(stay, r.pushNothing))}
	return filtered(&made, over)
}
