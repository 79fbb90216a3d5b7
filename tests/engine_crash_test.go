package tests

import (
	"fmt"
	"slices"
	"strings"
	"testing"

	"loop.example/g00001/impl"
)

// treasury has tables with and without keys, with values of all kinds.
func treasury(t *testing.T) []impl.EngineOp {
	t.Helper()
	ops, want := engineLines(t, `
		open
		1: create table k (i int primary key, d decimal, t text, b boolean, e date)
		1: create table h (i int, d decimal, t text, b boolean, e date default date '2020-02-29')
		1: create table s (t text, i int unique, primary key (t, i))
		1: create unique index u on h (d)
		1: insert into k values (1, 1.5, 'one', true, date '0001-01-01'), (-9223372036854775807 - 1, -99999999999999.9999, '', false, date '9999-12-31'), (9223372036854775807, null, null, null, null) -> 3 rows
		1: insert into h values (null, 99999999999999.9999, '`+strings.Repeat("𝄞", 255)+`', null, default), (7, -0.0001, 'it''s %_\ é水', true, null) -> 2 rows
		1: insert into h select i, null, t, not b, e from k -> 3 rows
		1: insert into s values ('`+strings.Repeat("é", 40)+`', 1), ('', 2), ('b', -5) -> 3 rows`)
	for i, o := range must1(impl.EngineRun(ops)) {
		if told := toldEngineObs(ops[i], o); told != want[i] {
			t.Fatalf("%s%s", toldEngineOps(ops[:i+1]), told)
		}
	}
	return ops
}

func must1[T, U any](answer T, _ U) T { return answer }

// inspection asks for all that stands in some tables.
func inspection(tables ...string) []impl.EngineOp {
	var ops []impl.EngineOp
	for _, table := range tables {
		ops = append(ops, statementOp(1, "select * from "+table), statementOp(1, "explain select 1 from "+table+" where i = 1"))
	}
	return ops
}

// found is what an inspection is answered at the end of a run.
func found(ops []impl.EngineOp, look []impl.EngineOp) []impl.EngineObs {
	got, _ := impl.EngineRun(slices.Concat(ops, look))
	return got[len(ops):]
}

// crashing is a run of which the last operation is crashed: what is found ahead of that and behind it.
type crashing struct {
	ops, look      []impl.EngineOp
	before, behind []impl.EngineObs
}

func newCrashing(ops, look []impl.EngineOp) crashing {
	again := []impl.EngineOp{{Kind: impl.ECrash}, {Kind: impl.EOpen}}
	return crashing{ops, look, found(slices.Concat(ops[:len(ops)-1], again), look), found(slices.Concat(ops, again), look)}
}

// at crashes the machine at a step of the last operation, and once more at a step of the opening behind it: what is found then
// is what was there ahead of the operation, or behind it, and the latter if it was answered with 0.
func (c crashing) at(t *testing.T, step int, choices []int) string {
	t.Helper()
	last, open := len(c.ops)-1, impl.EngineOp{Kind: impl.EOpen}
	run := slices.Concat(c.ops[:last], []impl.EngineOp{
		{Kind: impl.EArm, N: step, Choices: choices}, c.ops[last], {Kind: impl.ECrash, Choices: choices}, {Kind: impl.EArm, N: step % 7, Choices: choices}, open, open, open,
	})
	got, _ := impl.EngineRun(slices.Concat(run, c.look))
	code, is := got[last+1].Code, got[len(run):]
	isBefore, isBehind := slices.EqualFunc(is, c.before, sameEngineObs), slices.EqualFunc(is, c.behind, sameEngineObs)
	switch {
	case code == impl.OK && !isBehind:
		t.Fatalf("%s\nacknowledged, and not there: %v", toldEngineOps(run), is)
	case !isBehind && !isBefore:
		t.Fatalf("%s\nneither there nor not: %v\nbefore %v\nbehind %v", toldEngineOps(run), is, c.before, c.behind)
	case code == impl.OK:
		return "acknowledged"
	case code != impl.ErrDown:
		t.Fatalf("%s%d", toldEngineOps(run), code)
	case isBefore && isBehind:
		return "crashed, either way"
	case isBefore:
		return "crashed, not there"
	}
	return "crashed, and there"
}

// TestPromise22 crashes each kind of statement at each of its steps.
func TestPromise22(t *testing.T) {
	t.Parallel()
	var met tally
	begin := treasury(t)
	statements := []string{
		"insert into k values (2, 2.5, 'two', false, date '2020-02-29')",
		"insert into h select i, null, t || t, b, e from s, (select true as b, date '1970-01-01' as e) as q",
		"update k set t = 'changed', d = 0.5",
		"update s set i = i + 10, t = t || 'x'",
		"delete from k where i > 0",
		"delete from h",
		"create table w (i int, t text)",
		"create index n on k (t)",
		"drop index u",
		"drop table h",
		"checkpoint",
		"begin;delete from s where i = 1;update h set i = 0;insert into k values (5, 5, 'five', null, null);savepoint p;delete from k;rollback to p;commit",
	}
	atOnce(t, len(statements), func(t *testing.T, run int) {
		ops := slices.Clone(begin)
		for _, text := range strings.Split(statements[run], ";") {
			ops = append(ops, statementOp(1, text))
		}
		steps, c := engineSteps(t, ops), newCrashing(ops, inspection("k", "h", "s", "w"))
		for step := range steps + 1 {
			for _, choices := range [][]int{nil, slices.Repeat([]int{8}, 60), {8, 4, 0, 8, 3}, {0, 8, 8, 8, 1}} {
				met.add(c.at(t, step, choices))
			}
		}
		if steps < 2 {
			t.Errorf("%s: %d steps", statements[run], steps)
		}
	})
	met.wantAtLeast(t, map[string]int{"acknowledged": 40, "crashed, not there": 300, "crashed, and there": 10, "crashed, either way": 10})
}

// TestPromise22ByChance crashes any statement of any script at any step.
func TestPromise22ByChance(t *testing.T) {
	t.Parallel()
	var met tally
	atOnce(t, 8, func(t *testing.T, run int) {
		for round := range 30 {
			g := newInnGrower(220000+run*1000+round, &met)
			g.machine, g.odd = 1000000, 20
			ops, want := g.grownRun(g.pick(20, 40, 60))
			var tables []string
			for _, table := range g.schema.Tables {
				tables = append(tables, impl.NameText(table.Name))
			}
			for range 10 {
				last := below(g.numberSource, len(ops))
				if steps := g.steps[last]; steps > 0 && want[last].Code == impl.OK && ops[last].Kind == impl.EStatement {
					c := newCrashing(ops[:last+1], inspection(tables...))
					met.add(c.at(t, below(g.numberSource, steps+1), []int{g.pick(0, 8), below(g.numberSource, 9), g.pick(0, 8), below(g.numberSource, 9), 8, 8, 8}))
					met.add(c.at(t, steps-1, slices.Repeat([]int{8}, steps)))
				}
			}
		}
	})
	met.wantAtLeast(t, map[string]int{"acknowledged": 40, "crashed, not there": 200, "crashed, and there": 150})
}

// TestEngineOpeningsTriedAgain crashes an opening at each step, and the next one, too.
func TestEngineOpeningsTriedAgain(t *testing.T) {
	t.Parallel()
	begin, look := treasury(t), inspection("k", "h", "s")
	want := found(begin, look)
	open := impl.EngineOp{Kind: impl.EOpen}
	down := slices.Concat(begin, []impl.EngineOp{{Kind: impl.ECrash}})
	steps := engineSteps(t, slices.Concat(down, []impl.EngineOp{open}))
	if steps < 4 {
		t.Fatalf("an opening takes %d steps", steps)
	}
	for first := range steps {
		for _, choices := range [][]int{nil, {8, 8, 8}, {4, 5, 6, 7, 8}} {
			second := (first * 3) % steps
			run := slices.Concat(down, []impl.EngineOp{{Kind: impl.EArm, N: first, Choices: choices}, open, statementOp(1, "select 1"), {Kind: impl.EArm, N: second, Choices: choices}, open, statementOp(2, "begin"), open})
			got, _ := impl.EngineRun(slices.Concat(run, look))
			var codes []int
			for _, o := range got[len(down):len(run)] {
				codes = append(codes, o.Code)
			}
			// The first opening may have done so much that the second has fewer steps left.
			if told := fmt.Sprint(codes); told != "[0 27 27 0 27 27 0]" && told != "[0 27 27 0 0 0 22]" {
				t.Fatalf("%d, %d: %s", first, second, told)
			}
			if is := got[len(run):]; !slices.EqualFunc(is, want, sameEngineObs) {
				t.Fatalf("%d, %d: %v\nnot %v", first, second, is, want)
			}
		}
	}
}
