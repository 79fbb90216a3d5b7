package tests

import (
	"fmt"
	"math"
	"slices"
	"strings"
	"testing"

	"loop.example/g00001/impl"
)

func TestEngineKinds(t *testing.T) {
	t.Parallel()
	for _, kind := range []int{math.MinInt, -1, 0, 5, 9, 11, math.MaxInt} {
		op := impl.EngineOp{Kind: kind, Session: 1, Text: "select 1", N: 3, Choices: []int{1}}
		got, code := impl.EngineRun([]impl.EngineOp{op, {Kind: impl.EOpen}, op})
		if code != impl.OK || len(got) != 3 || !sameEngineObs(got[0], impl.EngineObs{Code: impl.ErrBad}) || !sameEngineObs(got[2], impl.EngineObs{Code: impl.ErrBad}) {
			t.Errorf("kind %d: %d %v", kind, code, got)
		}
	}
	// What is no statement has no session, and no text.
	got, _ := impl.EngineRun([]impl.EngineOp{{Kind: impl.EArm, Session: 9, N: -1}, {Kind: impl.EOpen, Session: -1, Text: "x"}, {Kind: impl.ECrash, Session: 77, N: 5}})
	for i, o := range got {
		if !sameEngineObs(o, impl.EngineObs{}) {
			t.Errorf("operation %d: %v", i, o)
		}
	}
}

func TestEngineSessions(t *testing.T) {
	t.Parallel()
	for _, session := range []int{math.MinInt, -1, 0, 1, 2, 3, 4, 5, math.MaxInt} {
		op := statementOp(session, "select 7 as n")
		got, _ := impl.EngineRun([]impl.EngineOp{op, {Kind: impl.EOpen}, op})
		down, up := impl.EngineObs{Code: impl.ErrBad}, impl.EngineObs{Code: impl.ErrBad}
		if session >= 1 && session <= impl.MaxSessions {
			down, up = impl.EngineObs{Code: impl.ErrDown}, impl.EngineObs{Count: 1, Names: []string{"n"}, Rows: [][]impl.Value{{intv(7)}}}
		}
		if !sameEngineObs(got[0], down) || !sameEngineObs(got[2], up) {
			t.Errorf("session %d: %v", session, got)
		}
	}
}

func TestEngineMaxOps(t *testing.T) {
	t.Parallel()
	for _, size := range []int{0, 1, impl.MaxOps - 1, impl.MaxOps, impl.MaxOps + 1, 100000} {
		got, code := impl.EngineRun(make([]impl.EngineOp, size))
		if size > impl.MaxOps && (code != impl.ErrBig || len(got) != 0) || size <= impl.MaxOps && (code != impl.OK || len(got) != size) {
			t.Errorf("%d operations: %d answers, %d", size, len(got), code)
		}
	}
	ops := []impl.EngineOp{{Kind: impl.EOpen}}
	for i := range impl.MaxOps - 1 {
		ops = append(ops, statementOp(1+i%4, fmt.Sprint("select ", i)))
	}
	got, _ := impl.EngineRun(ops)
	if toldRows(got[impl.MaxOps-1].Rows) != "198;" {
		t.Errorf("%v", got[impl.MaxOps-1])
	}
}

// TestEngineUpAndDown asks statements of all sorts of an engine that is down, for one reason or another.
func TestEngineUpAndDown(t *testing.T) {
	t.Parallel()
	wantScript(t, `
		1: select 1 -> ErrDown
		1: select ' -> ErrDown
		1: begin -> ErrDown
		1: create table t (a int) -> ErrDown
		2: checkpoint -> ErrDown
		arm -1
		crash
		1: select 1 -> ErrDown
		open
		open -> ErrState
		1: select 1 -> column1; 1; 1 rows
		crash 1 2 3
		crash
		1: select 1 -> ErrDown
		1: commit -> ErrDown
		open
		1: create table t (a int)
		arm 0
		1: select a from t -> a; 0 rows
		1: insert into t values (1) -> ErrDown
		1: select a from t -> ErrDown
		2: rollback -> ErrDown
		open
		1: select a from t -> a; 0 rows
		arm 0
		1: checkpoint -> ErrDown
		1: select a from t -> ErrDown
		arm 0
		open -> ErrDown
		1: select a from t -> ErrDown
		open
		open -> ErrState
		1: select a from t -> a; 0 rows
		arm 0
		1: create table u (a int) -> ErrDown
		open
		1: select a from u -> ErrTable 15`)
}

// TestEngineLosesTransactions: none is there behind an opening; an opening that is refused takes none.
func TestEngineLosesTransactions(t *testing.T) {
	t.Parallel()
	wantScript(t, `
		open
		1: create table t (a int primary key)
		1: begin
		2: begin serializable
		1: insert into t values (1) -> 1 rows
		2: insert into t values (2) -> 1 rows
		open -> ErrState
		1: select a from t -> a; 1; 1 rows
		2: commit
		1: savepoint s
		crash
		1: commit -> ErrDown
		open
		1: commit -> ErrState
		1: rollback to s -> ErrState
		2: commit -> ErrState
		1: select a from t -> a; 2; 1 rows
		1: begin
		1: insert into t values (3) -> 1 rows
		arm 0
		2: insert into t values (4) -> ErrDown
		open
		1: rollback -> ErrState
		1: create table u (b int)
		1: select a from t -> a; 2; 1 rows`)
}

// TestEngineStatements does each kind of statement by itself.
func TestEngineStatements(t *testing.T) {
	t.Parallel()
	wantScript(t, `
		open
		1: create table t (id int primary key, a text default 'q', b decimal)
		2: create table w (k int)
		3: create index i on t (a)
		4: create unique index j on t (b, a)
		1: insert into t values (3, 'x', 1.5), (1, 'y', 2), (2, default, null) -> 3 rows
		2: insert into t (id) select id + 10 from t where id > 1 -> 2 rows
		3: select * from t -> id|a|b; 1|y|2; 2|q|NULL; 3|x|1.5; 12|q|NULL; 13|q|NULL; 5 rows
		4: select a, count(*) as n from t group by a order by n desc, a -> a|n; q|3; x|1; y|1; 3 rows
		1: explain select id from t where id = 3 -> project where #0 (est 1 cost 4);   seek table 1 index 0 where 3 (est 1 cost 3)
		1: update t set b = id, a = 'z' where id < 3 -> 2 rows
		1: update t set b = 7 where id > 99 -> 0 rows
		1: delete from t where id > 10 -> 2 rows
		1: delete from t where id > 10 -> 0 rows
		1: insert into w select id from t where false -> 0 rows
		1: select * from t order by id desc -> id|a|b; 3|x|1.5; 2|z|2; 1|z|1; 3 rows
		1: select k from w -> k; 0 rows
		1: checkpoint
		1: begin
		1: commit
		1: begin
		1: rollback
		1: commit -> ErrState
		1: rollback -> ErrState
		1: savepoint s -> ErrState
		1: rollback to s -> ErrState
		1: release s -> ErrState
		1: drop index i
		1: drop table t
		1: select id from t -> ErrTable 16
		1: drop index j -> ErrTable 1
		1: drop table w`)
}

// TestEngineCodes has each step of each kind of statement fail, and tells where. The text begins with a blank.
func TestEngineCodes(t *testing.T) {
	t.Parallel()
	wantScript(t, `
		open
		1: create table t (id int primary key, a text unique, b decimal check (b > 0), c int not null default 4)
		1: insert into t values (1, 'x', 1, 1), (2, 'y', 2, 2) -> 2 rows
		1: -> ErrSyntax
		1: select ? -> ErrToken 8
		1: select 1 from -> ErrSyntax 14
		1: select 1; select 2 -> ErrSyntax 11
		1: selec 1 -> ErrSyntax 1
		1: select z from t -> ErrColumn 8
		1: select id / 0 from t -> ErrZero
		1: explain select z from t -> ErrColumn 16
		1: explain select id / 0 from t -> project where (#0 / 0) (est 2 cost 4);   scan table 1 (est 2 cost 2)
		1: explain delete from t -> ErrSyntax 9
		1: insert into nope values (1) -> ErrTable 1
		1: insert into t (id, z) values (1, 2) -> ErrColumn 20
		1: insert into t (id, id) values (1, 2) -> ErrMany 20
		1: insert into t values (1, 'q', 1) -> ErrWidth 22
		1: insert into t values ('1', 'q', 1, 1) -> ErrType 23
		1: insert into t values (1 / 0, 'q', 1, 1) -> ErrZero
		1: insert into t values (3, 'z', 1, null) -> ErrNull
		1: insert into t values (3, 'z', 0, 1) -> ErrCheck
		1: insert into t values (3, 'z', 1, 1), (4, 'z', 1, 1) -> ErrUnique
		1: insert into t values (1, 'z', 1, 1) -> ErrUnique
		1: insert into t (id) values (3), (4), (null) -> ErrNull
		1: insert into t select id, a, b, c from t -> ErrUnique
		1: update nope set a = 1 -> ErrTable 1
		1: update t set z = 1 -> ErrColumn 14
		1: update t set a = 1 -> ErrType 18
		1: update t set c = c / (id - 1) -> ErrZero
		1: update t set c = null where id = 2 -> ErrNull
		1: update t set b = -1 where id = 2 -> ErrCheck
		1: update t set a = 'x' -> ErrUnique
		1: update t set id = 1 -> ErrUnique
		1: delete from nope -> ErrTable 1
		1: delete from t where z -> ErrColumn 21
		1: delete from t where id -> ErrType 21
		1: delete from t where 1 / (id - 2) = 0 -> ErrZero
		1: create table t (a int) -> ErrExists 1
		1: create table u (a int, a int) -> ErrExists 24
		1: create table u (a int check (b > 0)) -> ErrColumn 30
		1: create index i on nope (a) -> ErrTable 1
		1: create index i on t (z) -> ErrColumn 22
		1: drop table nope -> ErrTable 1
		1: drop index nope -> ErrTable 1
		1: select * from t -> id|a|b|c; 1|x|1|1; 2|y|2|2; 2 rows`)
}

// TestEngineChangesNothing: in a transaction a statement that fails changes nothing and leaves it.
func TestEngineChangesNothing(t *testing.T) {
	t.Parallel()
	wantScript(t, `
		open
		1: create table t (id int primary key, a int unique)
		1: create table w (k int)
		1: insert into t values (1, 1), (2, 2) -> 2 rows
		1: begin
		1: insert into t values (3, 3) -> 1 rows
		1: insert into t values (4, 4), (5, 3) -> ErrUnique
		1: update t set id = id + 1, a = 9 -> ErrUnique
		1: update t set a = a / (id - 2) -> ErrZero
		1: delete from t where a / (id - 3) > 0 -> ErrZero
		1: select ' -> ErrToken 8
		1: selec -> ErrSyntax 1
		1: select z from t -> ErrColumn 8
		1: select a / 0 from t -> ErrZero
		1: begin -> ErrState
		1: begin serializable -> ErrState
		1: create table u (a int) -> ErrState
		1: rollback to s -> ErrPoint
		1: release s -> ErrPoint
		1: select * from t -> id|a; 1|1; 2|2; 3|3; 3 rows
		2: select * from t -> id|a; 1|1; 2|2; 2 rows
		1: commit
		2: select * from t -> id|a; 1|1; 2|2; 3|3; 3 rows`)
}

// TestEngineInTransactions does each kind of statement in a transaction.
func TestEngineInTransactions(t *testing.T) {
	t.Parallel()
	wantScript(t, `
		open
		1: create table t (id int primary key, a int)
		1: create table w (k text)
		1: insert into t values (1, 1), (2, 2), (3, 3) -> 3 rows
		1: begin snapshot
		1: insert into w values ('m'), ('n') -> 2 rows
		1: insert into w select k from w -> 2 rows
		1: update t set a = a + 10 where id > 1 -> 2 rows
		1: delete from t where id = 1 -> 1 rows
		1: update t set id = 5 - id -> 2 rows
		1: select * from t -> id|a; 2|13; 3|12; 2 rows
		1: select k from w -> k; m; n; m; n; 4 rows
		1: explain select * from w -> project where #0 (est 4 cost 8);   scan table 2 (est 4 cost 4)
		2: explain select * from w -> project where #0 (est 1 cost 2);   scan table 2 (est 1 cost 1)
		2: select * from t -> id|a; 1|1; 2|2; 3|3; 3 rows
		1: checkpoint
		2: checkpoint
		1: commit
		2: select * from t -> id|a; 2|13; 3|12; 2 rows
		2: select k from w -> k; m; n; m; n; 4 rows
		crash
		open
		2: select * from t -> id|a; 2|13; 3|12; 2 rows
		2: select k from w -> k; m; n; m; n; 4 rows`)
}

// TestEngineSnapshots: a transaction sees what was committed when it began.
func TestEngineSnapshots(t *testing.T) {
	t.Parallel()
	for _, mode := range []string{"begin", "begin snapshot", "begin serializable"} {
		wantScript(t, strings.ReplaceAll(`
			open
			1: create table t (id int primary key, a int)
			1: insert into t values (1, 1), (2, 2) -> 2 rows
			1: MODE
			2: update t set a = 7 where id = 1 -> 1 rows
			2: insert into t values (3, 3) -> 1 rows
			2: delete from t where id = 2 -> 1 rows
			1: select * from t -> id|a; 1|1; 2|2; 2 rows
			1: select count(*) from t -> column1; 2; 1 rows
			1: select * from t -> id|a; 1|1; 2|2; 2 rows
			3: MODE
			3: select * from t -> id|a; 1|7; 3|3; 2 rows
			1: commit
			1: select * from t -> id|a; 1|7; 3|3; 2 rows
			3: select * from t -> id|a; 1|7; 3|3; 2 rows
			3: commit`, "MODE", mode))
	}
}

func TestEngineSavepoints(t *testing.T) {
	t.Parallel()
	wantScript(t, `
		open
		1: create table t (id int primary key, a int)
		1: begin
		1: insert into t values (1, 1) -> 1 rows
		1: savepoint p
		1: update t set a = 2 -> 1 rows
		1: savepoint q
		1: delete from t -> 1 rows
		1: savepoint p
		1: insert into t values (7, 7) -> 1 rows
		1: rollback to p
		1: select * from t -> id|a; 0 rows
		1: rollback to q
		1: select * from t -> id|a; 1|2; 1 rows
		1: rollback to q
		1: release q
		1: rollback to q -> ErrPoint
		1: rollback to p
		1: select * from t -> id|a; 1|1; 1 rows
		1: savepoint "P"
		1: rollback to "P"
		1: release P
		1: release p -> ErrPoint
		1: savepoint a
		1: savepoint a
		1: savepoint a
		1: savepoint a
		1: savepoint a
		1: savepoint a
		1: savepoint a
		1: savepoint a
		1: savepoint a -> ErrBig
		1: release a
		1: savepoint b
		1: savepoint b -> ErrBig
		1: commit
		1: rollback to a -> ErrState
		2: select * from t -> id|a; 1|1; 1 rows
		1: begin
		1: rollback to a -> ErrPoint
		1: delete from t -> 1 rows
		1: rollback
		1: select * from t -> id|a; 1|1; 1 rows`)
}

// TestEngineDefinitionsBeside asks for ErrState and ErrBusy ahead of what is wrong with the definition.
func TestEngineDefinitionsBeside(t *testing.T) {
	t.Parallel()
	for _, text := range []string{"create table u (a int)", "create table t (a int)", "create index i on t (a)", "create unique index i on nope (a)", "drop table t", "drop table nope", "drop index k", "drop index nope"} {
		for _, mode := range []string{"begin", "begin serializable"} {
			wantScript(t, strings.NewReplacer("TEXT", text, "MODE", mode).Replace(`
				open
				1: create table t (a int)
				1: create index k on t (a)
				3: MODE
				3: TEXT -> ErrState
				1: TEXT -> ErrBusy
				1: MODE
				1: TEXT -> ErrState
				3: rollback
				3: TEXT -> ErrBusy
				1: commit
				1: explain select a from t where a = 1 -> project where #0 (est 1 cost 3);   filter where (#0 = 1) (est 1 cost 2);     scan table 1 (est 1 cost 1)`))
		}
	}
	wantScript(t, `
		open
		1: begin
		1: create table -> ErrSyntax 13
		2: create table -> ErrSyntax 13
		crash
		open
		2: create table t (a int)
		2: begin
		2: commit
		1: drop table t`)
}

// TestEngineNumbers: tables and indexes get numbers that nobody has had, until the engine is opened.
func TestEngineNumbers(t *testing.T) {
	t.Parallel()
	wantScript(t, `
		open
		1: create table a (x int)
		1: create table b (x int)
		1: create index i on b (x)
		1: drop table b
		1: create table c (x int)
		1: explain select x from c -> project where #0 (est 1 cost 2);   scan table 4 (est 1 cost 1)
		1: drop table c
		1: create table d (x int)
		1: explain select x from d -> project where #0 (est 1 cost 2);   scan table 5 (est 1 cost 1)
		1: drop table d
		crash
		open
		1: create table e (x int)
		1: explain select x from e -> project where #0 (est 1 cost 2);   scan table 2 (est 1 cost 1)
		1: create index i on a (x)
		1: drop table e
		crash
		open
		1: create table f (x int)
		1: explain select x from f -> project where #0 (est 1 cost 2);   scan table 4 (est 1 cost 1)
		1: drop table f
		1: drop table a
		crash
		open
		1: create table g (x int)
		1: explain select x from g -> project where #0 (est 1 cost 2);   scan table 1 (est 1 cost 1)`)
}

// TestEngineDrops: a table goes with its rows and indexes, and another one of its name has none of them.
func TestEngineDrops(t *testing.T) {
	t.Parallel()
	wantScript(t, `
		open
		1: create table a (x int primary key)
		1: create table b (x int, y int)
		1: create table c (x int unique)
		1: create unique index i on b (x)
		1: create index j on c (x)
		1: create index k on b (y)
		1: insert into a values (1) -> 1 rows
		1: insert into b values (1, 1), (2, 2) -> 2 rows
		1: insert into c values (1), (null), (null) -> 3 rows
		1: drop table b
		1: insert into c values (1) -> ErrUnique
		1: select * from c -> x; 1; NULL; NULL; 3 rows
		1: create table b (x int, y int)
		1: insert into b values (1, 1), (1, 1) -> 2 rows
		1: drop index i -> ErrTable 1
		1: drop index k -> ErrTable 1
		1: create index i on b (x)
		1: select * from a -> x; 1; 1 rows
		crash
		open
		1: select * from a -> x; 1; 1 rows
		1: select * from b -> x|y; 1|1; 1|1; 2 rows
		1: select * from c -> x; 1; NULL; NULL; 3 rows
		1: insert into c values (1) -> ErrUnique
		1: drop table a
		1: drop index j
		1: select * from b -> x|y; 1|1; 1|1; 2 rows
		1: update c set x = 5 where x = 1 -> 1 rows
		1: select * from c -> x; 5; NULL; NULL; 3 rows
		2: begin serializable
		3: begin serializable
		2: select * from b -> x|y; 1|1; 1|1; 2 rows
		3: select * from c -> x; 5; NULL; NULL; 3 rows
		2: update c set x = 6 where x = 5 -> 1 rows
		3: insert into b values (2, 2) -> 1 rows
		2: commit
		3: commit -> ErrDanger
		crash
		open
		1: select x from a -> ErrTable 15
		1: select * from c -> x; 6; NULL; NULL; 3 rows`)
}

func TestEngineUniqueIndexOverRows(t *testing.T) {
	t.Parallel()
	wantScript(t, `
		open
		1: create table t (a int, b int)
		1: insert into t values (1, 1), (1, 2), (null, 3), (null, 3) -> 4 rows
		1: create unique index i on t (a) -> ErrUnique
		1: create index i on t (a)
		1: create unique index j on t (a, b)
		1: create unique index j on t (a) -> ErrExists 1
		1: insert into t values (1, 2) -> ErrUnique
		1: insert into t values (null, 3), (1, null), (1, null) -> 3 rows
		1: drop index j
		1: insert into t values (1, 2) -> 1 rows
		1: create unique index j on t (b, a) -> ErrUnique
		1: delete from t where b = 2 -> 2 rows
		1: create unique index j on t (b, a)
		1: update t set b = 1 -> ErrUnique
		crash
		open
		1: insert into t values (1, 1) -> ErrUnique
		1: insert into t values (2, 1) -> 1 rows`)
}

// TestEngineAgain asks that an answer does not hang on how often, or beside what, it is asked for.
func TestEngineAgain(t *testing.T) {
	t.Parallel()
	var met tally
	g := newInnGrower(4711, &met)
	g.sessions, g.machine = 4, 20
	ops, want := g.grownRun(150)
	text := impl.RunScript(scriptText(ops[:100]))
	atOnce(t, 16, func(t *testing.T, run int) {
		for range 3 {
			got, _ := impl.EngineRun(ops)
			if !slices.EqualFunc(got, want, sameEngineObs) || impl.RunScript(scriptText(ops[:100])) != text {
				t.Errorf("run %d is answered otherwise", run)
			}
		}
	})
}

// wantListsApart asks that no two lists share memory: what is written into one, or behind its end, is seen in no other.
func wantListsApart[T comparable](t *testing.T, lists [][]T, mark T) {
	t.Helper()
	want := cloned(lists)
	for i, list := range lists {
		_ = append(list, mark, mark)
		for k := range list {
			list[k] = mark
		}
		for k := i + 1; k < len(lists); k++ {
			if !slices.Equal(lists[k], want[k]) {
				t.Fatalf("list %d shares memory with list %d", k, i)
			}
		}
	}
}

// TestEngineInNewMemory writes into an answer, which nothing else may see.
func TestEngineInNewMemory(t *testing.T) {
	t.Parallel()
	ops := []impl.EngineOp{{Kind: impl.EOpen}, {Kind: impl.EArm, N: 500, Choices: []int{1, 2, 3}}}
	for _, text := range []string{
		"create table t (id int primary key, a int, b text)", "insert into t values (1, 1, 'x'), (2, 2, 'y'), (3, 3, 'z')", "select * from t", "select * from t",
		"select t.*, t.* from t", "select * from t union all select * from t", "begin", "select * from t order by id desc", "update t set a = a + 1", "select * from t", "commit", "select * from t",
	} {
		ops = append(ops, statementOp(1, text))
	}
	before := copiedEngineOps(ops)
	got, _ := impl.EngineRun(ops)
	want, _ := impl.EngineRun(ops)
	var rows [][]impl.Value
	var names [][]string
	for _, o := range got {
		rows, names = append(rows, o.Rows...), append(names, o.Names)
	}
	wantListsApart(t, rows, intv(-5))
	wantListsApart(t, names, "?")
	again, _ := impl.EngineRun(ops)
	if !slices.EqualFunc(again, want, sameEngineObs) || !slices.EqualFunc(ops, before, sameEngineOp) {
		t.Errorf("an answer is not new memory")
	}
}
