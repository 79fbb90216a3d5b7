package tests

import (
	"fmt"
	"math"
	"slices"
	"strings"
	"testing"

	"loop.example/g00001/impl"
)

// TestTxnKindsWithAndWithout asks each kind of a session that has a transaction, and of one that has none.
func TestTxnKindsWithAndWithout(t *testing.T) {
	wantTalk(t, `
		1 get 0 1 -> ErrState
		1 list 0 -> ErrState
		1 put 0 1 2 -> ErrState
		1 erase 0 1 -> ErrState
		1 commit -> ErrState
		1 rollback -> ErrState
		1 save a -> ErrState
		1 back a -> ErrState
		1 release a -> ErrState
		1 begin snapshot -> 0
		1 begin snapshot -> ErrState
		1 begin serial -> ErrState
		1 get 0 1 -> none
		1 list 0
		1 put 0 1 2
		1 erase 0 1
		1 save a
		1 back a
		1 release a
		1 rollback
		1 rollback -> ErrState
		1 begin serial -> 0
		1 commit -> 1
		1 commit -> ErrState`)
}

// TestTxnSessionsApart asks that one session's transaction is none of another one.
func TestTxnSessionsApart(t *testing.T) {
	for one := 1; one <= impl.MaxSessions; one++ {
		for other := 1; other <= impl.MaxSessions; other++ {
			if one != other {
				wantTalk(t, fmt.Sprintf("%[1]d begin snapshot -> 0; %[2]d get 0 1 -> ErrState; %[2]d begin serial -> 0; %[1]d rollback; %[2]d get 0 1 -> none; %[1]d get 0 1 -> ErrState", one, other))
			}
		}
	}
}

// beyond are numbers that are neither of the bounds nor between them.
func beyond(least, most int) []int {
	list := []int{least - 1, most + 1, -1, 100, math.MinInt, math.MinInt + 1, math.MaxInt}
	return slices.DeleteFunc(list, func(n int) bool { return n >= least && n <= most })
}

func beginOp(session, mode int) impl.TxnOp {
	return impl.TxnOp{Kind: impl.TBegin, Session: session, Mode: mode}
}

func TestTxnKindBounds(t *testing.T) {
	for _, kind := range beyond(impl.TBegin, impl.TRelease) {
		wrong := impl.TxnOp{Kind: kind, Session: 1, Mode: 1}
		wantTxnAnswers(t, []impl.TxnOp{wrong, beginOp(1, 1), wrong, {Kind: impl.TCommit, Session: 1}},
			[]impl.TxnObs{{Code: impl.ErrBad}, {}, {Code: impl.ErrBad}, {Stamp: 1}})
	}
}

func TestTxnSessionBounds(t *testing.T) {
	for _, session := range beyond(1, impl.MaxSessions) {
		for kind := impl.TBegin; kind <= impl.TRelease; kind++ {
			wantTxnAnswers(t, []impl.TxnOp{{Kind: kind, Session: session, Mode: 1}}, []impl.TxnObs{{Code: impl.ErrBad}})
		}
	}
	wantTalk(t, "4 begin snapshot -> 0; 1 begin snapshot -> 0; 4 commit -> 1; 1 commit -> 2; 5 commit -> ErrBad; 0 commit -> ErrBad")
}

func TestTxnModeBounds(t *testing.T) {
	for _, mode := range beyond(impl.ModeSnapshot, impl.ModeSerial) {
		wantTxnAnswers(t, []impl.TxnOp{beginOp(2, mode), {Kind: impl.TRollback, Session: 2}}, []impl.TxnObs{{Code: impl.ErrBad}, {Code: impl.ErrState}})
		wantTxnAnswers(t, []impl.TxnOp{beginOp(2, impl.ModeSerial), {Kind: impl.TCommit, Session: 2, Mode: mode}}, []impl.TxnObs{{}, {Stamp: 1}})
	}
}

// TestTxnTableBounds asks for ErrTable where a table is named, and there alone.
func TestTxnTableBounds(t *testing.T) {
	wantTalk(t, `
		1 begin snapshot -> 0
		1 put 0 5 1; 1 put 31 5 2; 1 put 32 5 3 -> ErrTable; 1 put -1 5 4 -> ErrTable
		1 get 0 5 -> 1; 1 get 31 5 -> 2; 1 get 32 5 -> ErrTable; 1 get -1 5 -> ErrTable
		1 list 0 -> 5:1; 1 list 31 -> 5:2; 1 list 32 -> ErrTable; 1 list -1 -> ErrTable
		1 erase 0 5; 1 erase 31 5; 1 erase 32 5 -> ErrTable; 1 erase -1 5 -> ErrTable`)
	for _, table := range beyond(0, impl.TxnTables-1) {
		for kind := impl.TBegin; kind <= impl.TRelease; kind++ {
			ops := []impl.TxnOp{beginOp(1, 1), {Kind: impl.TSave, Session: 1, Name: "a"}, {Kind: kind, Session: 1, Table: table, Name: "a"}}
			want := impl.TxnObs{}
			switch {
			case kind == impl.TBegin:
				want.Code = impl.ErrState
			case kind <= impl.TErase:
				want.Code = impl.ErrTable
			case kind == impl.TCommit:
				want.Stamp = 1
			}
			wantTxnAnswers(t, ops, []impl.TxnObs{{}, {}, want})
		}
		wantTxnAnswers(t, []impl.TxnOp{{Kind: impl.TBegin, Session: 1, Table: table, Mode: 1}}, []impl.TxnObs{{}})
	}
}

// TestTxnFirstCode asks which of several codes there is.
func TestTxnFirstCode(t *testing.T) {
	first := func(want int, ops ...impl.TxnOp) {
		t.Helper()
		got, code := impl.TxnRun(ops)
		if code != impl.OK || !sameTxnObs(got[len(got)-1], impl.TxnObs{Code: want}) {
			t.Errorf("%s: want %d", toldTalk(ops, got), want)
		}
	}
	first(impl.ErrBad, impl.TxnOp{Kind: impl.TGet, Session: 0, Table: 99})
	first(impl.ErrBad, impl.TxnOp{Kind: 11, Session: 1, Table: 99})
	first(impl.ErrState, impl.TxnOp{Kind: impl.TGet, Session: 1, Table: 99})
	first(impl.ErrState, beginOp(1, 1), beginOp(1, 7))
	first(impl.ErrBad, beginOp(1, 1), impl.TxnOp{Kind: impl.TBegin, Session: 5, Mode: 1})
	first(impl.ErrState, impl.TxnOp{Kind: impl.TBack, Session: 3, Name: "a"})
	// a conflict is looked for ahead of a danger
	wantTalk(t, `
		1 begin serial -> 0; 2 begin serial -> 0
		1 get 0 1 -> none; 2 get 1 1 -> none
		1 put 1 1 1; 2 put 0 1 2; 1 put 2 2 2; 2 put 2 2 3
		1 commit -> 1; 2 commit -> ErrConflict`)
}

func TestTxnStamps(t *testing.T) {
	wantTalk(t, `
		1 begin snapshot -> 0; 2 begin serial -> 0
		1 commit -> 1; 3 begin snapshot -> 1
		2 put 1 1 1; 2 commit -> 2
		3 rollback; 3 begin serial -> 2; 3 list 1 -> 1:1; 3 commit -> 3
		4 begin snapshot -> 3; 4 put 0 0 0; 4 rollback
		4 begin serial -> 3; 4 commit -> 4; 4 begin snapshot -> 4`)
	// what fails takes no number
	wantTalk(t, `
		1 begin snapshot -> 0; 2 begin snapshot -> 0
		1 put 0 1 1; 2 put 0 1 2
		1 commit -> 1; 2 commit -> ErrConflict; 2 begin snapshot -> 1; 2 commit -> 2`)
}

// TestTxnSnapshots asks that the commits of others leave a snapshot as it was.
func TestTxnSnapshots(t *testing.T) {
	wantTalk(t, `
		1 begin snapshot -> 0; 1 put 3 1 10; 1 put 3 2 20; 1 commit -> 1
		2 begin snapshot -> 1; 2 list 3 -> 1:10 2:20
		1 begin serial -> 1; 1 put 3 1 11; 1 erase 3 2; 1 put 3 3 30
		2 list 3 -> 1:10 2:20; 2 get 3 1 -> 10; 2 get 3 3 -> none
		3 begin serial -> 1; 3 list 3 -> 1:10 2:20
		1 commit -> 2
		2 list 3 -> 1:10 2:20; 2 get 3 1 -> 10; 2 get 3 2 -> 20; 2 get 3 3 -> none
		3 list 3 -> 1:10 2:20
		4 begin snapshot -> 2; 4 list 3 -> 1:11 3:30; 4 get 3 2 -> none
		1 begin snapshot -> 2; 1 put 3 2 22; 1 put 3 1 12; 1 commit -> 3
		2 list 3 -> 1:10 2:20; 4 list 3 -> 1:11 3:30; 4 get 3 1 -> 11
		2 rollback; 2 begin snapshot -> 3; 2 list 3 -> 1:12 2:22 3:30`)
}

// TestTxnOwnChanges asks that own changes are seen, and those of others are not.
func TestTxnOwnChanges(t *testing.T) {
	wantTalk(t, `
		1 begin snapshot -> 0; 1 put 0 5 7; 1 put 0 5 8; 1 get 0 5 -> 8; 1 list 0 -> 5:8
		2 begin snapshot -> 0; 2 get 0 5 -> none; 2 list 0; 2 put 0 6 1
		1 get 0 6 -> none; 1 erase 0 5; 1 get 0 5 -> none; 1 list 0; 1 put 0 5 0; 1 get 0 5 -> 0; 1 list 0 -> 5:0
		1 get 1 5 -> none; 1 list 1
		1 rollback; 1 begin snapshot -> 0; 1 get 0 5 -> none; 1 list 0; 2 commit -> 1; 1 list 0; 1 commit -> 2
		3 begin snapshot -> 2; 3 list 0 -> 6:1`)
}

func TestTxnErase(t *testing.T) {
	wantTalk(t, `
		1 begin snapshot -> 0; 1 put 0 1 1; 1 put 0 2 2; 1 put 1 1 3; 1 commit -> 1
		1 begin snapshot -> 1; 1 erase 0 1; 1 get 0 1 -> none; 1 list 0 -> 2:2; 1 get 1 1 -> 3; 1 commit -> 2
		2 begin snapshot -> 2; 2 get 0 1 -> none; 2 list 0 -> 2:2; 2 put 0 1 4; 2 get 0 1 -> 4; 2 list 0 -> 1:4 2:2; 2 commit -> 3
		3 begin snapshot -> 3; 3 list 0 -> 1:4 2:2`)
	// an erase of what isn't there is written: for first committers, and for Certify
	wantTalk(t, `
		1 begin snapshot -> 0; 2 begin snapshot -> 0
		1 erase 0 9; 2 put 0 9 1; 1 commit -> 1; 2 commit -> ErrConflict`)
	wantTalk(t, `
		1 begin serial -> 0; 2 begin serial -> 0
		1 get 0 1 -> none; 1 erase 1 9; 2 get 1 1 -> none; 2 erase 0 8
		1 commit -> 1; 2 commit -> ErrDanger`)
}

// TestTxnLists asks for rising keys, with own changes among those of the snapshot.
func TestTxnLists(t *testing.T) {
	wantTalk(t, `
		1 begin snapshot -> 0; 1 put 2 30 3; 1 put 2 -10 1; 1 put 2 50 5; 1 put 2 0 2
		1 list 2 -> -10:1 0:2 30:3 50:5; 1 commit -> 1
		2 begin snapshot -> 1; 2 put 2 40 4; 2 put 2 -20 0; 2 put 2 60 6; 2 put 2 30 33; 2 erase 2 0; 2 erase 2 7; 2 put 3 1 1
		2 list 2 -> -20:0 -10:1 30:33 40:4 50:5 60:6; 2 list 3 -> 1:1; 2 list 4
		2 put 2 0 9; 2 erase 2 -20; 2 erase 2 60; 2 list 2 -> -10:1 0:9 30:33 40:4 50:5; 2 commit -> 2
		3 begin snapshot -> 2; 3 list 2 -> -10:1 0:9 30:33 40:4 50:5`)
	var ops []impl.TxnOp
	for _, key := range []int{math.MaxInt, math.MinInt, 0, -1} {
		ops = append(ops, impl.TxnOp{Kind: impl.TPut, Session: 1, Key: key, Val: key})
	}
	ops = slices.Concat([]impl.TxnOp{beginOp(1, 1)}, ops, []impl.TxnOp{{Kind: impl.TList, Session: 1}})
	pairs := []impl.TxnPair{{Key: math.MinInt, Val: math.MinInt}, {Key: -1, Val: -1}, {}, {Key: math.MaxInt, Val: math.MaxInt}}
	wantTxnAnswers(t, ops, []impl.TxnObs{{}, {}, {}, {}, {}, {Pairs: pairs}})
}

// TestTxnFirstCommitter asks who wins where two write one key.
func TestTxnFirstCommitter(t *testing.T) {
	for _, modes := range []string{"snapshot snapshot", "snapshot serial", "serial snapshot", "serial serial"} {
		one, two, _ := strings.Cut(modes, " ")
		for _, changes := range [][2]string{{"put 4 5 1", "put 4 5 2"}, {"put 4 5 1", "put 4 5 1"}, {"put 4 5 1", "erase 4 5"}, {"erase 4 5", "put 4 5 2"}, {"erase 4 5", "erase 4 5"}} {
			text := fmt.Sprintf("1 begin %s -> 0; 2 begin %s -> 0; 1 %s; 2 %s;", one, two, changes[0], changes[1])
			wantTalk(t, text+"1 commit -> 1; 2 commit -> ErrConflict; 2 get 4 5 -> ErrState; 2 begin snapshot -> 1; 2 commit -> 2")
			wantTalk(t, text+"2 commit -> 1; 1 commit -> ErrConflict; 1 commit -> ErrState; 1 begin serial -> 1; 1 commit -> 2")
			// one that is rolled back has written nothing
			wantTalk(t, text+"1 rollback; 2 commit -> 1")
			// ahead of the snapshot
			wantTalk(t, fmt.Sprintf("1 begin %s -> 0; 1 %s; 1 commit -> 1; 2 begin %s -> 1; 2 %s; 2 commit -> 2", one, changes[0], two, changes[1]))
		}
	}
	// other keys, and the same key of another table
	wantTalk(t, "1 begin snapshot -> 0; 2 begin snapshot -> 0; 1 put 4 5 1; 2 put 4 6 2; 1 commit -> 1; 2 commit -> 2; 3 begin snapshot -> 2; 3 list 4 -> 5:1 6:2")
	wantTalk(t, "1 begin snapshot -> 0; 2 begin snapshot -> 0; 1 put 4 5 1; 2 put 5 5 2; 1 commit -> 1; 2 commit -> 2; 3 begin snapshot -> 2; 3 list 4 -> 5:1; 3 list 5 -> 5:2")
	// one key of many, behind the snapshot though other commits are ahead of it and behind
	wantTalk(t, `
		1 begin snapshot -> 0; 1 put 0 1 1; 1 put 0 2 1; 1 commit -> 1
		2 begin snapshot -> 1; 3 begin snapshot -> 1; 3 put 0 2 2; 3 commit -> 2
		3 begin snapshot -> 2; 3 put 0 3 3; 3 commit -> 3
		2 put 0 1 2; 2 put 0 4 4; 2 put 0 2 5; 2 commit -> ErrConflict
		2 begin snapshot -> 3; 2 list 0 -> 1:1 2:2 3:3`)
	// one that has read alone meets no one
	wantTalk(t, "1 begin snapshot -> 0; 2 begin snapshot -> 0; 1 put 4 5 1; 2 get 4 5 -> none; 1 commit -> 1; 2 commit -> 2")
}

func TestTxnGoneBehindFailure(t *testing.T) {
	wantTalk(t, `
		1 begin snapshot -> 0; 2 begin snapshot -> 0; 1 put 0 1 1; 2 save a; 2 put 0 1 2; 2 put 0 7 7; 1 commit -> 1
		2 commit -> ErrConflict
		2 get 0 7 -> ErrState; 2 back a -> ErrState; 2 rollback -> ErrState
		2 begin snapshot -> 1; 2 list 0 -> 1:1; 2 back a -> ErrPoint; 2 put 0 1 3; 2 commit -> 2`)
	wantTalk(t, `
		1 begin serial -> 0; 2 begin serial -> 0; 1 get 0 1 -> none; 2 get 1 1 -> none; 1 put 1 1 1; 2 put 0 1 2
		1 commit -> 1; 2 commit -> ErrDanger; 2 commit -> ErrState
		2 begin serial -> 1; 2 list 0; 2 list 1 -> 1:1; 2 put 0 1 2; 2 commit -> 2`)
}

func TestTxnMaxSaves(t *testing.T) {
	full := "1 begin snapshot -> 0;" + strings.Repeat("1 save a; 1 put 0 1 1;", impl.MaxSaves)
	wantTalk(t, full+"1 save a -> ErrBig; 1 save b -> ErrBig; 1 get 0 1 -> 1")
	wantTalk(t, full+"1 release a; 1 save b; 1 save c -> ErrBig")
	wantTalk(t, full+"1 back a; 1 save b -> ErrBig; 1 list 0 -> 1:1; 1 commit -> 1")
	wantTalk(t, full+"1 rollback; 1 begin serial -> 0; 1 save a; 1 back a")
	wantTalk(t, full+"1 commit -> 1;"+strings.Replace(full, "-> 0", "-> 1", 1)+"1 save a -> ErrBig")
	// going back to one is no savepoint more
	wantTalk(t, "1 begin snapshot -> 0; 1 save a;"+strings.Repeat("1 back a;", impl.MaxSaves)+"1 save b")
	// the bound is of each transaction
	wantTalk(t, full+"2 begin snapshot -> 0; 2 save a; 2 save a")
}

func TestTxnBack(t *testing.T) {
	// several of one name: the newest, and the older one behind its release
	wantTalk(t, `
		1 begin snapshot -> 0; 1 put 0 1 1; 1 save a; 1 put 0 1 2; 1 save a; 1 put 0 1 3
		1 back a; 1 get 0 1 -> 2; 1 release a; 1 get 0 1 -> 2; 1 back a; 1 get 0 1 -> 1; 1 release a; 1 back a -> ErrPoint; 1 get 0 1 -> 1`)
	// twice to the same one
	wantTalk(t, `
		1 begin snapshot -> 0; 1 put 0 1 1; 1 save a; 1 put 0 1 2; 1 put 0 2 2; 1 back a; 1 list 0 -> 1:1
		1 put 0 3 3; 1 erase 0 1; 1 list 0 -> 3:3; 1 back a; 1 list 0 -> 1:1; 1 back a; 1 list 0 -> 1:1; 1 commit -> 1
		2 begin snapshot -> 1; 2 list 0 -> 1:1`)
	// the savepoints behind it go, those ahead stay
	wantTalk(t, `
		1 begin snapshot -> 0; 1 save a; 1 put 0 1 1; 1 save b; 1 put 0 2 2; 1 save c; 1 put 0 3 3
		1 back b; 1 back c -> ErrPoint; 1 release c -> ErrPoint; 1 list 0 -> 1:1; 1 back b; 1 back a; 1 list 0; 1 back b -> ErrPoint; 1 back a`)
	// between two of one name another one is
	wantTalk(t, `
		1 begin snapshot -> 0; 1 save a; 1 put 0 1 1; 1 save b; 1 put 0 2 2; 1 save a; 1 put 0 3 3
		1 back b; 1 list 0 -> 1:1; 1 back a; 1 list 0; 1 back b -> ErrPoint`)
	// what was erased, and what was there ahead of the transaction
	wantTalk(t, `
		1 begin snapshot -> 0; 1 put 0 1 1; 1 put 0 2 2; 1 commit -> 1
		1 begin snapshot -> 1; 1 erase 0 1; 1 save a; 1 put 0 1 9; 1 erase 0 2; 1 list 0 -> 1:9; 1 back a; 1 list 0 -> 2:2; 1 get 0 1 -> none; 1 get 0 2 -> 2
		1 commit -> 2; 2 begin snapshot -> 2; 2 list 0 -> 2:2`)
}

// TestTxnBackForgetsWrites asks that behind TBack what was written is forgotten: it meets no other one, and Certify is not told.
func TestTxnBackForgetsWrites(t *testing.T) {
	wantTalk(t, "1 begin snapshot -> 0; 2 begin snapshot -> 0; 1 put 0 1 1; 2 save a; 2 put 0 1 2; 2 back a; 1 commit -> 1; 2 commit -> 2; 3 begin snapshot -> 2; 3 list 0 -> 1:1")
	wantTalk(t, "1 begin snapshot -> 0; 2 begin snapshot -> 0; 2 put 0 1 2; 1 save a; 1 put 0 1 1; 1 back a; 1 commit -> 1; 2 commit -> 2; 3 begin snapshot -> 2; 3 list 0 -> 1:2")
	// what was written ahead of the savepoint is not
	wantTalk(t, "1 begin snapshot -> 0; 2 begin snapshot -> 0; 1 put 0 1 1; 2 erase 0 1; 2 save a; 2 put 0 2 2; 2 back a; 1 commit -> 1; 2 commit -> ErrConflict")
	wantTalk(t, "1 begin snapshot -> 0; 2 begin snapshot -> 0; 1 put 0 1 1; 2 save a; 2 put 0 1 2; 2 release a; 1 commit -> 1; 2 commit -> ErrConflict")
	wantTalk(t, `
		1 begin serial -> 0; 2 begin serial -> 0; 1 get 0 1 -> none; 2 get 1 1 -> none; 1 put 1 1 1
		2 save a; 2 put 0 1 2; 2 back a; 1 commit -> 1; 2 commit -> 2`)
}

// TestTxnBackKeepsReads asks that what is read stays read.
func TestTxnBackKeepsReads(t *testing.T) {
	for _, look := range []string{"get 1 1 -> none", "list 1"} {
		wantTalk(t, fmt.Sprintf(`
			1 begin serial -> 0; 2 begin serial -> 0; 1 get 0 1 -> none; 1 put 1 1 1
			2 save a; 2 %s; 2 back a; 2 put 0 1 2; 1 commit -> 1; 2 commit -> ErrDanger`, look))
		wantTalk(t, fmt.Sprintf(`
			1 begin serial -> 0; 2 begin serial -> 0; 1 get 0 1 -> none; 1 put 1 1 1
			2 save a; 2 %s; 2 release a; 2 put 0 1 2; 1 commit -> 1; 2 commit -> ErrDanger`, look))
	}
	// also what is read as its own, though that is forgotten
	wantTalk(t, `
		1 begin serial -> 0; 2 begin serial -> 0; 1 get 0 1 -> none; 1 put 1 1 1
		2 save a; 2 put 1 9 9; 2 get 1 9 -> 9; 2 back a; 2 put 0 1 2; 1 commit -> 1; 2 commit -> ErrDanger`)
}

func TestTxnRelease(t *testing.T) {
	wantTalk(t, `
		1 begin snapshot -> 0; 1 save a; 1 put 0 1 1; 1 save b; 1 put 0 2 2; 1 save c; 1 put 0 3 3; 1 save d
		1 release b; 1 list 0 -> 1:1 2:2 3:3; 1 back b -> ErrPoint; 1 back c -> ErrPoint; 1 release d -> ErrPoint; 1 list 0 -> 1:1 2:2 3:3
		1 back a; 1 list 0; 1 release a; 1 release a -> ErrPoint`)
	wantTalk(t, `
		1 begin snapshot -> 0; 1 save a; 1 put 0 1 1; 1 save b; 1 put 0 2 2; 1 save a; 1 put 0 3 3; 1 release a; 1 back b; 1 list 0 -> 1:1; 1 release a; 1 back b -> ErrPoint; 1 commit -> 1`)
}

// TestTxnNames asks for savepoints that there aren't: of other names, of others' and of transactions that are gone.
func TestTxnNames(t *testing.T) {
	wantTalk(t, `
		1 begin snapshot -> 0; 2 begin snapshot -> 0; 1 back a -> ErrPoint; 1 release a -> ErrPoint; 2 save a; 1 back a -> ErrPoint; 1 release a -> ErrPoint
		1 save b; 1 back a -> ErrPoint; 1 back B -> ErrPoint; 1 back b; 1 rollback; 1 begin snapshot -> 0; 1 back b -> ErrPoint; 1 save b; 1 commit -> 1; 1 begin serial -> 1; 1 release b -> ErrPoint`)
	for _, name := range []string{"", " ", "a b", "\xff", strings.Repeat("n", 5000)} {
		named := func(kind int, name string) impl.TxnOp { return impl.TxnOp{Kind: kind, Session: 1, Name: name} }
		wantTxnAnswers(t, []impl.TxnOp{beginOp(1, 1), named(impl.TBack, name), named(impl.TSave, name), named(impl.TBack, name), named(impl.TBack, name+"x"), named(impl.TRelease, name), named(impl.TRelease, name)},
			[]impl.TxnObs{{}, {Code: impl.ErrPoint}, {}, {}, {Code: impl.ErrPoint}, {}, {Code: impl.ErrPoint}})
	}
}

// TestTxnModesSideBySide asks that only ModeSerial ones are in the history, whatever stands beside them.
func TestTxnModesSideBySide(t *testing.T) {
	skew := func(one, two, answer string) {
		t.Helper()
		wantTalk(t, fmt.Sprintf(`
			1 begin %s -> 0; 2 begin %s -> 0; 1 get 0 1 -> none; 2 get 1 1 -> none; 1 put 1 1 1; 2 put 0 1 2
			1 commit -> 1; 2 commit -> %s`, one, two, answer))
	}
	skew("snapshot", "snapshot", "2")
	skew("snapshot", "serial", "2")
	skew("serial", "snapshot", "2")
	skew("serial", "serial", "ErrDanger")
	// the one between is a snapshot: no danger; its number counts all the same
	between := func(mode, answer string) {
		t.Helper()
		wantTalk(t, fmt.Sprintf(`
			1 begin serial -> 0; 2 begin %s -> 0; 3 begin serial -> 0
			1 list 0; 2 put 0 1 1; 2 list 1; 3 put 1 1 1
			2 commit -> 1; 3 commit -> 2; 1 commit -> %s`, mode, answer))
	}
	between("serial", "ErrDanger")
	between("snapshot", "3")
	// first committers count in every mode
	wantTalk(t, "1 begin serial -> 0; 2 begin snapshot -> 0; 1 put 0 1 1; 2 put 0 1 2; 2 commit -> 1; 1 commit -> ErrConflict")
}

// TestTxnDanger asks what Certify answers within a commit: of the one that commits last, be it between or at an end.
func TestTxnDanger(t *testing.T) {
	chain := "1 begin serial -> 0; 2 begin serial -> 0; 3 begin serial -> 0; 1 get 0 5 -> none; 2 put 0 1 1; 2 get 1 5 -> none; 3 put 1 1 1;"
	for _, order := range [][3]int{{1, 2, 3}, {1, 3, 2}, {2, 1, 3}, {2, 3, 1}, {3, 1, 2}, {3, 2, 1}} {
		wantTalk(t, fmt.Sprintf("%s %d commit -> 1; %d commit -> 2; %d commit -> ErrDanger; 4 begin serial -> 2; 4 commit -> 3", chain, order[0], order[1], order[2]))
	}
	// with a snapshot that is behind the first commit there is nothing between
	wantTalk(t, `
		1 begin serial -> 0; 2 begin serial -> 0; 1 get 0 5 -> none; 2 put 0 1 1; 2 get 1 5 -> none; 2 commit -> 1
		3 begin serial -> 1; 3 put 1 1 1; 3 commit -> 2; 1 commit -> 3`)
	// one that reads what it writes leads to itself at most, which counts for nothing
	wantTalk(t, "1 begin serial -> 0; 1 get 0 1 -> none; 1 put 0 1 1; 1 commit -> 1; 1 begin serial -> 1; 1 list 0 -> 1:1; 1 put 0 1 2; 1 commit -> 2")
	// a table is read where nothing was found, where an own change was, and not where there is none
	wantTalk(t, `
		1 begin serial -> 0; 2 begin serial -> 0; 1 put 1 1 1; 1 get 0 1 -> none; 2 put 1 7 7; 2 get 1 7 -> 7; 2 put 0 2 2
		1 commit -> 1; 2 commit -> ErrDanger`)
	wantTalk(t, `
		1 begin serial -> 0; 2 begin serial -> 0; 1 put 1 1 1; 1 get 0 1 -> none; 2 get 33 1 -> ErrTable; 2 list -1 -> ErrTable; 2 put 0 2 2
		1 commit -> 1; 2 commit -> 2`)
	// what one has read that was rolled back, or has failed, is no one's
	wantTalk(t, `
		1 begin serial -> 0; 2 begin serial -> 0; 3 begin serial -> 0; 2 get 1 1 -> none; 2 put 0 2 2; 2 rollback
		1 put 1 1 1; 1 get 0 1 -> none; 3 get 1 1 -> none; 1 commit -> 1; 3 commit -> 2`)
	// tables of both ends
	wantTalk(t, `
		1 begin serial -> 0; 2 begin serial -> 0; 1 get 31 1 -> none; 2 get 0 1 -> none; 1 put 0 1 1; 2 put 31 1 2
		1 commit -> 1; 2 commit -> ErrDanger`)
}

// TestTxnMaxOps has as many operations as may be, and one more.
func TestTxnMaxOps(t *testing.T) {
	ops := []impl.TxnOp{beginOp(1, 2)}
	want := []impl.TxnObs{{}}
	for len(ops) < impl.MaxTxnOps {
		ops = append(ops, impl.TxnOp{Kind: impl.TGet, Session: 1})
		want = append(want, impl.TxnObs{})
	}
	wantTxnAnswers(t, ops, want)
	wantTxnAnswers(t, nil, nil)
	for _, more := range []int{1, 2, 5000} {
		answers, code := impl.TxnRun(append(slices.Clone(ops), make([]impl.TxnOp, more)...))
		if code != impl.ErrBig || len(answers) != 0 {
			t.Errorf("%d more: %d, %d answers", more, code, len(answers))
		}
	}
	// operations that are refused count as well
	if answers, code := impl.TxnRun(make([]impl.TxnOp, impl.MaxTxnOps)); code != impl.OK || len(answers) != impl.MaxTxnOps {
		t.Errorf("wrong operations: %d, %d answers", code, len(answers))
	}
}

// TestTxnManyCommits has as many transactions as a run lets be, all in one history.
func TestTxnManyCommits(t *testing.T) {
	var ops []impl.TxnOp
	var want []impl.TxnObs
	for i := range impl.MaxTxnOps / 2 {
		ops = append(ops, beginOp(1+i%4, impl.ModeSerial), impl.TxnOp{Kind: impl.TCommit, Session: 1 + i%4})
		want = append(want, impl.TxnObs{Stamp: i}, impl.TxnObs{Stamp: i + 1})
	}
	wantTxnAnswers(t, ops, want)
}

// TestTxnAnswersApart asks that no two lists of an answer share memory.
func TestTxnAnswersApart(t *testing.T) {
	ops, want := talk("1 begin snapshot -> 0; 1 put 0 1 1; 1 put 0 2 2; 1 list 0 -> 1:1 2:2; 1 list 0 -> 1:1 2:2; 1 commit -> 1; 2 begin snapshot -> 1; 2 list 0 -> 1:1 2:2; 2 list 0 -> 1:1 2:2")
	got, _ := impl.TxnRun(ops)
	for i := range got {
		if !sameTxnObs(got[i], want[i]) {
			t.Errorf("answer %d is changed: %+v", i, got[i])
		}
		_ = append(got[i].Pairs, impl.TxnPair{Key: -1, Val: -1})
		for k := range got[i].Pairs {
			got[i].Pairs[k] = impl.TxnPair{Key: -7, Val: -7}
		}
	}
	wantTxnAnswers(t, ops, want)
}
