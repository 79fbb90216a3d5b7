package tests

import (
	"fmt"
	"slices"
	"strings"
	"testing"

	"loop.example/g00001/impl"
)

// stepsOf tells the steps that the last operation of a script does, in their order: P is a page's block, L one of the log, M a
// master, S a sync. Each is found by a crash right ahead of it and one right behind it, with all that is pending done.
func stepsOf(t *testing.T, text string) string {
	t.Helper()
	ops := script(text)
	ahead, last := ops[:len(ops)-1], ops[len(ops)-1]
	var words []string
	var before impl.StoreOut
	for n := 0; ; n++ {
		arm := impl.StoreOp{Kind: impl.SArm, N: n, Choices: ofChoices(8, impl.MaxBlocks)}
		out := impl.StoreRun(append(slices.Clone(ahead), arm, last))
		if n > 0 {
			words = append(words, stepBetween(before, out))
		}
		if obs := out.Obs[len(out.Obs)-1]; obs.Code != impl.ErrDown {
			return inRuns(words)
		}
		before = out
	}
}

func stepBetween(before, behind impl.StoreOut) string {
	a, b := before.Obs[len(before.Obs)-1], behind.Obs[len(behind.Obs)-1]
	if b.Syncs > a.Syncs {
		return "S"
	}
	from, _ := readShelf(before.Disk)
	to, _ := readShelf(behind.Disk)
	for block := range impl.MaxBlocks {
		if from.at(block) == to.at(block) {
			continue
		}
		switch {
		case block >= impl.LogBlock:
			return fmt.Sprint("L", block-impl.LogBlock)
		case block >= impl.PageBlock:
			return fmt.Sprint("P", block-impl.PageBlock)
		}
		return fmt.Sprint("M", block)
	}
	return "?"
}

// inRuns puts rising blocks together: L0 L1 L2 is L0-2.
func inRuns(words []string) string {
	var runs []string
	for i := 0; i < len(words); i++ {
		from := i
		for i+1 < len(words) && isNextTo(words[i], words[i+1]) {
			i++
		}
		if i > from {
			runs = append(runs, words[from]+"-"+words[i][1:])
		} else {
			runs = append(runs, words[i])
		}
	}
	return strings.Join(runs, " ")
}

func isNextTo(a, b string) bool {
	var i, k int
	_, errA := fmt.Sscanf(a[1:], "%d", &i)
	_, errB := fmt.Sscanf(b[1:], "%d", &k)
	return errA == nil && errB == nil && a[0] == b[0] && k == i+1
}

func wantSteps(t *testing.T, text, want string) {
	t.Helper()
	if got := stepsOf(t, text); got != want {
		t.Errorf("%s\n%s, want %s", text, got, want)
	}
}

func TestStepsOfAnOpening(t *testing.T) {
	wantSteps(t, "open", "P0-1 S M1 S")
	wantSteps(t, "open; crash; open", "M0 S")
	wantSteps(t, "open; crash; open; crash; open", "M1 S")
	wantSteps(t, "open; put a =1; commit; crash; open", "P1 S M0 S")
	wantSteps(t, "open; put a =1; check; crash; open", "M1 S")
	wantSteps(t, "open; put a =1; commit; check; crash; open", "M1 S")
	// Pages 0 and 1 were written when they were thrown out, and synced by what was written behind them.
	wantSteps(t, "open; put a 4000; commit; crash; open", "P2-9 S M0 S")
	wantSteps(t, "open; put a 3000; commit; crash 8 8 8 8; open", "P0-7 S M0 S")
	// The first opening, that was cut off: of one page there is nothing to be written.
	wantSteps(t, "arm 2 8 0; open; open", "P1 S M1 S")
	wantSteps(t, "arm 2 0 8; open; open", "P0 S M1 S")
	wantSteps(t, "arm 2 8 8; open; open", "M1 S")
	wantSteps(t, "arm 4 8; open; open", "M0 S")
	wantSteps(t, "arm 4 7; open; open", "M1 S")
	// What was done of a commit that was not acknowledged is undone.
	wantSteps(t, "open; put a 4000; arm 29 8; commit; open", "M0 S")
	wantSteps(t, "open; put a 4000; arm 30 8; commit; open", "P0 S M0 S")
	wantSteps(t, "open; put a 4000; arm 30 0; commit; open", "M0 S")
	wantSteps(t, "open; put a 4000; arm 36 8; commit; open", "P0-1 S M0 S")
	// The commit is found or not, page 1 is done or not.
	wantSteps(t, "open; put a 4000; arm 37 8 8; commit; open", "P2-9 S M0 S")
	wantSteps(t, "open; put a 4000; arm 37 0 8; commit; open", "P1-9 S M0 S")
	wantSteps(t, "open; put a 4000; arm 37 8 7; commit; open", "P0-1 S M0 S")
	wantSteps(t, "open; put a 4000; arm 37; commit; open", "P0 S M0 S")
}

func TestStepsOfACommit(t *testing.T) {
	wantSteps(t, "open; commit", "")
	wantSteps(t, "open; put a =1; commit", "L0-3 S")
	wantSteps(t, "open; put a =1; commit; put a =2; commit", "L4-6 S")
	wantSteps(t, "open; put a =1; commit; put a =1; commit", "L4 S")
	wantSteps(t, "open; drop a; commit", "L0 S")
	wantSteps(t, "open; put a =1; drop a; commit", "L0-5 S")
	wantSteps(t, "open; put a =1; abort; commit", "")
	wantSteps(t, "open; put a =1; commit; check; put a =2; commit", "L0-3 S")
	// Eight pages are in the pool when page 8 is new: page 0 goes, then page 1, each behind what is held.
	wantSteps(t, "open; put a 3000; commit", "L0-24 S")
	wantSteps(t, "open; put a 3500; commit", "L0-27 S P0 L28 S")
	wantSteps(t, "open; put a 4000; commit", "L0-27 S P0 L28-31 S P1 L32 S")
	wantSteps(t, "open; put a 4000; commit; get a; put b =1; commit", "L33-35 S")
	wantSteps(t, "open; put a 4000; commit; put b =1; commit", "P2-3 L33-35 S")
}

func TestStepsOfReads(t *testing.T) {
	wantSteps(t, "open; get a", "")
	wantSteps(t, "open; scan", "")
	wantSteps(t, "open; put a 3000; commit; scan", "")
	wantSteps(t, "open; put a 4000; commit; get a", "P2-9")
	wantSteps(t, "open; put a 4000; commit; scan", "P2-9")
	wantSteps(t, "open; put a 4000; commit; scan; scan", "")
	wantSteps(t, "open; put a 4000; commit; check; scan", "")
	wantSteps(t, "open; put a 4000; commit; get b", "P2-3")
}

func TestStepsOfACheckpoint(t *testing.T) {
	wantSteps(t, "open; check", "S M0 S")
	wantSteps(t, "open; check; check", "S M1 S")
	wantSteps(t, "open; put a =1; check", "S M0 S")
	wantSteps(t, "open; put a =1; commit; check", "P1 S M0 S")
	wantSteps(t, "open; put a =1; commit; check; check", "S M1 S")
	wantSteps(t, "open; put a 3000; commit; check", "P0-7 S M0 S")
	wantSteps(t, "open; put a 4000; commit; check", "P2-9 S M0 S")
	wantSteps(t, "open; put a 4000; commit; get b; check", "P4-9 S M0 S")
}

// TestWhatIsThrownOutAsItIsThen has a page thrown out within a commit: it has what the changes ahead have made of it.
func TestWhatIsThrownOutAsItIsThen(t *testing.T) {
	first, _ := wantedPut(impl.KvNew(), "a", valueOf("a", 4000))
	out := ran(t, "open; put a 4000; put b 70; put b 71; arm 30 8; commit")
	if got := out.Disk.Blocks[impl.PageBlock]; !slices.Equal(got, first.Pages[0]) {
		t.Errorf("page 0 is not as it is behind the first change: %v", got)
	}
}

// crashedAt are the scripts in which each step is armed to crash or to fail.
func crashedAt() []string {
	return []string{
		"open; put a =1; commit; crash; open; scan",
		"open; put a 4000; commit; put a 70; put b 3000; commit; get a; check; drop a; commit; crash 8 8; open; scan",
		"open; put a =1; put b =2; commit; check; put a =3; drop b; commit; check; put c 600; commit; scan",
		"open; put a 4000; put b 4000; commit; scan; put c 4000; put d 4000; commit; put e 4000; commit; scan; drop a; drop c; commit; scan; check; scan",
		"open; put a 4000; put b 4000; put c 4000; commit; put d 4000; put e 4000; commit; put a =1; commit; crash 8 0 8 0 8; open; drop e; commit; scan",
	}
}

// TestEachStep arms each step of some scripts, to crash with many choices and to fail; behind that the store is opened again.
func TestEachStep(t *testing.T) {
	t.Parallel()
	var met tally
	t.Run("all", func(t *testing.T) {
		for number, text := range crashedAt() {
			ops := script(text)
			out := ran(t, text)
			steps := out.Obs[len(ops)-1].Writes + out.Obs[len(ops)-1].Syncs
			t.Run(fmt.Sprint(number), func(t *testing.T) {
				t.Parallel()
				for n := range steps + 1 {
					armedRuns(t, ops, n, &met)
				}
			})
		}
	})
	places := map[string]int{"crash at commit: log": 300, "failure at commit: log": 300, "which of two was seen": 300}
	for _, how := range []string{"crash", "failure"} {
		for _, doing := range []string{"open", "check", "check in commit"} {
			for _, what := range []string{"page", "sync of pages", "master", "sync of master"} {
				places[how+" at "+doing+": "+what] = 1
			}
		}
		for _, what := range []string{"commit: sync of log", "commit: thrown out page", "scan: thrown out page"} {
			places[how+" at "+what] = 10
		}
	}
	met.wantAtLeast(t, places)
}

// armedRuns has the step behind n steps crash, with the same choice for all writes and with mixed ones, and fail.
func armedRuns(t *testing.T, ops []impl.StoreOp, n int, met *tally) {
	t.Helper()
	again := script("crash 8 0 3; open; scan; put z 100; commit; crash; open; scan")
	lists := [][]int{nil, {8, 0, 8, 0, 8, 0, 8}, {0, 8, 0, 8, 0, 8}, {8, 8, 3, 8, 8, 8, 8, 8, 8}, {0, 0, 0, 0, 8, 8, 8, 8, 8}, {-9, -9, -2, -9, 5, 17, 26}}
	for parts := range 9 {
		lists = append(lists, ofChoices(parts, 300))
	}
	for i, choices := range lists {
		kind := impl.SArm
		if i == 0 {
			kind = impl.SFail
		} else if (i+n)%7 > 0 {
			continue
		}
		armed := append([]impl.StoreOp{{Kind: kind, N: n, Choices: choices}}, ops...)
		// Half of the runs go on where they are, so that the next opening is that of the script.
		if i%2 == 0 {
			armed = append(armed, again...)
		} else {
			armed = append(armed, script("open; scan; crash 1 2 3; open; scan")...)
		}
		out, found := wantSameRun(t, armed)
		wantAcknowledged(t, armed, out, met)
		for what := range found {
			met.add(what)
		}
	}
}

func TestArmingOneBehindTheOther(t *testing.T) {
	// What was armed ahead is not any more.
	wantRun(t, "arm 0; arm 1; open; open", "0 0/0/0; 0 0/0/0; 27 2/1/0; 0 4/4/2")
	wantRun(t, "arm 0; fail 1; open; open", "0 0/0/0; 0 0/0/0; 26 2/1/0; 26 2/1/0")
	wantRun(t, "fail 0; arm 1; open; open", "0 0/0/0; 0 0/0/0; 27 2/1/0; 0 4/4/2")
	wantRun(t, "fail 0; fail 3; open", "0 0/0/0; 0 0/0/0; 26 2/2/1")
	wantRun(t, "arm 0; arm -1; open", "0 0/0/0; 0 0/0/0; 0 2/3/2")
	wantRun(t, "arm 0; fail -1; open", "0 0/0/0; 0 0/0/0; 0 2/3/2")
	wantRun(t, "fail 0; arm -7; open", "0 0/0/0; 0 0/0/0; 0 2/3/2")
	wantRun(t, "fail 0; fail -1; open", "0 0/0/0; 0 0/0/0; 0 2/3/2")
	wantRun(t, "arm -9223372036854775808; open; arm 9223372036854775807; check", "0 0/0/0; 0 2/3/2; 0 2/3/2; 0 2/4/4")
	// Steps are counted over operations; what has come is not armed any more.
	wantRun(t, "arm 5; open; get a; check; open", "0 0/0/0; 0 2/3/2; 0 4/3/2; 27 4/3/2; 0 307/4/3")
	wantRun(t, "fail 6; open; check; crash; open", "0 0/0/0; 0 2/3/2; 26 2/3/3; 0 2/3/3; 0 305/4/4")
	wantRun(t, "arm 0; open; open; check; check", "0 0/0/0; 27 2/0/0; 0 4/3/2; 0 4/4/4; 0 4/5/6")
	// A crash by itself disarms.
	wantRun(t, "open; arm 0; crash; open", "0 2/3/2; 0 2/3/2; 0 2/3/2; 0 305/4/3")
	wantRun(t, "open; fail 0; crash; open; check", "0 2/3/2; 0 2/3/2; 0 2/3/2; 0 305/4/3; 0 305/5/5")
	// The choices are those that were armed, not those of another operation.
	out := wantRun(t, "arm 3 8 4; open", "0 0/0/0; 27 2/2/1")
	if len(out.Disk.Blocks) != 4 {
		t.Errorf("two pages that were synced: %d blocks", len(out.Disk.Blocks))
	}
	// A step that fails leaves what is pending: the crash behind it chooses.
	done := wantRun(t, "fail 2 8 8; open; crash 4 8; open", "0 0/0/0; 26 2/2/0; 0 2/2/0; 0 4/4/2")
	if wantRecovered(t, done.Disk); len(done.Disk.Blocks) != 4 {
		t.Errorf("a failure and a crash: %d blocks", len(done.Disk.Blocks))
	}
	kept := ran(t, "fail 2; open; crash 4 8")
	if told := string(kept.Disk.Blocks[2][:256]) == string(impl.KvNew().Pages[0][:256]) && string(kept.Disk.Blocks[2][256:]) == noughts(256); !told || string(kept.Disk.Blocks[3]) != string(impl.KvNew().Pages[1]) {
		t.Errorf("what was pending at a failure: %v", kept.Disk.Blocks)
	}
}
