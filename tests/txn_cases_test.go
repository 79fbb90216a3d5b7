package tests

import (
	"fmt"
	"slices"
	"strconv"
	"strings"
	"testing"

	"loop.example/g00001/impl"
)

// talkVerbs are the operations of sessions, by their kinds from 1 on.
var talkVerbs = []string{"begin", "get", "list", "put", "erase", "commit", "rollback", "save", "back", "release"}

var talkModes = []string{"", "snapshot", "serial"}

// talkCodes are the codes that a session may be told.
var talkCodes = map[string]int{
	"ErrBad": impl.ErrBad, "ErrBig": impl.ErrBig, "ErrTable": impl.ErrTable, "ErrConflict": impl.ErrConflict, "ErrDanger": impl.ErrDanger,
	"ErrState": impl.ErrState, "ErrPoint": impl.ErrPoint,
}

// talk reads what sessions do and are told, a line each: 1 begin serial -> 0; 1 put 3 5 7; 1 get 3 5 -> 7. Behind the arrow
// stands a name of a code, the stamp of begin and commit, the value of get (or none), the pairs of list.
func talk(text string) ([]impl.TxnOp, []impl.TxnObs) {
	var ops []impl.TxnOp
	var answers []impl.TxnObs
	for _, line := range strings.FieldsFunc(text, func(r rune) bool { return r == ';' || r == '\n' }) {
		if strings.TrimSpace(line) == "" {
			continue
		}
		said, answer, _ := strings.Cut(line, "->")
		op := saidOp(strings.Fields(said))
		ops = append(ops, op)
		answers = append(answers, saidAnswer(op.Kind, strings.Fields(answer)))
	}
	return ops, answers
}

func saidOp(words []string) impl.TxnOp {
	op := impl.TxnOp{Session: numbersIn(words[:1])[0], Kind: 1 + slices.Index(talkVerbs, words[1])}
	words = words[2:]
	switch op.Kind {
	case 0:
		panic("no verb")
	case impl.TBegin:
		op.Mode = slices.Index(talkModes, words[0])
	case impl.TGet, impl.TList, impl.TPut, impl.TErase:
		numbers := append(numbersIn(words), 0, 0)
		op.Table, op.Key, op.Val = numbers[0], numbers[1], numbers[2]
	case impl.TSave, impl.TBack, impl.TRelease:
		op.Name = words[0]
	}
	return op
}

func saidAnswer(kind int, words []string) impl.TxnObs {
	if len(words) == 0 {
		return impl.TxnObs{}
	}
	if code, there := talkCodes[words[0]]; there {
		return impl.TxnObs{Code: code}
	}
	var o impl.TxnObs
	switch kind {
	case impl.TBegin, impl.TCommit:
		o.Stamp = numbersIn(words)[0]
	case impl.TGet:
		if words[0] != "none" {
			o.Found, o.Val = true, numbersIn(words)[0]
		}
	case impl.TList:
		for _, word := range words {
			key, val, _ := strings.Cut(word, ":")
			pair := numbersIn([]string{key, val})
			o.Pairs = append(o.Pairs, impl.TxnPair{Key: pair[0], Val: pair[1]})
		}
	default:
		panic("no answer of " + talkVerbs[kind-1])
	}
	return o
}

func sameTxnObs(a, b impl.TxnObs) bool {
	return a.Code == b.Code && a.Val == b.Val && a.Stamp == b.Stamp && a.Found == b.Found && slices.Equal(a.Pairs, b.Pairs)
}

// toldTalk is a script as it was written, with its answers as they are.
func toldTalk(ops []impl.TxnOp, answers []impl.TxnObs) string {
	var lines []string
	for i, op := range ops {
		verb := "?"
		if op.Kind >= 1 && op.Kind <= len(talkVerbs) {
			verb = talkVerbs[op.Kind-1]
		}
		line := fmt.Sprintf("%d: %d %s, table %d, key %d, val %d, mode %d, name %q", i, op.Session, verb, op.Table, op.Key, op.Val, op.Mode, op.Name)
		if i < len(answers) {
			line += fmt.Sprintf(" -> %+v", answers[i])
		}
		lines = append(lines, line)
	}
	return strings.Join(lines, "\n")
}

// wantTalk asks that sessions are told what the text says.
func wantTalk(t *testing.T, text string) {
	t.Helper()
	ops, want := talk(text)
	wantTxnAnswers(t, ops, want)
}

func wantTxnAnswers(t *testing.T, ops []impl.TxnOp, want []impl.TxnObs) {
	t.Helper()
	got, code := impl.TxnRun(ops)
	if code != impl.OK || len(got) != len(want) {
		t.Fatalf("%s\n%d, %d answers", toldTalk(ops, got), code, len(got))
	}
	for i := range want {
		if !sameTxnObs(got[i], want[i]) {
			t.Fatalf("%s\nwant %+v", toldTalk(ops[:i+1], got), want[i])
		}
	}
}

// pastInfos reads a history: 0-1 r0,3 w1; 0-2 w0 are two transactions, of which the first one began at 0 and is the commit 1.
func pastInfos(text string) []impl.TxnInfo {
	var list []impl.TxnInfo
	for _, part := range strings.Split(text, ";") {
		words := strings.Fields(part)
		if len(words) == 0 {
			continue
		}
		begin, commit, _ := strings.Cut(words[0], "-")
		numbers := numbersIn([]string{begin, commit})
		info := impl.TxnInfo{Begin: numbers[0], Commit: numbers[1]}
		for _, word := range words[1:] {
			tables := numbersIn(strings.Split(word[1:], ","))
			if word[0] == 'r' {
				info.Reads = tables
			} else {
				info.Writes = tables
			}
		}
		list = append(list, info)
	}
	return list
}

func toldInfos(h []impl.TxnInfo) string {
	var parts []string
	for _, t := range h {
		parts = append(parts, fmt.Sprintf("%d-%d r%s w%s", t.Begin, t.Commit, withCommas(t.Reads), withCommas(t.Writes)))
	}
	return strings.Join(parts, "; ")
}

func copiedInfos(h []impl.TxnInfo) []impl.TxnInfo {
	h = slices.Clone(h)
	for i := range h {
		h[i].Reads, h[i].Writes = slices.Clone(h[i].Reads), slices.Clone(h[i].Writes)
	}
	return h
}

func sameInfos(a, b []impl.TxnInfo) bool {
	return slices.EqualFunc(a, b, func(a, b impl.TxnInfo) bool {
		return a.Begin == b.Begin && a.Commit == b.Commit && slices.Equal(a.Reads, b.Reads) && slices.Equal(a.Writes, b.Writes)
	})
}

// wantCertified asks for the code of Certify: the last one of the history is t.
func wantCertified(t *testing.T, text string, want int) {
	t.Helper()
	h := pastInfos(text)
	last := len(h) - 1
	if got := impl.Certify(h[:last], h[last]); got != want {
		t.Errorf("%s: %d, want %d", text, got, want)
	}
}

// wantOrder asks for the answer of SerialOrder: numbers, or the name of a code.
func wantOrder(t *testing.T, text, want string) {
	t.Helper()
	order, code := impl.SerialOrder(pastInfos(text))
	if told := toldOrder(order, code); told != want {
		t.Errorf("%s: %s, want %s", text, told, want)
	}
}

func toldOrder(order []int, code int) string {
	told := strings.Trim(fmt.Sprint(order), "[]")
	if code == impl.OK {
		return told
	}
	for name, number := range talkCodes {
		if number == code {
			return strings.TrimSpace(name + " " + told)
		}
	}
	return "code " + strconv.Itoa(code)
}
