package tests

import (
	"math"
	"strings"

	"loop.example/g00001/impl"
)

// storeGrower makes scripts for a store.
type storeGrower struct {
	woodGrower
	known []string // keys that were put
	batch int      // how many changes a commit has at most
	calm  bool     // crashes and failures are few
	fills bool     // pages are taken until none is left
}

func newStoreGrower(number int) *storeGrower {
	g := grower{&numberSource{state: uint64(number)}}
	s := &storeGrower{woodGrower: woodGrower{g, below(g.numberSource, 5), g.chance(4)}}
	s.batch = g.pick(1, 2, 4, 4, 12, 40)
	s.calm = g.chance(3)
	if s.fills = g.chance(8); s.fills {
		s.style, s.bulky, s.batch, s.calm = 3, true, 3, true
	}
	return s
}

func (g *storeGrower) choices() []int {
	var list []int
	style := below(g.numberSource, 4)
	for range g.pick(0, 1, 2, 4, 8, 20, 60) {
		switch style {
		case 0:
			list = append(list, 8)
		case 1:
			list = append(list, g.pick(0, 8))
		case 2:
			list = append(list, below(g.numberSource, 9))
		case 3:
			list = append(list, g.pick(0, 1, 2, 3, 4, 5, 6, 7, 8, 9, 17, -1, -2, -8, -9, -10, math.MaxInt, math.MinInt))
		}
	}
	return list
}

func (g *storeGrower) someKey() string {
	if len(g.known) > 0 && !g.fills && !g.chance(3) {
		return g.known[below(g.numberSource, len(g.known))]
	}
	return g.key()
}

func (g *storeGrower) changeOp() impl.StoreOp {
	if g.chance(4) && !g.fills {
		return impl.StoreOp{Kind: impl.SDrop, Key: []byte(g.someKey())}
	}
	key := g.someKey()
	g.known = append(g.known, key)
	return impl.StoreOp{Kind: impl.SPut, Key: []byte(key), Val: []byte(g.value())}
}

// part is some operations that belong together.
func (g *storeGrower) part() []impl.StoreOp {
	trouble := 3
	if g.calm {
		trouble = 12
	}
	if g.chance(trouble) {
		return g.trouble()
	}
	switch below(g.numberSource, 8) {
	case 0:
		return []impl.StoreOp{{Kind: impl.SCheck}}
	case 1:
		return []impl.StoreOp{{Kind: impl.SScan}}
	case 2:
		var ops []impl.StoreOp
		for range g.pick(1, 2, 5) {
			ops = append(ops, impl.StoreOp{Kind: impl.SGet, Key: []byte(g.someKey())})
		}
		return ops
	}
	var ops []impl.StoreOp
	for range 1 + below(g.numberSource, g.batch) {
		ops = append(ops, g.changeOp())
	}
	if g.chance(12) {
		return append(ops, impl.StoreOp{Kind: impl.SAbort})
	}
	return append(ops, impl.StoreOp{Kind: impl.SCommit})
}

// trouble is what is armed, or a crash and an opening, which may be armed, too.
func (g *storeGrower) trouble() []impl.StoreOp {
	if g.chance(20) {
		return []impl.StoreOp{g.oddOp()}
	}
	arm := impl.StoreOp{Kind: g.pick(impl.SArm, impl.SArm, impl.SFail), N: g.pick(-1, 0, 0, 1, 2, 3, 4, 5, 7, 10, 15, 22, 40), Choices: g.choices()}
	if g.chance(2) {
		return []impl.StoreOp{arm}
	}
	ops := []impl.StoreOp{{Kind: impl.SCrash, Choices: g.choices()}}
	if g.chance(2) {
		ops = append(ops, arm, impl.StoreOp{Kind: impl.SOpen})
		ops = append(ops, impl.StoreOp{Kind: impl.SCrash, Choices: g.choices()})
	}
	return append(ops, impl.StoreOp{Kind: impl.SOpen}, impl.StoreOp{Kind: impl.SScan})
}

// oddOp is any operation, or one that is wrong.
func (g *storeGrower) oddOp() impl.StoreOp {
	op := g.changeOp()
	op.Kind = g.pick(oddNumbers()...)
	op.N, op.Choices = g.pick(oddNumbers()...), g.choices()
	if g.chance(3) {
		op.Key = []byte(strings.Repeat("k", impl.MaxKey+g.flag()))
	}
	if g.chance(3) {
		op.Val = []byte(strings.Repeat("v", impl.MaxVal+g.flag()))
	}
	return op
}

func (g *storeGrower) script(size int) []impl.StoreOp {
	ops := []impl.StoreOp{{Kind: impl.SOpen}}
	if g.chance(4) {
		ops = g.trouble()
	}
	for len(ops) < size {
		ops = append(ops, g.part()...)
	}
	return ops[:size]
}
