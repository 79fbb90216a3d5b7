package tests

import (
	"fmt"
	"slices"

	"loop.example/g00001/impl"
)

// machine is a store, chapter 15 once more: a step that is not done is thrown. It notes what it has met.
type machine struct {
	disk                 shelf
	pending              []impl.Write
	reads, writes, syncs int
	armed                []arming // none, or one
	state                string
	image                impl.Image
	now                  map[int]string // the pages as they are
	batch                []impl.StoreOp
	pool                 *slots
	epoch, blocks        int
	held                 []impl.LogRec
	imaged               map[int]bool
	met                  map[string]int
	doing                string
}

type arming struct {
	left    int
	down    bool
	choices []int
}

// halt is thrown with the code that the operation answers.
type halt struct{ code int }

func newMachine() *machine {
	return &machine{disk: shelf{}, state: "down", met: map[string]int{}}
}

// wantedRun is what StoreRun answers, and what was met on the way.
func wantedRun(ops []impl.StoreOp) (impl.StoreOut, map[string]int) {
	if len(ops) > 200 {
		return impl.StoreOut{Code: impl.ErrBig}, nil
	}
	m := newMachine()
	var out impl.StoreOut
	for _, op := range ops {
		out.Obs = append(out.Obs, m.observed(op))
	}
	m.land()
	out.Disk = m.disk.disk()
	return out, m.met
}

func (m *machine) observed(op impl.StoreOp) (obs impl.StoreObs) {
	defer func() {
		if thrown := recover(); thrown != nil {
			obs = impl.StoreObs{Code: thrown.(halt).code}
		}
		m.met[fmt.Sprintf("kind %d code %d", op.Kind, obs.Code)]++
		obs.Reads, obs.Writes, obs.Syncs = m.reads, m.writes, m.syncs
	}()
	m.doing = ""
	return m.operate(op)
}

func (m *machine) land() {
	m.disk.land(m.pending, func(int) int { return 8 })
	m.pending = nil
}

func (m *machine) crash(choices []int) {
	m.disk.crash(m.pending, choices)
	m.met[fmt.Sprintf("crash with %d pending", min(3, len(m.pending)))]++
	m.pending = nil
	m.state = "down"
}

func (m *machine) step(what string) {
	if len(m.armed) == 0 {
		return
	}
	if a := &m.armed[0]; a.left > 0 {
		a.left--
		return
	}
	a := m.armed[0]
	m.armed = nil
	if a.down {
		m.crash(a.choices)
		m.met["crash at "+m.doing+what]++
		panic(halt{impl.ErrDown})
	}
	m.state = "broken"
	m.met["failure at "+m.doing+what]++
	panic(halt{impl.ErrIO})
}

func (m *machine) write(block int, text string, what string) {
	m.step(what)
	m.writes++
	m.pending = append(m.pending, impl.Write{Block: block, Data: []byte(text)})
}

func (m *machine) sync(what string) {
	m.step("sync of " + what)
	m.syncs++
	m.land()
}

func (m *machine) operate(op impl.StoreOp) impl.StoreObs {
	fixed := op.Kind >= 1 && op.Kind <= 8
	switch {
	case fixed && m.state == "broken":
		panic(halt{impl.ErrIO})
	case fixed && op.Kind > 1 && m.state == "down":
		panic(halt{impl.ErrDown})
	case op.Kind == 1 && m.state == "open":
		panic(halt{impl.ErrState})
	}
	switch op.Kind {
	case 1:
		m.open()
	case 2, 3:
		if len(op.Key) > 120 || len(op.Val) > 4000 {
			panic(halt{impl.ErrBad})
		}
		m.batch = append(m.batch, op)
	case 4:
		return m.get(op)
	case 5:
		return m.scan()
	case 6:
		m.commit()
	case 7:
		m.batch = nil
	case 8:
		m.doing = "check: "
		m.check()
	case 9, 10:
		m.armed = nil
		if op.N >= 0 {
			m.armed = []arming{{op.N, op.Kind == 9, op.Choices}}
		}
	case 11:
		m.armed = nil
		m.crash(op.Choices)
	default:
		panic(halt{impl.ErrBad})
	}
	return impl.StoreObs{}
}

func (m *machine) open() {
	m.doing = "open: "
	m.reads += 2
	epoch := m.disk.epoch()
	if epoch > 0 {
		_, blocks := m.disk.log(epoch)
		m.reads += min(blocks+1, 210)
	}
	image, _, code := m.disk.recovered()
	if code != 0 {
		panic(halt{code})
	}
	if epoch > 0 {
		m.reads += 300
	}
	wrote := false
	m.now = map[int]string{}
	for number, p := range image.Pages {
		m.now[number] = string(p)
		if m.disk.at(2+number) != string(p) {
			m.write(2+number, string(p), "page")
			wrote = true
		}
	}
	if wrote {
		m.sync("pages")
	}
	m.met[fmt.Sprintf("opening that wrote: %v", wrote)]++
	m.master(epoch + 1)
	m.image, m.batch, m.pool, m.held = image, nil, newSlots(), nil
	m.state = "open"
}

func (m *machine) master(epoch int) {
	m.write(epoch%2, string(masterSheet(epoch)), "master")
	m.sync("master")
	m.epoch, m.blocks, m.imaged = epoch, 0, map[int]bool{}
}

func (m *machine) check() {
	m.flush()
	for _, page := range m.pool.clean() {
		m.write(2+page, m.now[page], "page")
	}
	m.sync("pages")
	m.master(m.epoch + 1)
}

func (m *machine) flush() {
	if len(m.held) == 0 {
		return
	}
	blocks, code := wantedPack(m.epoch, m.blocks, m.held)
	if code != 0 {
		panic("no room in the log")
	}
	for _, b := range blocks {
		m.write(302+m.blocks, string(b), "log")
		m.blocks++
	}
	m.held = nil
	m.sync("log")
}

// inPool has a page used, changed or new.
func (m *machine) inPool(kind, page int) {
	read, wrote := m.pool.do(kind, page)
	if read >= 0 {
		m.reads++
	}
	if wrote >= 0 {
		m.met[fmt.Sprintf("%sthrown out with held records: %v", m.doing, len(m.held) > 0)]++
		m.flush()
		m.write(2+wrote, m.now[wrote], "thrown out page")
	}
}

func (m *machine) allUsed(pages []int) {
	for _, page := range pages {
		m.inPool(1, page)
	}
}

func (m *machine) get(op impl.StoreOp) impl.StoreObs {
	m.doing = "get: "
	if len(op.Key) > 120 {
		panic(halt{impl.ErrBad})
	}
	val, found, pages := wantedGet(m.image, string(op.Key))
	m.allUsed(pages)
	return impl.StoreObs{Found: found, Val: []byte(val)}
}

func (m *machine) scan() impl.StoreObs {
	m.doing = "scan: "
	w, _ := readWood(m.image)
	m.allUsed(append([]int{0}, w.top.allPages()...))
	return impl.StoreObs{Pairs: w.top.pairs()}
}

func (b *bough) allPages() []int {
	pages := []int{b.page}
	for _, v := range b.vals {
		pages = append(pages, v.pages...)
	}
	for _, kid := range b.kids {
		pages = append(pages, kid.allPages()...)
	}
	return pages
}

func (m *machine) commit() {
	m.doing = "commit: "
	batch := m.batch
	m.batch = nil
	if len(batch) == 0 {
		return
	}
	images := []impl.Image{m.image}
	for _, op := range batch {
		next, code := madeOnce(images[len(images)-1], op)
		if code != 0 {
			m.met["no pages left"]++
			panic(halt{impl.ErrFull})
		}
		images = append(images, next)
	}
	if !m.logHasRoom(images, "room") {
		m.doing = "check in commit: "
		m.check()
		m.doing = "commit: "
		if !m.logHasRoom(images, "room then") {
			m.met["no room in the log"]++
			panic(halt{impl.ErrFull})
		}
	}
	for i, op := range batch {
		_, _, pages := wantedGet(images[i], string(op.Key))
		m.allUsed(pages)
		for _, page := range differing(images[i], images[i+1]) {
			m.held = append(m.held, recordsFor(images[i], images[i+1], page, m.imaged)...)
			m.now[page] = string(images[i+1].Pages[page])
			if page >= len(images[i].Pages) {
				m.inPool(3, page)
			} else {
				m.inPool(2, page)
			}
		}
	}
	m.held = append(m.held, impl.LogRec{Kind: 3})
	m.flush()
	m.image = images[len(images)-1]
}

func madeOnce(m impl.Image, op impl.StoreOp) (impl.Image, int) {
	if op.Kind == 2 {
		return wantedPut(m, string(op.Key), string(op.Val))
	}
	next, _, code := wantedDrop(m, string(op.Key))
	return next, code
}

func pageIn(m impl.Image, page int) string {
	if page < len(m.Pages) {
		return string(m.Pages[page])
	}
	return noughts(512)
}

func differing(before, behind impl.Image) []int {
	var pages []int
	for page := range behind.Pages {
		if pageIn(before, page) != pageIn(behind, page) {
			pages = append(pages, page)
		}
	}
	return pages
}

// recordsFor are those of one page that differs.
func recordsFor(before, behind impl.Image, page int, imaged map[int]bool) []impl.LogRec {
	from, to := pageIn(before, page), pageIn(behind, page)
	var places []int
	for i := range len(from) {
		if from[i] != to[i] {
			places = append(places, i)
		}
	}
	first, end := slices.Min(places), slices.Max(places)+1
	update := impl.LogRec{Kind: 2, Page: page, Off: first, Before: []byte(from[first:end]), After: []byte(to[first:end])}
	if imaged[page] {
		return []impl.LogRec{update}
	}
	imaged[page] = true
	return []impl.LogRec{{Kind: 1, Page: page, Before: []byte(from)}, update}
}

func (m *machine) logHasRoom(images []impl.Image, when string) bool {
	imaged := map[int]bool{}
	for page := range m.imaged {
		imaged[page] = true
	}
	count, size := 1, 1
	for i := range len(images) - 1 {
		for _, page := range differing(images[i], images[i+1]) {
			for _, r := range recordsFor(images[i], images[i+1], page, imaged) {
				count++
				size += len(wantedRecordBytes(r))
			}
		}
	}
	m.met[fmt.Sprintf("%s %+d", when, max(-2, min(2, 210-m.blocks-(size+496)/497-count-1)))]++
	return m.blocks+(size+496)/497+count+1 <= 210
}
