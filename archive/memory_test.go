package archive

import (
	"fmt"
	"math"
	"math/rand"
	"slices"
	"sync"
	"testing"

	"casket/api"
)

// R3

// part is a list that is handed in or answered; text tells what is in it, but not what stands in lists inside of it, which are parts of their own.
type part interface {
	text() string
	overwrite()
}

type bytesPart []byte

func (p bytesPart) text() string { return fmt.Sprint([]byte(p)) }

func (p bytesPart) overwrite() {
	for i := range p {
		p[i] ^= 255
	}
}

type samplesPart []api.Sample

func (p samplesPart) text() string { return fmt.Sprint([]api.Sample(p)) }

func (p samplesPart) overwrite() {
	for i := range p {
		p[i] = api.Sample{T: ^p[i].T, V: ^p[i].V}
	}
}

type entriesPart []api.Entry

func (p entriesPart) text() string { return fmt.Sprint([]api.Entry(p)) }

func (p entriesPart) overwrite() {
	for i := range p {
		p[i] = api.Entry{Tenant: "overwritten", Bucket: 8 - i%9}
	}
}

type chunksPart []api.Chunk

func (p chunksPart) text() string {
	out := ""
	for _, c := range p {
		out += fmt.Sprintf("%q %d;", c.Tenant, len(c.S))
	}
	return out
}

func (p chunksPart) overwrite() {
	for i := range p {
		p[i] = of("overwritten", even(i+1)...)
	}
}

type piecesPart [][]byte

func (p piecesPart) text() string {
	out := ""
	for _, b := range p {
		out += fmt.Sprint(len(b), ";")
	}
	return out
}

func (p piecesPart) overwrite() {
	for i := range p {
		p[i] = mixed(i, 9)
	}
}

// memory is all parts of something.
type memory []part

func (m memory) text() string {
	out := ""
	for _, p := range m {
		out += p.text() + "\n"
	}
	return out
}

func (m memory) overwrite() {
	for _, p := range m {
		p.overwrite()
	}
}

// all is a list with what stands behind its end in the same memory, if that is asked for.
func all[T any](list []T, behind bool) []T {
	if behind {
		return list[:cap(list)]
	}
	return list
}

// withRoom is a list with others behind it in the same memory, which are no call's either.
func withRoom[T any](list []T, others ...T) []T {
	return slices.Clip(slices.Concat(list, others))[:len(list)]
}

func bytesWithRoom(b []byte) []byte { return withRoom(b, mixed(100, 99)...) }

func chunkWithRoom(c api.Chunk) api.Chunk {
	return of(c.Tenant, withRoom(c.S, even(5)...)...)
}

// handed is what the calls are handed.
type handed struct {
	key   []byte
	state api.State
	at    uint64
	index int
	c     api.Chunk
	l     []api.Chunk
	entry api.Entry
	b     []byte
}

func (h handed) withRoom() handed {
	out := h
	out.key, out.b, out.state.Root = bytesWithRoom(h.key), bytesWithRoom(h.b), bytesWithRoom(h.state.Root)
	out.c.S = withRoom(h.c.S, even(5)...)
	out.l = withRoom(h.l, of("behind", even(2)...), of("it"))
	for i := range out.l {
		out.l[i] = chunkWithRoom(out.l[i])
	}
	return out
}

// memory is all that was handed in, and what stands behind it.
func (h handed) memory() memory {
	out := memory{bytesPart(all(h.key, true)), bytesPart(all(h.b, true)), bytesPart(all(h.state.Root, true)), samplesPart(all(h.c.S, true)), chunksPart(all(h.l, true))}
	for _, c := range all(h.l, true) {
		out = append(out, samplesPart(all(c.S, true)))
	}
	return out
}

// answer is what a call answers.
type answer struct {
	b      []byte
	bucket int
	c      api.Chunk
	l      []api.Chunk
	state  api.State
	p      parts
	e      api.Errno
}

// memory is an answer's lists, and what stands behind their ends, if that is asked for.
func (a answer) memory(behind bool) memory {
	out := memory{bytesPart(all(a.b, behind)), samplesPart(all(a.c.S, behind)), bytesPart(all(a.state.Root, behind))}
	for _, c := range a.l {
		out = append(out, samplesPart(all(c.S, behind)))
	}
	for _, b := range a.p.sealed {
		out = append(out, bytesPart(all(b, behind)))
	}
	return append(out,
		bytesPart(all(a.p.m.Prev, behind)), bytesPart(all(a.p.m.Root, behind)), bytesPart(all(a.p.signed, behind)), entriesPart(all(a.p.m.Entries, behind)),
		chunksPart(all(a.l, behind)), piecesPart(all(a.p.sealed, behind)))
}

func (a answer) text() string {
	return fmt.Sprint(a.memory(false).text(), a.bucket, a.c.Tenant, a.state.Version, a.p.m.Version, int(a.e))
}

// call is one of the package's, with what it is handed.
type call struct {
	what string
	h    handed
	ask  func(h handed) answer
}

func seal(h handed) (a answer) {
	a.b, a.bucket, a.e = Seal(h.key, h.at, h.index, h.c)
	return a
}

func unseal(h handed) (a answer) {
	a.c, a.e = Unseal(h.key, h.at, h.index, h.entry, h.b)
	return a
}

func build(h handed) (a answer) {
	a.b, a.state, a.e = Build(h.key, h.state, h.at, h.l)
	return a
}

func splitUp(h handed) (a answer) {
	a.p.m, a.p.signed, a.p.sealed, a.e = Split(h.b)
	return a
}

func open(h handed) (a answer) {
	a.l, a.state, a.e = Open(h.key, h.state, h.b)
	return a
}

// calls are all of the package's, with what they take and what they refuse.
func calls(t *testing.T) []call {
	t.Helper()
	var out []call
	for _, c := range []api.Chunk{of(""), of("a", even(2)...), of("b", wild(10, 1)...)} {
		sealed, entry := sealedOf(t, c)
		name := fmt.Sprint(" of ", len(c.S), " samples")
		out = append(out,
			call{"Seal" + name, handed{key: someKey(), at: 258, index: 3, c: c}, seal},
			call{"Seal by no key" + name, handed{key: someKey()[:31], at: 258, index: 3, c: c}, seal},
			call{"Unseal" + name, handed{key: someKey(), at: 258, index: 3, entry: entry, b: sealed}, unseal},
			call{"Unseal elsewhere" + name, handed{key: someKey(), at: 258, index: 4, entry: entry, b: sealed}, unseal},
			call{"Unseal of a beginning" + name, handed{key: someKey(), at: 258, index: 3, entry: entry, b: sealed[:15]}, unseal},
		)
	}
	alike := slices.Concat(asSigned(manifestOf(t, api.Entry{Tenant: "a"}, api.Entry{Tenant: "a"})), mixed(80, 1), mixed(80, 1))
	out = append(out, call{"Split of two pieces that are alike", handed{b: alike}, splitUp})
	for _, l := range [][]api.Chunk{nil, fewChunks(), someChunks()} {
		b, s := built(t, someMaster(), api.State{}, 5, l...)
		name := fmt.Sprint(" of ", len(l), " chunks")
		out = append(out,
			call{"Build" + name, handed{key: someMaster(), at: 5, l: l}, build},
			call{"Build on a state" + name, handed{key: someMaster(), state: api.State{Version: 4, Root: someRoot()}, at: 5, l: l}, build},
			call{"Build of a version that is less" + name, handed{key: someMaster(), state: api.State{Version: 6, Root: someRoot()}, at: 5, l: l}, build},
			call{"Build with a refused chunk" + name, handed{key: someMaster(), at: 5, l: append(slices.Clone(l), of(longTenants()[0]))}, build},
			call{"Split" + name, handed{b: b}, splitUp},
			call{"Split of a beginning" + name, handed{b: b[:len(b)-1]}, splitUp},
			call{"Open" + name, handed{key: someMaster(), b: b}, open},
			call{"Open by its state" + name, handed{key: someMaster(), state: s, b: b}, open},
			call{"Open by another root" + name, handed{key: someMaster(), state: api.State{Version: 5, Root: someRoot()}, b: b}, open},
			call{"Open by another master" + name, handed{key: someKey(), state: s, b: b}, open},
			call{"Open of a byte more" + name, handed{key: someMaster(), state: s, b: append(slices.Clone(b), 0)}, open},
		)
	}
	return out
}

func wantText(t *testing.T, what, got, want string) {
	t.Helper()
	if got != want {
		t.Errorf("%s: %s; want %s", what, brief(got), brief(want))
	}
}

func TestWhatIsHandedInIsNotChanged(t *testing.T) {
	for _, x := range calls(t) {
		h := x.h.withRoom()
		before := h.memory().text()
		x.ask(h)
		wantText(t, x.what+": what was handed in", h.memory().text(), before)
	}
}

func TestWhatIsHandedInIsNotKept(t *testing.T) {
	for _, x := range calls(t) {
		want := x.ask(x.h).text()
		h := x.h.withRoom()
		got := x.ask(h)
		wantText(t, x.what, got.text(), want)
		h.memory().overwrite()
		wantText(t, x.what+", of what is changed behind the call", got.text(), want)
		wantText(t, x.what+", asked once more", x.ask(x.h).text(), want)
	}
}

func TestAnAnswerIsItsHoldersOwn(t *testing.T) {
	for _, x := range calls(t) {
		h := x.h.withRoom()
		before := h.memory().text()
		want := x.ask(h).text()
		held, another := x.ask(h), x.ask(h)
		held.memory(true).overwrite()
		wantText(t, x.what+": another answer", another.text(), want)
		wantText(t, x.what+": what was handed in", h.memory().text(), before)
		wantText(t, x.what+": one that is asked later", x.ask(h).text(), want)
	}
}

func TestNoTwoListsOfAnAnswerShareMemory(t *testing.T) {
	for _, x := range calls(t) {
		for k := range x.ask(x.h).memory(false) {
			got := x.ask(x.h)
			lists := got.memory(false)
			var before []string
			for _, p := range lists {
				before = append(before, p.text())
			}
			got.memory(true)[k].overwrite()
			for other, p := range lists {
				if other != k {
					wantText(t, fmt.Sprint(x.what, ": the list ", other, " beside ", k, ", which is changed"), p.text(), before[other])
				}
			}
		}
	}
}

func TestNothingIsKeptBetweenCalls(t *testing.T) {
	every := calls(t)
	for _, x := range every {
		want := x.ask(x.h).text()
		for _, other := range every {
			other.ask(other.h)
			wantText(t, x.what+" behind "+other.what, x.ask(x.h).text(), want)
		}
	}
}

// Calls that run at the same time, on the same things, know nothing of each other.
func TestCallsAtTheSameTime(t *testing.T) {
	for _, x := range calls(t) {
		want := x.ask(x.h).text()
		var group sync.WaitGroup
		got := make([]string, 8)
		for i := range got {
			group.Go(func() { got[i] = x.ask(x.h).text() })
		}
		group.Wait()
		for _, each := range got {
			wantText(t, x.what+" at the same time", each, want)
		}
	}
}

// Whoever changes what was handed in, or an answer, and asks again, is answered by what is there now.
func TestThingsAsTheyAreNow(t *testing.T) {
	master, l := someMaster(), fewChunks()
	prev := api.State{Version: 4, Root: someRoot()}
	wantBuiltAndBack(t, master, prev, 5, l)
	l[0].S[0].V++
	l[1].Tenant = "c"
	prev.Root[0] ^= 1
	master[31] ^= 1
	wantBuiltAndBack(t, master, prev, 5, l)
	b, s := built(t, master, prev, 5, l...)
	s.Root[0] ^= 1
	wantError(t, "a state that has changed", holdOpen(t, master, s, b), api.ErrFork)
	s.Root[0] ^= 1
	wantOpened(t, "and is as it was", master, s, b, l, s)
	b[len(b)-1] ^= 1
	wantError(t, "bytes that have changed", holdOpen(t, master, s, b), api.ErrAuth)
}

// R1

// holdAll holds what all calls answer against the chapter's words, whatever is handed in.
func holdAll(t *testing.T, h handed) {
	t.Helper()
	holdSeal(t, h.key, h.at, h.index, h.c)
	holdUnseal(t, h.key, h.at, h.index, h.entry, h.b)
	holdBuild(t, h.key, h.state, h.at, h.l)
	holdSplit(t, h.b)
	holdOpen(t, h.key, h.state, h.b)
}

// anything is what a call may be handed, most of it wrong.
func anything(random *rand.Rand) handed {
	lengths := []int{0, 1, 31, 32, 32, 32, 32, 33}
	tenants := append(goodTenants(), longTenants()[:3]...)
	tenant := func() string { return tenants[random.Intn(len(tenants))] }
	h := handed{
		key:   mixed(lengths[random.Intn(8)], byte(random.Intn(256))),
		state: api.State{Version: random.Uint64() >> random.Intn(64), Root: mixed(lengths[random.Intn(8)], 100)},
		at:    random.Uint64() >> random.Intn(64),
		index: int(random.Uint64()) >> random.Intn(64),
		c:     of(tenant(), wild(random.Intn(4), random.Int63())...),
		entry: api.Entry{Tenant: tenant(), Bucket: int(random.Uint64()) >> random.Intn(64)},
		b:     make([]byte, random.Intn(400)),
	}
	for range random.Intn(4) {
		h.l = append(h.l, of(tenant(), even(random.Intn(9))...))
	}
	random.Read(h.b)
	if random.Intn(2) == 0 { // the beginning of a block that holds a manifest's
		h.b = slices.Concat([]byte{byte(110 + random.Intn(18)), byte(random.Intn(2))}[:1+random.Intn(2)], []byte("CSK1"), h.b)
	}
	return h
}

func TestNothingPanics(t *testing.T) {
	random := rand.New(rand.NewSource(24))
	for range 4000 {
		holdAll(t, anything(random))
	}
	holdAll(t, handed{})
	holdAll(t, handed{key: someMaster()})
	for _, index := range append(wrongIndexes(), goodIndexes()...) {
		for _, bucket := range wrongBuckets() {
			holdAll(t, handed{key: someMaster(), at: math.MaxUint64, index: index, entry: api.Entry{Bucket: bucket}, b: make([]byte, 80)})
		}
	}
	for _, n := range []int{1000, 100000, 3000000} {
		for _, each := range []byte{0, 1, 67, 127, 128, 255} {
			holdAll(t, handed{key: someMaster(), at: 5, index: 3, b: repeated(each, n)})
			holdSplit(t, blockAsSaid(repeated(each, n)))
			holdOpen(t, someMaster(), api.State{}, asSigned(append([]byte("CSK1"), repeated(each, n)...)))
		}
	}
}

// An archive whose manifest says that there are many great chunks, and that has none of them.
func TestManyEntriesAndNoChunks(t *testing.T) {
	entries := make([]api.Entry, api.MaxChunks)
	for i := range entries {
		entries[i].Bucket = 8
	}
	b := asSigned(manifestOf(t, entries...))
	wantError(t, "Split", holdSplit(t, b), api.ErrShort)
	wantError(t, "Open", holdOpen(t, someMaster(), api.State{}, b), api.ErrShort)
}

func FuzzAll(f *testing.F) {
	b, s, _ := Build(someMaster(), api.State{}, 5, fewChunks())
	f.Add([]byte(nil), []byte(nil), uint64(0), uint64(0), 0, "", 0, []byte(nil))
	f.Add(someMaster(), s.Root, uint64(5), uint64(6), 3, "a", 0, b)
	f.Add(someMaster(), s.Root, uint64(6), uint64(5), 1<<20-1, "b", 1, b[:len(b)-80])
	f.Add(someMaster()[:31], s.Root[:31], uint64(math.MaxUint64), uint64(math.MaxUint64), 1<<20, longTenants()[0], -1, b[len(b)-80:])
	f.Fuzz(func(t *testing.T, key, root []byte, version, at uint64, index int, tenant string, bucket int, b []byte) {
		c := of(tenant, even(len(b)%9)...)
		holdAll(t, handed{key: key, state: api.State{Version: version, Root: root}, at: at, index: index, c: c, l: []api.Chunk{c, of("a"), c}, entry: api.Entry{Tenant: tenant, Bucket: bucket}, b: b})
	})
}
