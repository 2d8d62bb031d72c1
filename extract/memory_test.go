package extract

import (
	"fmt"
	"math"
	"math/rand"
	"slices"
	"sync"
	"testing"

	"casket/api"
)

// R3

// part is a list that is handed in or answered; text tells what is in it, but not what stands in lists inside of it, which are parts of their own.
type part interface {
	text() string
	overwrite()
}

type bytesPart []byte

func (p bytesPart) text() string { return fmt.Sprint([]byte(p)) }

func (p bytesPart) overwrite() {
	for i := range p {
		p[i] ^= 255
	}
}

type samplesPart []api.Sample

func (p samplesPart) text() string { return fmt.Sprint([]api.Sample(p)) }

func (p samplesPart) overwrite() {
	for i := range p {
		p[i] = api.Sample{T: ^p[i].T, V: ^p[i].V}
	}
}

type entriesPart []api.Entry

func (p entriesPart) text() string { return fmt.Sprint([]api.Entry(p)) }

func (p entriesPart) overwrite() {
	for i := range p {
		p[i] = api.Entry{Tenant: "overwritten", Bucket: 8 - i%9}
	}
}

type foundPart []Found

func (p foundPart) text() string {
	out := ""
	for _, each := range p {
		out += fmt.Sprintf("%d %q %d;", each.Index, each.Chunk.Tenant, len(each.Chunk.S))
	}
	return out
}

func (p foundPart) overwrite() {
	for i := range p {
		p[i] = Found{-i, of("overwritten", even(i+1)...)}
	}
}

type piecesPart [][]byte

func (p piecesPart) text() string {
	out := ""
	for _, b := range p {
		out += fmt.Sprint(len(b), ";")
	}
	return out
}

func (p piecesPart) overwrite() {
	for i := range p {
		p[i] = mixed(i, 9)
	}
}

// memory is all parts of something.
type memory []part

func (m memory) text() string {
	out := ""
	for _, p := range m {
		out += p.text() + "\n"
	}
	return out
}

func (m memory) overwrite() {
	for _, p := range m {
		p.overwrite()
	}
}

// all is a list with what stands behind its end in the same memory, if that is asked for.
func all[T any](list []T, behind bool) []T {
	if behind {
		return list[:cap(list)]
	}
	return list
}

// withRoom is a list with others behind it in the same memory, which are no call's either.
func withRoom[T any](list []T, others ...T) []T {
	return slices.Clip(slices.Concat(list, others))[:len(list)]
}

func bytesWithRoom(b []byte) []byte { return withRoom(b, mixed(100, 99)...) }

func piecesWithRoom(pieces [][]byte) [][]byte {
	out := withRoom(pieces, mixed(5, 1), mixed(32, 2))
	for i := range out {
		out[i] = bytesWithRoom(out[i])
	}
	return out
}

// piecesMemory is a list's and all of its pieces'.
func piecesMemory(pieces [][]byte, behind bool) memory {
	var out memory
	for _, b := range pieces {
		out = append(out, bytesPart(all(b, behind)))
	}
	return append(out, piecesPart(all(pieces, behind)))
}

// handed is what the calls are handed.
type handed struct {
	root, key     []byte
	tenant        string
	b             []byte
	i, j          int // of Extract; j is how many places there are, of Verify
	sealed, proof [][]byte
}

func (h handed) withRoom() handed {
	out := h
	out.root, out.key, out.b = bytesWithRoom(h.root), bytesWithRoom(h.key), bytesWithRoom(h.b)
	out.sealed, out.proof = piecesWithRoom(h.sealed), piecesWithRoom(h.proof)
	return out
}

// memory is all that was handed in, and what stands behind it.
func (h handed) memory() memory {
	out := memory{bytesPart(all(h.root, true)), bytesPart(all(h.key, true)), bytesPart(all(h.b, true))}
	out = append(out, piecesMemory(all(h.sealed, true), true)...)
	return append(out, piecesMemory(all(h.proof, true), true)...)
}

// answer is what a call answers.
type answer struct {
	b     []byte
	r     Range
	found []Found
	ok    bool
	e     api.Errno
}

// memory is an answer's lists, and what stands behind their ends, if that is asked for.
func (a answer) memory(behind bool) memory {
	m := a.r.Manifest
	out := memory{bytesPart(all(a.b, behind)), bytesPart(all(m.Prev, behind)), entriesPart(all(m.Entries, behind)), bytesPart(all(m.Root, behind))}
	out = append(out, piecesMemory(a.r.Sealed, behind)...)
	out = append(out, piecesMemory(a.r.Proof, behind)...)
	for _, each := range a.found {
		out = append(out, samplesPart(all(each.Chunk.S, behind)))
	}
	return append(out, foundPart(all(a.found, behind)))
}

func (a answer) text() string {
	return fmt.Sprint(a.memory(false).text(), a.r.Manifest.Version, a.r.First, a.ok, int(a.e))
}

// call is one of the package's, with what it is handed.
type call struct {
	what string
	h    handed
	ask  func(h handed) answer
}

func extract(h handed) (a answer) {
	a.b, a.e = Extract(h.b, h.i, h.j)
	return a
}

func read(h handed) (a answer) {
	a.r, a.e = Read(h.b)
	return a
}

func verify(h handed) (a answer) {
	a.ok = Verify(h.root, h.j, h.i, h.sealed, h.proof)
	return a
}

func tenant(h handed) (a answer) {
	a.found, a.e = Tenant(h.root, h.key, h.tenant, h.b)
	return a
}

// calls are all of the package's, with what they take and what they refuse.
func calls(t *testing.T) []call {
	t.Helper()
	var out []call
	for _, l := range [][]api.Chunk{fewChunks()[:1], fewChunks(), someChunks()} {
		w := built(t, l...)
		for _, r := range [][2]int{{0, 0}, {0, len(l) - 1}, {len(l) / 2, len(l) - 1}} {
			i, j := r[0], r[1]
			x := extracted(t, w.b, i, j)
			name := fmt.Sprint(" of ", i, " to ", j, " of ", len(l))
			sealed, proof := w.sealed[i:j+1], proofAsSaid(leavesAsSaid(w.sealed), 0, i, j)
			key := keyOf(t, "a")
			out = append(out,
				call{"Extract" + name, handed{b: w.b, i: i, j: j}, extract},
				call{"Extract beyond" + name, handed{b: w.b, i: i, j: len(l)}, extract},
				call{"Extract of a beginning" + name, handed{b: w.b[:len(w.b)-1], i: i, j: j}, extract},
				call{"Read" + name, handed{b: x}, read},
				call{"Read of a beginning" + name, handed{b: x[:len(x)-1]}, read},
				call{"Read of a byte more" + name, handed{b: append(slices.Clone(x), 0)}, read},
				call{"Verify" + name, handed{root: w.s.Root, j: len(l), i: i, sealed: sealed, proof: proof}, verify},
				call{"Verify by another root" + name, handed{root: someRoot(), j: len(l), i: i, sealed: sealed, proof: proof}, verify},
				call{"Verify of a sum more" + name, handed{root: w.s.Root, j: len(l), i: i, sealed: sealed, proof: append(slices.Clone(proof), someRoot())}, verify},
				call{"Tenant" + name, handed{root: w.s.Root, key: key, tenant: "a", b: x}, tenant},
				call{"Tenant of nobody's" + name, handed{root: w.s.Root, key: key, tenant: "nobody's", b: x}, tenant},
				call{"Tenant by another key" + name, handed{root: w.s.Root, key: someKey(), tenant: "a", b: x}, tenant},
				call{"Tenant by another root" + name, handed{root: someRoot(), key: key, tenant: "a", b: x}, tenant},
				call{"Tenant of a byte more" + name, handed{root: w.s.Root, key: key, tenant: "a", b: append(slices.Clone(x), 0)}, tenant},
			)
		}
	}
	alike := layWhole(asSigned(textOf(t, manifestOf(make([]api.Entry, 3)...))), 0, 1, [][]byte{mixed(80, 1), mixed(80, 1)}, [][]byte{someRoot(), someRoot()})
	return append(out, call{"Read of pieces that are alike", handed{b: alike}, read})
}

func wantText(t *testing.T, what, got, want string) {
	t.Helper()
	if got != want {
		t.Errorf("%s: %s; want %s", what, brief(got), brief(want))
	}
}

func TestWhatIsHandedInIsNotChanged(t *testing.T) {
	for _, x := range calls(t) {
		h := x.h.withRoom()
		before := h.memory().text()
		x.ask(h)
		wantText(t, x.what+": what was handed in", h.memory().text(), before)
	}
}

func TestWhatIsHandedInIsNotKept(t *testing.T) {
	for _, x := range calls(t) {
		want := x.ask(x.h).text()
		h := x.h.withRoom()
		got := x.ask(h)
		wantText(t, x.what, got.text(), want)
		h.memory().overwrite()
		wantText(t, x.what+", of what is changed behind the call", got.text(), want)
		wantText(t, x.what+", asked once more", x.ask(x.h).text(), want)
	}
}

func TestAnAnswerIsItsHoldersOwn(t *testing.T) {
	for _, x := range calls(t) {
		h := x.h.withRoom()
		before := h.memory().text()
		want := x.ask(h).text()
		held, another := x.ask(h), x.ask(h)
		held.memory(true).overwrite()
		wantText(t, x.what+": another answer", another.text(), want)
		wantText(t, x.what+": what was handed in", h.memory().text(), before)
		wantText(t, x.what+": one that is asked later", x.ask(h).text(), want)
	}
}

func TestNoTwoListsOfAnAnswerShareMemory(t *testing.T) {
	for _, x := range calls(t) {
		for k := range x.ask(x.h).memory(false) {
			got := x.ask(x.h)
			lists := got.memory(false)
			var before []string
			for _, p := range lists {
				before = append(before, p.text())
			}
			got.memory(true)[k].overwrite()
			for other, p := range lists {
				if other != k {
					wantText(t, fmt.Sprint(x.what, ": the list ", other, " beside ", k, ", which is changed"), p.text(), before[other])
				}
			}
		}
	}
}

func TestNothingIsKeptBetweenCalls(t *testing.T) {
	every := calls(t)
	for _, x := range every {
		want := x.ask(x.h).text()
		for _, other := range every {
			other.ask(other.h)
			wantText(t, x.what+" behind "+other.what, x.ask(x.h).text(), want)
		}
	}
}

// Calls that run at the same time, on the same things, know nothing of each other.
func TestCallsAtTheSameTime(t *testing.T) {
	for _, x := range calls(t) {
		want := x.ask(x.h).text()
		var group sync.WaitGroup
		got := make([]string, 8)
		for i := range got {
			group.Go(func() { got[i] = x.ask(x.h).text() })
		}
		group.Wait()
		for _, each := range got {
			wantText(t, x.what+" at the same time", each, want)
		}
	}
}

// Whoever changes what was handed in, or an answer, and asks again, is answered by what is there now.
func TestThingsAsTheyAreNow(t *testing.T) {
	w := built(t, fewChunks()...)
	root, key, b := slices.Clone(w.s.Root), keyOf(t, "a"), slices.Clone(w.b)
	x := extracted(t, b, 1, 3)
	r := readBack(t, x)
	wantError(t, "as it is", holdTenant(t, root, key, "a", x), api.OK)
	b[len(b)-100] ^= 1 // in the chunk at 3
	wantError(t, "an archive that has changed", holdExtract(t, b, 1, 3), api.OK)
	wantError(t, "its range", holdTenant(t, root, key, "a", extracted(t, b, 1, 3)), api.ErrProof)
	wantError(t, "the range of ahead", holdTenant(t, root, key, "a", x), api.OK)
	r.Sealed[0][7] ^= 1
	wantVerify(t, "a chunk that has changed", holdVerify(t, root, 5, 1, r.Sealed, r.Proof), false)
	r.Sealed[0][7] ^= 1
	wantVerify(t, "and is as it was", holdVerify(t, root, 5, 1, r.Sealed, r.Proof), true)
	r.Proof[0][31] ^= 1
	wantVerify(t, "a sum that has changed", holdVerify(t, root, 5, 1, r.Sealed, r.Proof), false)
	key[0] ^= 1
	wantError(t, "a key that has changed", holdTenant(t, root, key, "a", x), api.ErrAuth)
	root[0] ^= 1
	key[0] ^= 1
	wantError(t, "a root that has changed", holdTenant(t, root, key, "a", x), api.ErrAuth)
	root[0] ^= 1
	x[len(x)-1] ^= 1
	wantError(t, "a range that has changed", holdTenant(t, root, key, "a", x), api.ErrProof)
}

// R1

// holdAll holds what all calls answer against the chapter's words, whatever is handed in.
func holdAll(t *testing.T, h handed) {
	t.Helper()
	holdExtract(t, h.b, h.i, h.j)
	holdRead(t, h.b)
	holdVerify(t, h.root, h.j, h.i, h.sealed, h.proof)
	holdTenant(t, h.root, h.key, h.tenant, h.b)
}

// anything is what a call may be handed, most of it wrong.
func anything(random *rand.Rand, good ...[]byte) handed {
	lengths := []int{0, 1, 31, 32, 32, 32, 32, 33}
	tenants := append(goodTenants(), longTenants()[:3]...)
	h := handed{
		root:   mixed(lengths[random.Intn(8)], 100),
		key:    mixed(lengths[random.Intn(8)], byte(random.Intn(256))),
		tenant: tenants[random.Intn(len(tenants))],
		i:      int(random.Uint64()) >> random.Intn(64),
		j:      int(random.Uint64()) >> random.Intn(64),
		b:      make([]byte, random.Intn(400)),
	}
	random.Read(h.b)
	for range random.Intn(5) {
		h.sealed = append(h.sealed, mixed(random.Intn(100), byte(random.Intn(256))))
	}
	for range random.Intn(5) {
		h.proof = append(h.proof, mixed(lengths[random.Intn(8)], byte(random.Intn(256))))
	}
	switch random.Intn(3) {
	case 0: // the beginning of a block that holds a manifest's
		h.b = slices.Concat([]byte{byte(110 + random.Intn(18)), byte(random.Intn(2))}[:1+random.Intn(2)], []byte("CSK1"), h.b)
	case 1: // something that was good, turned at a few places
		h.b = slices.Clone(good[random.Intn(len(good))])
		for range random.Intn(4) {
			at := random.Intn(len(h.b))
			h.b = slices.Replace(h.b, at, min(at+random.Intn(3), len(h.b)), mixed(random.Intn(3), byte(random.Intn(256)))...)
		}
	}
	return h
}

func TestNothingPanics(t *testing.T) {
	w := built(t, fewChunks()...)
	good := [][]byte{w.b, extracted(t, w.b, 0, 4), extracted(t, w.b, 1, 3), extracted(t, w.b, 2, 2)}
	random := rand.New(rand.NewSource(24))
	for k := range 20000 {
		h := anything(random, good...)
		if k%2 == 0 {
			h.root, h.key, h.tenant = w.s.Root, keyOf(t, "a"), "a"
		}
		if k%3 == 0 {
			h.i, h.j = random.Intn(6), random.Intn(6)
		}
		holdAll(t, h)
	}
	holdAll(t, handed{})
	holdAll(t, handed{root: someRoot(), key: someKey()})
	for _, i := range append(farNumbers(), 0, 1) {
		for _, j := range append(farNumbers(), 0, 1) {
			for _, b := range good {
				holdAll(t, handed{root: w.s.Root, key: someKey(), b: b, i: i, j: j, sealed: w.sealed, proof: [][]byte{{}}})
			}
		}
	}
	for _, n := range []int{1000, 100000, 3000000} {
		for _, each := range []byte{0, 1, 67, 127, 128, 255} {
			holdAll(t, handed{root: someRoot(), key: someKey(), b: repeated(each, n)})
			holdRead(t, blockAsSaid(repeated(each, n)))
			holdRead(t, asSigned(append([]byte("CSK1"), repeated(each, n)...)))
			holdRead(t, slices.Concat(blockAsSaid(w.signed), repeated(each, n)))
		}
	}
}

// What says that there are many great chunks, and has none of them.
func TestManyEntriesAndNoChunks(t *testing.T) {
	entries := make([]api.Entry, api.MaxChunks)
	for i := range entries {
		entries[i].Bucket = 8
	}
	head := asSigned(textOf(t, manifestOf(entries...)))
	for _, more := range []uint64{0, 1, api.MaxChunks - 1} {
		b := slices.Concat(head, []byte{0}, varintAsSaid(more), make([]byte, 100))
		wantError(t, "Read", holdRead(t, b), api.ErrShort)
		wantError(t, "Tenant", holdTenant(t, someRoot(), someKey(), "", b), api.ErrShort)
	}
	for _, more := range []uint64{api.MaxChunks, math.MaxUint64} {
		wantError(t, "Read", holdRead(t, slices.Concat(head, []byte{0}, varintAsSaid(more), make([]byte, 100))), api.ErrForm)
	}
}

func FuzzAll(f *testing.F) {
	w := built(f, fewChunks()...)
	x, _ := Extract(w.b, 1, 3)
	f.Add([]byte(nil), []byte(nil), "", 0, 0, []byte(nil))
	f.Add(w.s.Root, someKey(), "a", 1, 3, x)
	f.Add(w.s.Root, someKey(), "nobody's", 0, 4, w.b)
	f.Add(w.s.Root[:31], someKey()[:31], longTenants()[0], -1, 1<<20, x[:len(x)-1])
	f.Fuzz(func(t *testing.T, root, key []byte, tenant string, i, j int, b []byte) {
		holdAll(t, handed{root: root, key: key, tenant: tenant, b: b, i: i, j: j})
		r, e := Read(b)
		if e == api.OK {
			holdVerify(t, root, len(r.Manifest.Entries), r.First, r.Sealed, r.Proof)
			holdTenant(t, r.Manifest.Root, someKey(), tenant, b)
		}
	})
}
