package reader

import (
	"bytes"
	"fmt"
	"math"
	"math/rand"
	"reflect"
	"slices"
	"strings"
	"testing"

	"casket/api"
	"casket/archive"
)

// What the tests of this package are made of: things to hand in, the chapter's words by a plain way of their own, and what is wanted.

// mixed are n bytes that tell their places apart.
func mixed(n int, from byte) []byte {
	out := make([]byte, n)
	for i := range out {
		out[i] = byte(i*7) + from
	}
	return out
}

func repeated(v byte, n int) []byte { return bytes.Repeat([]byte{v}, n) }

func someMaster() []byte { return mixed(32, 3) }

func anotherMaster() []byte { return mixed(32, 4) }

// someRoot is no archive's.
func someRoot() []byte { return mixed(32, 100) }

// wrongMasters have another length than 32.
func wrongMasters() [][]byte {
	out := [][]byte{nil, {}, someMaster()[:0], someMaster()[:31], someMaster()[1:]}
	for _, n := range []int{1, 16, 31, 33, 64, 288, 65536 + 32} {
		out = append(out, mixed(n, 3), repeated(0, n))
	}
	return out
}

// wrongStates are not right: their Root is neither empty nor of 32 bytes.
func wrongStates() []api.State {
	var out []api.State
	for _, n := range []int{1, 2, 16, 31, 33, 64, 288} {
		for _, version := range []uint64{0, 3, math.MaxUint64} {
			out = append(out, api.State{Version: version, Root: mixed(n, 9)}, api.State{Version: version, Root: repeated(0, n)})
		}
	}
	return out
}

func goodVersions() []uint64 {
	return []uint64{0, 1, 2, 255, 256, 258, 65536, 1<<32 - 1, 1 << 32, 0x0102030405060708, 1<<63 - 1, 1 << 63, math.MaxUint64 - 2, math.MaxUint64 - 1}
}

// trustNothing are states with an empty Root, whose Version does not count.
func trustNothing() []api.State {
	var out []api.State
	for _, version := range append(goodVersions(), 3, math.MaxUint64) {
		out = append(out, api.State{Version: version}, api.State{Version: version, Root: []byte{}}, api.State{Version: version, Root: someRoot()[:0]})
	}
	return out
}

func goodTenants() []string {
	return []string{"", "a", "b", "ab", "\x00", "a\x00", "\xff\xfe", "é", strings.Repeat("x", 63), strings.Repeat("x", 64), strings.Repeat("\x00", 64)}
}

// even are n samples that take few bytes.
func even(n int) []api.Sample {
	out := make([]api.Sample, n)
	for i := range out {
		out[i] = api.Sample{T: 1000 * i, V: 5}
	}
	return out
}

// wild are n samples that take as many bytes as samples may.
func wild(n int, seed int64) []api.Sample {
	random := rand.New(rand.NewSource(seed))
	out := make([]api.Sample, n)
	for i := range out {
		out[i] = api.Sample{T: int(random.Uint64()), V: random.Uint64()}
	}
	return out
}

func of(tenant string, samples ...api.Sample) api.Chunk { return api.Chunk{Tenant: tenant, S: samples} }

// someChunks are of several tenants, numbers of samples and buckets; the first two are the same, and one tenant has several.
func someChunks() []api.Chunk {
	return []api.Chunk{
		of("a", api.Sample{T: 1, V: 2}, api.Sample{T: 3, V: 4}),
		of("a", api.Sample{T: 1, V: 2}, api.Sample{T: 3, V: 4}),
		of("b"),
		of(""),
		of(strings.Repeat("x", 64), even(3)...),
		of("b", wild(10, 1)...),
		of("a", even(100)...),
		of("\xff", api.Sample{T: math.MinInt, V: math.MaxUint64}, api.Sample{T: math.MaxInt, V: 0}),
		of("a", wild(60, 2)...),
	}
}

// fewChunks are for tests that go through each bit of an archive.
func fewChunks() []api.Chunk {
	return []api.Chunk{of("a", even(2)...), of("b"), of("a", api.Sample{T: 9, V: 9})}
}

// randomChunks are of few tenants, most of them short.
func randomChunks(random *rand.Rand) []api.Chunk {
	out := make([]api.Chunk, random.Intn(1<<random.Intn(5)))
	for i := range out {
		out[i].Tenant = goodTenants()[random.Intn(len(goodTenants()))]
		out[i].S = wild(random.Intn(1<<random.Intn(6)), random.Int63())
		if random.Intn(2) == 0 {
			out[i].S = even(random.Intn(300))
		}
	}
	return out
}

// built is an archive that must be built.
func built(t testing.TB, master []byte, prev api.State, version uint64, l ...api.Chunk) ([]byte, api.State) {
	t.Helper()
	b, s, e := archive.Build(master, prev, version, l)
	if e != api.OK {
		t.Fatalf("an archive of version %d and %d chunks: error %d", version, len(l), int(e))
	}
	return b, s
}

// eachBit calls ask with each bit of b turned, of a copy.
func eachBit(b []byte, ask func(at, bit int, turned []byte)) {
	for at := range b {
		for bit := range 8 {
			turned := slices.Clone(b)
			turned[at] ^= 1 << bit
			ask(at, bit, turned)
		}
	}
}

// turnedAt is b with a bit of one byte turned, counted from its end.
func turnedAt(b []byte, behind int) []byte {
	out := slices.Clone(b)
	out[len(out)-behind] ^= 1
	return out
}

// thing is what may be offered, with what its maker knows of it.
type thing struct {
	what  string
	b     []byte
	l     []api.Chunk
	state api.State
	early api.Errno // what is told of it, whatever is trusted
	late  api.Errno // what is told of it, unless it is a rollback or a fork
}

// archiveOf is one that is taken, if what is trusted allows it.
func archiveOf(t testing.TB, what string, prev api.State, version uint64, l ...api.Chunk) thing {
	t.Helper()
	b, s := built(t, someMaster(), prev, version, l...)
	return thing{what: what, b: b, l: l, state: s}
}

func refused(what string, b []byte, e api.Errno) thing { return thing{what: what, b: b, early: e} }

// archives are of few versions; of some there are several.
func archives(t testing.TB) []thing {
	t.Helper()
	nobodys := api.State{Version: 1, Root: someRoot()}
	two := archiveOf(t, "version 2", api.State{}, 2, of("a"))
	three := archiveOf(t, "version 3", two.state, 3, of("a", even(2)...))
	return []thing{
		archiveOf(t, "version 0, of no chunks", api.State{}, 0),
		two,
		three,
		archiveOf(t, "version 3 on another state", nobodys, 3, of("a", even(2)...)),
		archiveOf(t, "another one of version 3", two.state, 3, of("b")),
		archiveOf(t, "version 4 of no chunks", three.state, 4),
		archiveOf(t, "version 4", three.state, 4, of("a"), of("b")),
		archiveOf(t, "version 2^64 - 2, of no chunks", api.State{}, math.MaxUint64-1),
	}
}

// wrongThings are none that anybody takes.
func wrongThings(t testing.TB) []thing {
	t.Helper()
	three := archives(t)[2]
	theirs, _ := built(t, anotherMaster(), api.State{}, 3, of("a", even(2)...))
	greater, _ := built(t, anotherMaster(), api.State{}, 9)
	turnedChunk := three
	turnedChunk.what, turnedChunk.b, turnedChunk.late = "version 3 with a byte of a chunk turned", turnedAt(three.b, 1), api.ErrAuth
	return []thing{
		refused("nil", nil, api.ErrShort),
		refused("no bytes", []byte{}, api.ErrShort),
		refused("a version cut off", three.b[:len(three.b)-1], api.ErrShort),
		refused("a version and a byte", slices.Concat(three.b, []byte{0}), api.ErrForm),
		refused("what is too long", []byte{255, 255, 255, 255, 255, 255, 255, 255, 255, 1}, api.ErrLong),
		refused("a version whose signature is turned", turnedAt(three.b, 80+1), api.ErrAuth),
		refused("a version of another master", theirs, api.ErrAuth),
		refused("a greater version of another master", greater, api.ErrAuth),
		turnedChunk,
	}
}

// someTrusts are what a reader may begin with.
func someTrusts(t testing.TB) []api.State {
	t.Helper()
	l := archives(t)
	return []api.State{
		{},
		{Version: 9},
		{Version: 0, Root: someRoot()},
		{Version: 2, Root: someRoot()},
		{Version: 3, Root: someRoot()},
		l[0].state, l[1].state, l[2].state, l[4].state, l[5].state, l[7].state,
		{Version: math.MaxUint64, Root: someRoot()},
	}
}

// The chapter's words, by two plain ways: one asks archive.Open what is told of each thing, the other what the thing's maker knows of it.

func trusts(s api.State) bool { return len(s.Root) > 0 }

// said is a reader by the chapter's words.
type said struct {
	master         []byte
	state          api.State
	taken, refused int
}

// newAsSaid is P24.1.
func newAsSaid(master []byte, trusted api.State) (*said, api.Errno) {
	if len(master) != 32 || len(trusted.Root) != 0 && len(trusted.Root) != 32 {
		return nil, api.ErrArg
	}
	s := &said{master: slices.Clone(master)}
	if len(trusted.Root) == 32 {
		s.state = api.State{Version: trusted.Version, Root: slices.Clone(trusted.Root)}
	}
	return s, api.OK
}

// offer is P24.2.
func (s *said) offer(b []byte) ([]api.Chunk, api.Errno) {
	l, state, e := archive.Open(slices.Clone(s.master), api.State{Version: s.state.Version, Root: slices.Clone(s.state.Root)}, slices.Clone(b))
	if e != api.OK {
		s.refused++
		return nil, e
	}
	s.taken, s.state = s.taken+1, state
	return l, api.OK
}

// known is what is told of a thing by who trusts a state.
func known(trusted api.State, x thing) api.Errno {
	switch {
	case x.early != api.OK:
		return x.early
	case trusts(trusted) && x.state.Version < trusted.Version:
		return api.ErrRollback
	case trusts(trusted) && x.state.Version == trusted.Version && !bytes.Equal(x.state.Root, trusted.Root):
		return api.ErrFork
	}
	return x.late
}

// What is wanted.

func sameChunk(a, b api.Chunk) bool { return a.Tenant == b.Tenant && slices.Equal(a.S, b.S) }

func sameChunks(a, b []api.Chunk) bool { return slices.EqualFunc(a, b, sameChunk) }

func sameState(a, b api.State) bool { return a.Version == b.Version && bytes.Equal(a.Root, b.Root) }

// none asks for zero values themselves, whose lists are nil.
func none(v ...any) bool {
	return !slices.ContainsFunc(v, func(each any) bool { return !reflect.ValueOf(each).IsZero() })
}

// brief is a beginning, since some things are long.
func brief(v any) string { return fmt.Sprintf("%.300s", fmt.Sprint(v)) }

func wantBytes(t *testing.T, what string, got, want []byte) {
	t.Helper()
	if !bytes.Equal(got, want) {
		t.Errorf("%s: %d bytes %s; want %d %s", what, len(got), brief(got), len(want), brief(want))
	}
}

func wantError(t *testing.T, what string, got, want api.Errno) {
	t.Helper()
	if got != want {
		t.Errorf("%s: error %d; want %d", what, int(got), int(want))
	}
}

func wantState(t *testing.T, what string, got, want api.State) {
	t.Helper()
	if !sameState(got, want) {
		t.Errorf("%s: the state %s; want %s", what, brief(got), brief(want))
	}
}

func wantCounts(t *testing.T, what string, r *Reader, taken, refused int) {
	t.Helper()
	if n, m := r.Counts(); n != taken || m != refused {
		t.Errorf("%s: %d were taken and %d refused; want %d and %d", what, n, m, taken, refused)
	}
}

func wantChunks(t *testing.T, what string, got, want []api.Chunk) {
	t.Helper()
	if !sameChunks(got, want) {
		t.Errorf("%s: the chunks %s; want %s", what, brief(got), brief(want))
	}
}

// pair is a reader, and what the chapter says of it.
type pair struct {
	r *Reader
	s *said
}

// made is a pair that must be made.
func made(t testing.TB, master []byte, trusted api.State) pair {
	t.Helper()
	r, e := New(master, trusted)
	s, f := newAsSaid(master, trusted)
	if e != api.OK || f != api.OK || r == nil {
		t.Fatalf("New(%s, %s): error %d", brief(master), brief(trusted), int(e))
	}
	return pair{r, s}
}

// hold holds what a reader tells of itself against the chapter's words; twice, since asking turns nothing.
func (p pair) hold(t *testing.T, what string) {
	t.Helper()
	for range 2 {
		wantState(t, what, p.r.State(), p.s.state)
		wantCounts(t, what, p.r, p.s.taken, p.s.refused)
	}
}

// offer holds an Offer, and what the reader tells behind it, against the chapter's words, asks that nothing stands beside an error, and tells the error.
func (p pair) offer(t *testing.T, what string, b []byte) api.Errno {
	t.Helper()
	got, e := p.r.Offer(b)
	want, f := p.s.offer(b)
	if !sameChunks(got, want) || e != f || e != api.OK && !none(got) {
		t.Errorf("%s: Offer(%d bytes %s): %s, error %d; want %s, error %d", what, len(b), brief(b), brief(got), int(e), brief(want), int(f))
	}
	p.hold(t, what)
	return e
}

// offerThing is an offer of a thing whose maker knows what it must tell.
func (p pair) offerThing(t *testing.T, x thing) api.Errno {
	t.Helper()
	before := p.r.State()
	want := known(before, x)
	wantError(t, x.what, p.offer(t, x.what, x.b), want)
	if want == api.OK {
		wantState(t, x.what+", which is taken", p.r.State(), x.state)
	} else {
		wantState(t, x.what+", which is refused", p.r.State(), before)
	}
	return want
}
