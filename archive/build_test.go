package archive

import (
	"bytes"
	"fmt"
	"math"
	"math/rand"
	"slices"
	"strings"
	"testing"

	"casket/api"
	"casket/keys"
)

// P22.3

func TestTheChaptersExample(t *testing.T) {
	for _, l := range [][]api.Chunk{nil, {}, someChunks()[:0]} {
		b, s, e := Build(someMaster(), api.State{}, 1, l)
		if e != api.OK || len(b) != 111 || b[0] != 110 || s.Version != 1 {
			t.Fatalf("Build of no chunks: %d bytes %s, %s, error %d; want a block of 110 bytes", len(b), brief(b), brief(s), int(e))
		}
		wantBytes(t, "the root of no chunks", s.Root, sum())
		wantOpened(t, "no chunks", someMaster(), s, b, nil, s)
		wantError(t, "a greater version", holdOpen(t, someMaster(), api.State{Version: 2, Root: s.Root}, b), api.ErrRollback)
	}
}

// Archives that were put together by the chapters' words outside of this program, on another one's HMAC and SHA-256.
func TestWrittenOutArchives(t *testing.T) {
	for _, x := range []struct {
		prev    api.State
		version uint64
		l       []api.Chunk
		want    string
	}{
		{api.State{}, 1, nil, "6e43534b31000000000000000100000000000000000000000000000000000000" +
			"000000000000000000000000000000e3b0c44298fc1c149afbf4c8996fb92427" +
			"ae41e4649b934ca495991b7852b855fea745a4f68e3ccbf09a936202323e2230" +
			"3f72d112aa1c71ad2b61a94992146b"},
		{api.State{Version: 7, Root: someRoot()}, 258, []api.Chunk{of("b"), of("a", api.Sample{T: 5, V: 7})},
			"7643534b310000000000000102646b727980878e959ca3aab1b8bfc6cdd4dbe2" +
				"e9f0f7fe050c131a21282f363d020161016202010000009dc049beaedd863f1d" +
				"cc45fd564a155ff711ce09b50312d5fbdf8e1fd7df8b314ec1f3bd8257647175" +
				"a999fb3693b6dfb062486952fe4860fa5fc56b0e68853c8091da847e7552be3b" +
				"8c8d0352b3a496a096395352a10b0461614bb6263bef854962b3f2e44ecee404" +
				"4a2f7bee6fa66f5356bbadee0ea3ba5fc823b4414832fd742c4d79682cc26049" +
				"b9a06af5f2b4784ca454ed14e2c6d2ea5d898a1d036edb2f5125c3fc3f441874" +
				"b8e3ae33207a0a4a882a84b6684374b60aa2396d1724b5b1b10ffd66e9d95ff6" +
				"58fd5892b4e0ec34843d71200eeccc7fe3f6399ec75597"},
	} {
		b, s := built(t, someMaster(), x.prev, x.version, x.l...)
		wantBytes(t, "Build", b, unhex(t, x.want))
		wantOpened(t, "what is written out", someMaster(), s, unhex(t, x.want), x.l, s)
	}
}

func TestTheSumOfAWrittenOutArchive(t *testing.T) {
	a := of("a", api.Sample{T: 5, V: 7})
	b, s := built(t, someMaster(), api.State{}, math.MaxUint64-1, a, of(strings.Repeat("x", 64)), of(""), a, of("b"))
	if len(b) != 784 {
		t.Errorf("%d bytes; want 784", len(b))
	}
	wantBytes(t, "the root", s.Root, unhex(t, "94fd2a127467cdaa48949cb4f00519d20c0e7ef86c8347fa0e1c1bab0be5cf6a"))
	wantBytes(t, "the sum of all bytes", sum(b), unhex(t, "70ea788141d5756ce6ac7870611de398452ca89db75a86a4f5304c32f4b8f7a1"))
}

func TestArchivesAsSaid(t *testing.T) {
	for _, master := range goodKeys() {
		for _, l := range someArchives() {
			wantBuiltAndBack(t, master, api.State{}, 5, l)
			wantBuiltAndBack(t, master, api.State{Version: 4, Root: someRoot()}, 5, l)
		}
	}
}

func TestArchivesOfEveryNumberOfChunks(t *testing.T) {
	for n := range 34 {
		l := make([]api.Chunk, n)
		for i := range l {
			l[i] = of(fmt.Sprint("tenant ", i%5), even(i)...)
		}
		wantBuiltAndBack(t, someMaster(), api.State{}, 5, l)
	}
}

func TestArchivesOfManyTenants(t *testing.T) {
	var each, thrice []api.Chunk
	for i, tenant := range goodTenants() {
		each = append(each, of(tenant, even(i)...))
		thrice = append(thrice, of(tenant), of(tenant), of("a"))
	}
	wantBuiltAndBack(t, someMaster(), api.State{}, 5, each)
	wantBuiltAndBack(t, someMaster(), api.State{}, 5, thrice)
	slices.Reverse(each)
	wantBuiltAndBack(t, someMaster(), api.State{}, 5, each)
}

func TestArchivesOfEveryBucket(t *testing.T) {
	l := chunksOfEachBucket()
	wantBuiltAndBack(t, someMaster(), api.State{}, 5, l[:7])
	wantBuiltAndBack(t, someMaster(), api.State{}, 5, []api.Chunk{l[8], l[0], l[7]})
}

func TestTheSameChunkOften(t *testing.T) {
	c := of("a", even(2)...)
	wantBuiltAndBack(t, someMaster(), api.State{}, 5, []api.Chunk{c, c, c, c})
	b, _ := built(t, someMaster(), api.State{}, 5, c, c)
	if p := split(t, b); bytes.Equal(p.sealed[0], p.sealed[1]) {
		t.Errorf("the same bytes at two places: %v", p.sealed)
	}
}

func TestVersions(t *testing.T) {
	for _, version := range goodVersions() {
		for _, l := range [][]api.Chunk{nil, someChunks()[:3]} {
			for _, prev := range trustNothing() {
				wantBuiltAndBack(t, someMaster(), prev, version, l)
			}
			if version > 0 {
				wantBuiltAndBack(t, someMaster(), api.State{Version: version - 1, Root: someRoot()}, version, l)
				wantBuiltAndBack(t, someMaster(), api.State{Version: 0, Root: make([]byte, 32)}, version, l)
			}
		}
	}
}

// Prev is the Root of the state, or 32 bytes 0; the state's Version is nowhere in an archive.
func TestWhatAnArchiveSaysOfTheOneAhead(t *testing.T) {
	plain, s := built(t, someMaster(), api.State{}, 5, someChunks()...)
	for _, prev := range trustNothing() {
		b, _ := built(t, someMaster(), prev, 5, someChunks()...)
		wantBytes(t, "a state that trusts nothing", b, plain)
		wantBytes(t, "its Prev", split(t, b).m.Prev, make([]byte, 32))
	}
	one, _ := built(t, someMaster(), api.State{Version: 1, Root: someRoot()}, 5, someChunks()...)
	two, u := built(t, someMaster(), api.State{Version: 4, Root: someRoot()}, 5, someChunks()...)
	wantBytes(t, "a state of another version", one, two)
	wantBytes(t, "its Prev", split(t, one).m.Prev, someRoot())
	if !sameState(s, u) {
		t.Errorf("the state that Build tells hangs on the one ahead: %v, and %v", s, u)
	}
}

// A second archive stands on the state of the first one, a third one on the second one's.
func TestArchivesOnEachOther(t *testing.T) {
	var state api.State
	var all [][]byte
	for i, l := range someArchives() {
		version := uint64(3 * i)
		wantBuiltAndBack(t, someMaster(), state, version, l)
		b, next := built(t, someMaster(), state, version, l...)
		if trusts(state) {
			wantBytes(t, "the Prev", split(t, b).m.Prev, state.Root)
		}
		wantOpened(t, "by the state ahead", someMaster(), state, b, l, next)
		for _, older := range all {
			wantError(t, "an older one by the newer state", holdOpen(t, someMaster(), next, older), api.ErrRollback)
		}
		all = append(all, b)
		state = next
	}
}

func TestBuildByWrongMasters(t *testing.T) {
	for _, master := range wrongKeys() {
		for _, l := range [][]api.Chunk{nil, someChunks(), refusedChunks()} {
			wantError(t, "a wrong master", holdBuild(t, master, api.State{}, 5, l), api.ErrArg)
			wantError(t, "a wrong master and a version that is less", holdBuild(t, master, api.State{Version: 6, Root: someRoot()}, 5, l), api.ErrArg)
		}
	}
}

func TestBuildOnWrongStates(t *testing.T) {
	for _, prev := range wrongStates() {
		for _, version := range []uint64{0, 5, 9, math.MaxUint64 - 1} {
			wantError(t, "a state that is not right", holdBuild(t, someMaster(), prev, version, someChunks()), api.ErrArg)
			wantError(t, "a state that is not right, no chunks", holdBuild(t, someMaster(), prev, version, nil), api.ErrArg)
			wantError(t, "a state that is not right, refused chunks", holdBuild(t, someMaster(), prev, version, refusedChunks()), api.ErrArg)
		}
	}
}

func TestBuildOfTheVersionThatIsNone(t *testing.T) {
	states := append(trustNothing(), api.State{Root: someRoot()}, api.State{Version: math.MaxUint64 - 1, Root: someRoot()}, api.State{Version: math.MaxUint64, Root: someRoot()})
	for _, prev := range states {
		wantError(t, "the version 2^64 - 1", holdBuild(t, someMaster(), prev, math.MaxUint64, someChunks()), api.ErrArg)
		wantError(t, "the version 2^64 - 1, no chunks", holdBuild(t, someMaster(), prev, math.MaxUint64, nil), api.ErrArg)
	}
}

func TestBuildOfVersionsThatAreNotGreater(t *testing.T) {
	for _, x := range []struct {
		trusted, version uint64
		want             api.Errno
	}{
		{0, 0, api.ErrRollback}, {0, 1, api.OK}, {5, 0, api.ErrRollback}, {5, 4, api.ErrRollback}, {5, 5, api.ErrRollback}, {5, 6, api.OK},
		{1 << 63, 1<<63 - 1, api.ErrRollback}, {1 << 63, 1 << 63, api.ErrRollback}, {1<<63 - 1, 1 << 63, api.OK}, {256, 255, api.ErrRollback}, {255, 256, api.OK},
		{math.MaxUint64 - 1, math.MaxUint64 - 1, api.ErrRollback}, {math.MaxUint64 - 2, math.MaxUint64 - 1, api.OK}, {math.MaxUint64, math.MaxUint64 - 1, api.ErrRollback}, {math.MaxUint64, 0, api.ErrRollback},
	} {
		for _, root := range [][]byte{someRoot(), make([]byte, 32)} {
			for _, l := range [][]api.Chunk{nil, someChunks()[:2]} {
				what := fmt.Sprint("version ", x.version, " on ", x.trusted)
				wantError(t, what, holdBuild(t, someMaster(), api.State{Version: x.trusted, Root: root}, x.version, l), x.want)
			}
		}
	}
}

func TestBuildOfRefusedChunksAtAnyPlace(t *testing.T) {
	for _, c := range refusedChunks() {
		for at := range 4 {
			l := slices.Insert(slices.Clone(someChunks()[:3]), at, c)
			wantError(t, fmt.Sprint("a refused chunk at ", at), holdBuild(t, someMaster(), api.State{}, 5, l), api.ErrLong)
		}
	}
	wantError(t, "refused chunks alone", holdBuild(t, someMaster(), api.State{}, 5, refusedChunks()), api.ErrLong)
}

// tooMany has one chunk more than may be; nobody changes it.
func tooMany() []api.Chunk { return make([]api.Chunk, api.MaxChunks+1) }

func TestTooManyChunks(t *testing.T) {
	l := tooMany()
	wantError(t, "one too many", holdBuild(t, someMaster(), api.State{}, 5, l), api.ErrLong)
	wantError(t, "one too many, on a state", holdBuild(t, someMaster(), api.State{Version: 4, Root: someRoot()}, 5, l), api.ErrLong)
	wantError(t, "twice as many", holdBuild(t, someMaster(), api.State{}, 5, slices.Concat(l, l)), api.ErrLong)
}

// As many chunks as may be are built, split and opened; they are empty, since there are many of them.
func TestAsManyChunksAsMayBe(t *testing.T) {
	if testing.Short() {
		t.Skip("it takes long")
	}
	t.Parallel()
	l := tooMany()[:api.MaxChunks]
	l[0], l[api.MaxChunks-1] = of("a", even(2)...), of("b", even(3)...)
	b, s, e := Build(someMaster(), api.State{}, 5, l)
	if want := api.MaxChunks * 80; e != api.OK || len(b) < want || len(s.Root) != 32 {
		t.Fatalf("Build: %d bytes, error %d; want at least %d", len(b), int(e), want)
	}
	wantError(t, "Split", holdSplit(t, b), api.OK)
	if got, u, e := Open(someMaster(), s, b); !sameChunks(got, l) || !sameState(u, s) || e != api.OK {
		t.Errorf("Open: %d chunks, %v, error %d", len(got), u, int(e))
	}
	wantError(t, "a byte too few", holdSplit(t, b[:len(b)-1]), api.ErrShort)
}

// Of several faults the one that the chapter names first is told: each set of them is tried.
func TestSeveralFaultsOfBuild(t *testing.T) {
	many := tooMany()
	errors := []api.Errno{api.ErrArg, api.ErrArg, api.ErrArg, api.ErrRollback, api.ErrLong, api.ErrLong}
	for set := range 1 << len(errors) {
		has := func(k int) bool { return set>>k&1 == 1 }
		master, prev, version, l := someMaster(), api.State{Version: 4, Root: someRoot()}, uint64(5), someChunks()
		if has(0) {
			master = master[:31]
		}
		if has(1) {
			prev.Root = prev.Root[:31]
		}
		if has(2) {
			version = math.MaxUint64
		}
		if has(3) {
			prev.Version = math.MaxUint64
		}
		if has(4) {
			l = many
		}
		if has(5) {
			l = slices.Clone(l)
			l[0] = refusedChunks()[0]
		}
		want := api.OK
		for k := len(errors) - 1; k >= 0; k-- {
			if has(k) {
				want = errors[k]
			}
		}
		wantError(t, fmt.Sprintf("the faults %b", set), holdBuild(t, master, prev, version, l), want)
	}
}

// Sealed chunks of an archive are those that Seal tells by the tenants' keys, of their places.
func TestAnArchiveHasWhatSealTells(t *testing.T) {
	l := someChunks()
	b, s := built(t, someMaster(), api.State{}, 258, l...)
	p := split(t, b)
	wantBytes(t, "the root", s.Root, rootAsSaid(p.sealed))
	wantBytes(t, "the manifest's root", p.m.Root, s.Root)
	for i, c := range l {
		key, _ := keys.Tenant(someMaster(), c.Tenant)
		sealed, bucket, _ := Seal(key, 258, i, c)
		wantBytes(t, fmt.Sprint("the chunk ", i), p.sealed[i], sealed)
		if want := (api.Entry{Tenant: c.Tenant, Bucket: bucket}); p.m.Entries[i] != want {
			t.Errorf("the entry %d: %v; want %v", i, p.m.Entries[i], want)
		}
		if back, e := Unseal(key, 258, i, p.m.Entries[i], p.sealed[i]); !sameChunk(back, c) || e != api.OK {
			t.Errorf("the chunk %d, by its tenant's key: %s, error %d", i, brief(back), int(e))
		}
	}
}

// What other tenants have turns neither an archive's length, nor its manifest but for root and signature, nor a tenant's sealed chunks.
func TestOthersSayNothing(t *testing.T) {
	mine := of("a", even(7)...)
	random := rand.New(rand.NewSource(5))
	one, _ := built(t, someMaster(), api.State{}, 5, of("b", wild(2, 1)...), mine, of("c"))
	want := split(t, one)
	for range 50 {
		other, _ := built(t, someMaster(), api.State{}, 5, of("b", wild(random.Intn(3), random.Int63())...), mine, of("c", even(random.Intn(20))...))
		got := split(t, other)
		if len(other) != len(one) || got.m.Version != want.m.Version || !slices.Equal(got.m.Entries, want.m.Entries) {
			t.Errorf("another length, or manifest: %d, %v; want %d, %v", len(other), got.m, len(one), want.m)
		}
		wantBytes(t, "the manifest ahead of its root", got.signed[:len(got.signed)-64], want.signed[:len(want.signed)-64])
		wantBytes(t, "the tenant's sealed chunk", got.sealed[1], want.sealed[1])
	}
}

func TestRandomArchives(t *testing.T) {
	random := rand.New(rand.NewSource(22))
	for range 150 {
		version := random.Uint64() >> random.Intn(64)
		version = max(min(version, math.MaxUint64-1), 1)
		prev := trustNothing()[random.Intn(len(trustNothing()))]
		if random.Intn(2) == 0 {
			prev = api.State{Version: version - 1 - uint64(random.Intn(int(min(version, 5)))), Root: mixed(32, byte(random.Intn(256)))}
		}
		wantBuiltAndBack(t, mixed(32, byte(random.Intn(256))), prev, version, randomChunks(random))
	}
}
