package archive

import (
	"bytes"
	"fmt"
	"math"
	"math/rand"
	"slices"
	"strings"
	"testing"

	"casket/api"
	"casket/keys"
	"casket/manifest"
)

// P22.4

// fewChunks are for tests that go through each bit of an archive.
func fewChunks() []api.Chunk {
	return []api.Chunk{of("a", even(2)...), of("b"), of("a", api.Sample{T: 9, V: 9})}
}

func TestSplitOfNoBytes(t *testing.T) {
	for _, b := range [][]byte{nil, {}, someRoot()[:0]} {
		wantError(t, "no bytes", holdSplit(t, b), api.ErrShort)
	}
}

func TestSplitOfAnyBeginning(t *testing.T) {
	for _, l := range [][]api.Chunk{nil, fewChunks(), someChunks()} {
		b, _ := built(t, someMaster(), api.State{}, 5, l...)
		for n := range b {
			wantError(t, fmt.Sprint("the first ", n, " bytes"), holdSplit(t, b[:n]), api.ErrShort)
		}
		wantError(t, "all bytes", holdSplit(t, b), api.OK)
	}
}

func TestSplitOfMoreBytes(t *testing.T) {
	for _, l := range someArchives() {
		b, _ := built(t, someMaster(), api.State{}, 5, l...)
		for _, more := range [][]byte{{0}, {255}, make([]byte, 80), b} {
			wantError(t, fmt.Sprint(len(more), " bytes more"), holdSplit(t, slices.Concat(b, more)), api.ErrForm)
		}
	}
}

// A block of fewer than 32 bytes has no tag.
func TestSplitOfAShortBlock(t *testing.T) {
	b, _ := built(t, someMaster(), api.State{}, 5)
	for n := range 32 {
		for _, inner := range [][]byte{b[1 : 1+n], make([]byte, n), repeated(255, n)} {
			wantError(t, "a short block", holdSplit(t, blockAsSaid(inner)), api.ErrShort)
			wantError(t, "a short block and more", holdSplit(t, slices.Concat(blockAsSaid(inner), make([]byte, 500))), api.ErrShort)
		}
	}
	wantError(t, "a tag alone", holdSplit(t, blockAsSaid(make([]byte, 32))), api.ErrShort)
	wantError(t, "a tag, and four bytes that begin no manifest", holdSplit(t, blockAsSaid(make([]byte, 36))), api.ErrForm)
}

// The block's own error: its length is a varint of at most 2^28.
func TestSplitOfWrongLengths(t *testing.T) {
	for _, x := range []struct {
		what string
		b    []byte
		want api.Errno
	}{
		{"a length of 2^28", []byte{128, 128, 128, 128, 1}, api.ErrShort},
		{"a length of 2^28 + 1", []byte{129, 128, 128, 128, 1}, api.ErrLong},
		{"a length of 2^29", []byte{128, 128, 128, 128, 2}, api.ErrLong},
		{"a length of 2^63", []byte{128, 128, 128, 128, 128, 128, 128, 128, 128, 1}, api.ErrLong},
		{"the greatest length", []byte{255, 255, 255, 255, 255, 255, 255, 255, 255, 1}, api.ErrLong},
		{"a length above it", []byte{255, 255, 255, 255, 255, 255, 255, 255, 255, 2}, api.ErrForm},
		{"a length that is longer than it need be", []byte{238, 0}, api.ErrForm},
		{"a length that ends too early", []byte{128}, api.ErrShort},
		{"a length of 127", []byte{127}, api.ErrShort},
	} {
		wantError(t, x.what, holdSplit(t, x.b), x.want)
		if x.want != api.ErrShort {
			wantError(t, x.what+", and more", holdSplit(t, slices.Concat(x.b, make([]byte, 300))), x.want)
		}
	}
	wantError(t, "a length of 2^28, and more", holdSplit(t, append([]byte{128, 128, 128, 128, 1}, make([]byte, 1<<20)...)), api.ErrShort)
}

// asSigned is a block of a manifest's bytes, or of what is none, and 32 bytes behind it that Split does not ask.
func asSigned(text []byte) []byte { return blockAsSaid(slices.Concat(text, mixed(32, 77))) }

// manifestOf is the text of a manifest with these entries.
func manifestOf(t *testing.T, entries ...api.Entry) []byte {
	t.Helper()
	text, e := manifest.Encode(api.Manifest{Version: 5, Prev: someRoot(), Entries: entries, Root: someRoot()})
	if e != api.OK {
		t.Fatalf("manifest.Encode: error %d", int(e))
	}
	return text
}

func TestSplitTellsTheManifestsError(t *testing.T) {
	text := manifestOf(t, api.Entry{Tenant: "a", Bucket: 1}, api.Entry{Tenant: "b"})
	at := 4 + 8 + 32
	longTenant := slices.Concat(text[:at], []byte{1, 65}, repeated(120, 65), []byte{1, 0, 0}, someRoot())
	for _, x := range []struct {
		what string
		text []byte
		want api.Errno
	}{
		{"no manifest", nil, api.ErrShort},
		{"another first byte", slices.Concat([]byte{66}, text[1:]), api.ErrForm},
		{"a beginning", text[:len(text)-1], api.ErrShort},
		{"a byte more", slices.Concat(text, []byte{0}), api.ErrForm},
		{"the version that is none", slices.Concat(text[:4], repeated(255, 8), text[12:]), api.ErrForm},
		{"a long tenant", longTenant, api.ErrLong},
		{"a bucket that is none", bytes.Replace(text, []byte{2, 0, 1, 1, 0}, []byte{2, 0, 9, 1, 0}, 1), api.ErrForm},
	} {
		for _, behind := range []int{0, 1, 352, 353, 5000} {
			what := fmt.Sprint(x.what, ", and ", behind, " bytes behind it")
			wantError(t, what, holdSplit(t, slices.Concat(asSigned(x.text), make([]byte, behind))), x.want)
		}
	}
	wantError(t, "the manifest", holdSplit(t, slices.Concat(asSigned(text), make([]byte, 352))), api.OK)
}

// Each entry has as many bytes as its bucket's size, and a tag.
func TestSplitByEveryBucket(t *testing.T) {
	for k := range 9 {
		head := asSigned(manifestOf(t, api.Entry{Tenant: "a", Bucket: k}))
		size := 64<<(2*k) + 16
		whole := slices.Concat(head, mixed(size, 1))
		wantError(t, fmt.Sprint("the bucket ", k), holdSplit(t, whole), api.OK)
		p := split(t, whole)
		if len(p.sealed) != 1 {
			t.Fatalf("%d sealed chunks", len(p.sealed))
		}
		wantBytes(t, "the sealed chunk", p.sealed[0], mixed(size, 1))
		wantBytes(t, "the signed manifest", p.signed, head[len(head)-len(p.signed):])
		wantError(t, "a byte too few", holdSplit(t, whole[:len(whole)-1]), api.ErrShort)
		wantError(t, "none", holdSplit(t, head), api.ErrShort)
		wantError(t, "a byte too many", holdSplit(t, append(whole, 0)), api.ErrForm)
	}
}

func TestSplitBySeveralBuckets(t *testing.T) {
	random := rand.New(rand.NewSource(4))
	for range 300 {
		var entries []api.Entry
		var want [][]byte
		for range random.Intn(12) {
			k := random.Intn(5)
			entries = append(entries, api.Entry{Tenant: goodTenants()[random.Intn(4)], Bucket: k})
			want = append(want, mixed(64<<(2*k)+16, byte(random.Intn(256))))
		}
		whole := slices.Concat(asSigned(manifestOf(t, entries...)), slices.Concat(want...))
		wantError(t, "Split", holdSplit(t, whole), api.OK)
		if p := split(t, whole); !slices.EqualFunc(p.sealed, want, bytes.Equal) || !slices.Equal(p.m.Entries, entries) {
			t.Errorf("other pieces than were laid: %s", brief(p))
		}
		wantError(t, "a beginning", holdSplit(t, whole[:random.Intn(len(whole))]), api.ErrShort)
	}
}

// Split asks neither the signature nor the root: it has no key.
func TestSplitAsksNoTag(t *testing.T) {
	b, _ := built(t, someMaster(), api.State{}, 5, fewChunks()...)
	want := split(t, b)
	for _, at := range []int{len(b) - 1, len(b) - 200, len(b) - 241, 20} {
		turned := slices.Clone(b)
		turned[at] ^= 1
		wantError(t, fmt.Sprint("turned at ", at), holdSplit(t, turned), api.OK)
		if sameParts(split(t, turned), want) {
			t.Errorf("turned at %d: the same pieces", at)
		}
	}
}

// A manifest that names other chunks than follow.
func TestSplitWithAnotherManifest(t *testing.T) {
	one, _ := built(t, someMaster(), api.State{}, 5, fewChunks()...)
	two, _ := built(t, someMaster(), api.State{}, 5, fewChunks()[:2]...)
	great, _ := built(t, someMaster(), api.State{}, 5, of("a", wild(10, 1)...), of("b"), of("a"))
	laid := func(head, behind []byte) []byte {
		return slices.Concat(blockAsSaid(split(t, head).signed), slices.Concat(split(t, behind).sealed...))
	}
	wantError(t, "fewer entries", holdSplit(t, laid(two, one)), api.ErrForm)
	wantError(t, "more entries", holdSplit(t, laid(one, two)), api.ErrShort)
	wantError(t, "a greater bucket", holdSplit(t, laid(great, one)), api.ErrShort)
	wantError(t, "a lesser bucket", holdSplit(t, laid(one, great)), api.ErrForm)
}

func TestSplitOfAnyBitTurned(t *testing.T) {
	b, _ := built(t, someMaster(), api.State{}, 5, fewChunks()...)
	var seen [9]int
	eachBit(b, func(at, bit int, turned []byte) { seen[holdSplit(t, turned)]++ })
	if seen[api.OK] == 0 || seen[api.ErrShort] == 0 || seen[api.ErrForm] == 0 || seen[api.ErrLong] == 0 {
		t.Errorf("not every answer was tried: %v", seen)
	}
}

// P22.5

func TestOpenByWrongMasters(t *testing.T) {
	b, s := built(t, someMaster(), api.State{}, 5, fewChunks()...)
	for _, master := range wrongKeys() {
		for _, bytes := range [][]byte{b, b[:len(b)-1], append(slices.Clone(b), 0), nil} {
			wantError(t, "a wrong master", holdOpen(t, master, s, bytes), api.ErrArg)
			wantError(t, "a wrong master, a greater version", holdOpen(t, master, api.State{Version: 6, Root: s.Root}, bytes), api.ErrArg)
		}
	}
}

func TestOpenByWrongStates(t *testing.T) {
	b, _ := built(t, someMaster(), api.State{}, 5, fewChunks()...)
	for _, trusted := range wrongStates() {
		for _, bytes := range [][]byte{b, b[:len(b)-1], nil} {
			wantError(t, "a state that is not right", holdOpen(t, someMaster(), trusted, bytes), api.ErrArg)
		}
		wantError(t, "a state that is not right, another master", holdOpen(t, someKey(), trusted, b), api.ErrArg)
	}
}

func TestOpenTellsSplitsError(t *testing.T) {
	b, s := built(t, someMaster(), api.State{}, 5, fewChunks()...)
	for _, x := range []struct {
		what string
		b    []byte
		want api.Errno
	}{
		{"nil", nil, api.ErrShort}, {"no bytes", []byte{}, api.ErrShort}, {"a short block", []byte{3, 1, 2, 3}, api.ErrShort},
		{"a byte too few", b[:len(b)-1], api.ErrShort}, {"a byte too many", slices.Concat(b, []byte{0}), api.ErrForm},
		{"a long block", []byte{129, 128, 128, 128, 1}, api.ErrLong}, {"no manifest", blockAsSaid(make([]byte, 40)), api.ErrForm},
	} {
		for _, trusted := range []api.State{{}, s, {Version: 9, Root: someRoot()}, {Version: 5, Root: someRoot()}} {
			wantError(t, x.what, holdOpen(t, someMaster(), trusted, x.b), x.want)
			wantError(t, x.what+", another master", holdOpen(t, someKey(), trusted, x.b), x.want)
		}
	}
	for n := range b {
		wantError(t, "a beginning", holdOpen(t, someMaster(), s, b[:n]), api.ErrShort)
	}
}

func TestOpenByAnotherMaster(t *testing.T) {
	for _, l := range [][]api.Chunk{nil, fewChunks()} {
		b, s := built(t, someMaster(), api.State{}, 5, l...)
		for _, trusted := range []api.State{{}, s, {Version: 9, Root: someRoot()}, {Version: 5, Root: someRoot()}} {
			for _, master := range goodKeys()[1:] {
				wantError(t, "another master", holdOpen(t, master, trusted, b), api.ErrAuth)
			}
			eachBit(someMaster(), func(at, bit int, turned []byte) {
				wantError(t, "a master with a bit turned", holdOpen(t, turned, trusted, b), api.ErrAuth)
			})
		}
		key, _ := keys.Manifest(someMaster())
		wantError(t, "the signing key for the master", holdOpen(t, key, s, b), api.ErrAuth)
	}
}

func TestOpenByStates(t *testing.T) {
	for _, l := range [][]api.Chunk{nil, fewChunks()} {
		b, s := built(t, someMaster(), api.State{}, 258, l...)
		for _, trusted := range trustNothing() {
			wantOpened(t, "a state that trusts nothing", someMaster(), trusted, b, l, s)
		}
		for _, version := range []uint64{0, 1, 2, 256, 257} {
			wantOpened(t, "a lesser version", someMaster(), api.State{Version: version, Root: someRoot()}, b, l, s)
			wantOpened(t, "a lesser version of the same root", someMaster(), api.State{Version: version, Root: s.Root}, b, l, s)
		}
		for _, version := range []uint64{259, 512, 1 << 32, 1 << 63, math.MaxUint64 - 1, math.MaxUint64} {
			wantError(t, "a greater version", holdOpen(t, someMaster(), api.State{Version: version, Root: someRoot()}, b), api.ErrRollback)
			wantError(t, "a greater version of the same root", holdOpen(t, someMaster(), api.State{Version: version, Root: s.Root}, b), api.ErrRollback)
		}
		wantOpened(t, "that version and root", someMaster(), s, b, l, s)
		wantError(t, "another root", holdOpen(t, someMaster(), api.State{Version: 258, Root: someRoot()}, b), api.ErrFork)
		wantError(t, "a root of bytes 0", holdOpen(t, someMaster(), api.State{Version: 258, Root: make([]byte, 32)}, b), api.ErrFork)
		eachBit(s.Root, func(at, bit int, turned []byte) {
			wantError(t, "a root with a bit turned", holdOpen(t, someMaster(), api.State{Version: 258, Root: turned}, b), api.ErrFork)
		})
	}
}

func TestOpenAtTheEdgesOfVersions(t *testing.T) {
	for _, version := range goodVersions() {
		b, s := built(t, someMaster(), api.State{}, version, fewChunks()...)
		for _, trusted := range append(goodVersions(), math.MaxUint64) {
			want := api.OK
			switch {
			case trusted > version:
				want = api.ErrRollback
			case trusted == version:
				want = api.ErrFork
			}
			what := fmt.Sprint("version ", version, " by a state of ", trusted)
			wantError(t, what, holdOpen(t, someMaster(), api.State{Version: trusted, Root: someRoot()}, b), want)
		}
		wantOpened(t, "by its own state", someMaster(), s, b, fewChunks(), s)
	}
}

// Two archives of one version: who trusts the one takes no other.
func TestTwoArchivesOfOneVersion(t *testing.T) {
	one, s := built(t, someMaster(), api.State{}, 5, fewChunks()...)
	two, u := built(t, someMaster(), api.State{}, 5, fewChunks()[1:]...)
	wantError(t, "the other one", holdOpen(t, someMaster(), s, two), api.ErrFork)
	wantError(t, "the other one", holdOpen(t, someMaster(), u, one), api.ErrFork)
	wantOpened(t, "the one", someMaster(), s, one, fewChunks(), s)
	wantOpened(t, "the other one", someMaster(), u, two, fewChunks()[1:], u)
}

func TestOpenOfAnyBitTurned(t *testing.T) {
	for _, l := range [][]api.Chunk{nil, fewChunks()} {
		b, s := built(t, someMaster(), api.State{}, 5, l...)
		behind := len(b) - 80*len(l)
		for _, trusted := range []api.State{s, {}, {Version: 4, Root: someRoot()}} {
			eachBit(b, func(at, bit int, turned []byte) {
				e := holdOpen(t, someMaster(), trusted, turned)
				if e == api.OK || at >= behind && e != api.ErrAuth {
					t.Errorf("the bit %d of the byte %d of %d: error %d", bit, at, len(b), int(e))
				}
			})
		}
	}
}

// A turned byte of the signature, of Prev or of a root is ErrAuth, whatever is trusted: what nobody signed is no rollback, and no fork.
func TestOpenOfATurnedManifest(t *testing.T) {
	b, s := built(t, someMaster(), api.State{}, 5, fewChunks()...)
	signed := len(split(t, b).signed)
	begin := len(b) - 240 - signed
	places := map[string]int{"the version": begin + 11, "Prev": begin + 12, "the root": begin + signed - 64, "the signature": begin + signed - 32, "its last byte": begin + signed - 1}
	for what, at := range places {
		turned := slices.Clone(b)
		turned[at] ^= 1
		for _, trusted := range []api.State{{}, s, {Version: 9, Root: someRoot()}, {Version: 5, Root: someRoot()}, {Version: 4, Root: someRoot()}} {
			wantError(t, what, holdOpen(t, someMaster(), trusted, turned), api.ErrAuth)
		}
	}
}

// Sealed chunks that are exchanged, put in twice, left out or another archive's.
func TestOpenOfOtherSealedChunks(t *testing.T) {
	l := append(fewChunks(), of("a", even(2)...))
	b, s := built(t, someMaster(), api.State{}, 5, l...)
	newer, _ := built(t, someMaster(), s, 6, l...)
	p, other := split(t, b), split(t, newer)
	laid := func(sealed ...[]byte) []byte { return slices.Concat(blockAsSaid(p.signed), slices.Concat(sealed...)) }
	c := p.sealed
	wantOpened(t, "as they were", someMaster(), s, laid(c...), l, s)
	for what, sealed := range map[string][][]byte{
		"two of one tenant, exchanged":  {c[2], c[1], c[0], c[3]},
		"two of two tenants, exchanged": {c[1], c[0], c[2], c[3]},
		"two of the same, exchanged":    {c[3], c[1], c[2], c[0]},
		"one twice":                     {c[0], c[1], c[2], c[0]},
		"turned round":                  {c[3], c[2], c[1], c[0]},
		"another archive's first one":   {other.sealed[0], c[1], c[2], c[3]},
		"another archive's last one":    {c[0], c[1], c[2], other.sealed[3]},
		"all of another archive":        other.sealed,
		"bytes 0":                       {c[0], make([]byte, 80), c[2], c[3]},
	} {
		for _, trusted := range []api.State{{}, s, {Version: 4, Root: someRoot()}} {
			wantError(t, what, holdOpen(t, someMaster(), trusted, laid(sealed...)), api.ErrAuth)
		}
	}
	for at := range c {
		wantError(t, "one left out", holdOpen(t, someMaster(), s, laid(slices.Delete(slices.Clone(c), at, at+1)...)), api.ErrShort)
		wantError(t, "one put in", holdOpen(t, someMaster(), s, laid(slices.Insert(slices.Clone(c), at, c[at])...)), api.ErrForm)
	}
}

// Archives that whoever has the master lays by hand: the signature and the root fit, and the chunks are asked one by one.
func TestOpenTellsTheFirstChunksError(t *testing.T) {
	key, _ := keys.Tenant(someMaster(), "a")
	right := mustPad(t, encoded(t, of("a", even(2)...)))
	wrong := wrongInsides(t)
	laid := func(insides ...[]byte) []byte {
		m := api.Manifest{Version: 5, Prev: make([]byte, 32)}
		var sealed [][]byte
		for i, padded := range insides {
			b := sealPadded(t, key, 5, i, "a", padded)
			m.Entries = append(m.Entries, api.Entry{Tenant: "a", Bucket: bucketOf(len(padded))})
			sealed = append(sealed, b)
		}
		m.Root = rootAsSaid(sealed)
		return lay(t, someMaster(), m, sealed...)
	}
	wantError(t, "right ones", holdOpen(t, someMaster(), api.State{}, laid(right, right, right)), api.OK)
	tried := 0
	for _, x := range wrong {
		if bucketOf(len(x.padded)) < 0 {
			continue
		}
		tried++
		wantError(t, x.what+" first", holdOpen(t, someMaster(), api.State{}, laid(x.padded, right, right)), x.want)
		wantError(t, x.what+" last", holdOpen(t, someMaster(), api.State{}, laid(right, right, x.padded)), x.want)
		for _, y := range wrong {
			if bucketOf(len(y.padded)) >= 0 {
				wantError(t, x.what+" ahead of "+y.what, holdOpen(t, someMaster(), api.State{}, laid(right, x.padded, y.padded)), x.want)
			}
		}
	}
	if tried < 8 {
		t.Errorf("%d were tried: the test asks too little", tried)
	}
}

// A root and a signature that fit don't make another tenant's, place's or version's chunk an archive's.
func TestOpenOfChunksUnderAnotherManifest(t *testing.T) {
	l := append(fewChunks(), of("a", even(2)...))
	b, _ := built(t, someMaster(), api.State{}, 5, l...)
	p := split(t, b)
	for what, turn := range map[string]func(m *api.Manifest, sealed [][]byte){
		"two exchanged":          func(m *api.Manifest, sealed [][]byte) { sealed[0], sealed[2] = sealed[2], sealed[0] },
		"two equal exchanged":    func(m *api.Manifest, sealed [][]byte) { sealed[0], sealed[3] = sealed[3], sealed[0] },
		"another version":        func(m *api.Manifest, sealed [][]byte) { m.Version = 6 },
		"another tenant":         func(m *api.Manifest, sealed [][]byte) { m.Entries[1].Tenant = "c" },
		"two tenants exchanged":  func(m *api.Manifest, sealed [][]byte) { m.Entries[1].Tenant, m.Entries[2].Tenant = "a", "b" },
		"a tenant of no bytes":   func(m *api.Manifest, sealed [][]byte) { m.Entries[3].Tenant = "" },
		"a sealed chunk, turned": func(m *api.Manifest, sealed [][]byte) { sealed[2][7] ^= 1 },
	} {
		m := p.m
		m.Entries = slices.Clone(m.Entries)
		var sealed [][]byte
		for _, each := range p.sealed {
			sealed = append(sealed, slices.Clone(each))
		}
		turn(&m, sealed)
		m.Root = rootAsSaid(sealed)
		wantError(t, what, holdOpen(t, someMaster(), api.State{}, lay(t, someMaster(), m, sealed...)), api.ErrAuth)
	}
	m := p.m
	m.Prev = someRoot()
	wantError(t, "another Prev, signed", holdOpen(t, someMaster(), api.State{}, lay(t, someMaster(), m, p.sealed...)), api.OK)
}

// A signed manifest with a root that is not the chunks'.
func TestOpenOfAnotherRoot(t *testing.T) {
	for _, l := range [][]api.Chunk{nil, fewChunks()} {
		b, s := built(t, someMaster(), api.State{}, 5, l...)
		p := split(t, b)
		m := p.m
		m.Root = someRoot()
		other := lay(t, someMaster(), m, p.sealed...)
		wantError(t, "another root", holdOpen(t, someMaster(), api.State{}, other), api.ErrAuth)
		wantError(t, "another root, that is trusted", holdOpen(t, someMaster(), api.State{Version: 5, Root: someRoot()}, other), api.ErrAuth)
		wantError(t, "another root, a lesser version", holdOpen(t, someMaster(), api.State{Version: 4, Root: s.Root}, other), api.ErrAuth)
		wantError(t, "another root than the trusted one", holdOpen(t, someMaster(), s, other), api.ErrFork)
		wantError(t, "another root, a greater version", holdOpen(t, someMaster(), api.State{Version: 6, Root: someRoot()}, other), api.ErrRollback)
	}
}

// Of several faults the one that the chapter names first is told: each set of them is tried.
func TestSeveralFaultsOfOpen(t *testing.T) {
	errors := []api.Errno{api.ErrArg, api.ErrArg, api.ErrForm, api.ErrAuth, api.ErrRollback, api.ErrFork, api.ErrAuth, api.ErrShort, api.ErrForm}
	key, _ := keys.Tenant(someMaster(), "a")
	b := encoded(t, of("a", even(2)...))
	for set := range 1 << len(errors) {
		has := func(k int) bool { return set>>k&1 == 1 }
		insides := [][]byte{mustPad(t, b), mustPad(t, b)}
		if has(7) {
			insides[0] = mustPad(t, b[:len(b)-1])
		}
		if has(8) {
			insides[1] = mustPad(t, append(slices.Clone(b), 0))
		}
		m := api.Manifest{Version: 5, Prev: make([]byte, 32), Entries: []api.Entry{{Tenant: "a"}, {Tenant: "a"}}}
		sealed := [][]byte{sealPadded(t, key, 5, 0, "a", insides[0]), sealPadded(t, key, 5, 1, "a", insides[1])}
		m.Root = rootAsSaid(sealed)
		if has(6) {
			m.Root = mixed(32, 8)
		}
		master, trusted, signer := someMaster(), api.State{Version: 5, Root: slices.Clone(m.Root)}, someMaster()
		if has(5) {
			trusted.Root[0] ^= 1
		}
		if has(4) {
			trusted.Version = 6
		}
		if has(3) {
			signer = someKey()
		}
		whole := lay(t, signer, m, sealed...)
		if has(2) {
			whole = append(whole, 0)
		}
		if has(1) {
			trusted.Root = trusted.Root[:31]
		}
		if has(0) {
			master = master[:31]
		}
		want := api.OK
		for k := len(errors) - 1; k >= 0; k-- {
			if has(k) {
				want = errors[k]
			}
		}
		wantError(t, fmt.Sprintf("the faults %b", set), holdOpen(t, master, trusted, whole), want)
	}
}

// P22.6

// turned are b's bytes with something done to them.
func turned(random *rand.Rand, b []byte) []byte {
	at := random.Intn(len(b))
	to := at + random.Intn(len(b)-at)
	switch random.Intn(6) {
	case 0:
		return slices.Delete(slices.Clone(b), at, at+1)
	case 1:
		return slices.Insert(slices.Clone(b), at, byte(random.Intn(256)))
	case 2:
		return slices.Concat(b[:at], []byte{byte(random.Intn(256))}, b[at+1:])
	case 3:
		return slices.Concat(b[:at], b[to:])
	case 4:
		return slices.Concat(b[:to], b[at:])
	default:
		out := slices.Clone(b)
		slices.Reverse(out[at:to])
		return out
	}
}

// Bytes that are not those of Build are opened by no state, as long as no tag is forged.
func TestOtherBytesAreNotOpened(t *testing.T) {
	random := rand.New(rand.NewSource(6))
	for range 40 {
		l := randomChunks(random)
		l = l[:min(len(l), 4)]
		b, s := built(t, someMaster(), api.State{}, 5, l...)
		for range 100 {
			other := turned(random, b)
			for _, trusted := range []api.State{s, {}, {Version: 4, Root: someRoot()}} {
				e := holdOpen(t, someMaster(), trusted, other)
				if bytes.Equal(other, b) {
					wantError(t, "the same bytes", e, api.OK)
				} else if e == api.OK {
					t.Errorf("other bytes than were built are opened: %s", brief(other))
				}
			}
		}
	}
}

// Pieces of two archives of the same master, mixed.
func TestMixedArchivesAreNotOpened(t *testing.T) {
	one, s := built(t, someMaster(), api.State{}, 5, of("a", even(2)...), of("b"))
	two, u := built(t, someMaster(), api.State{}, 5, of("a", even(3)...), of("b"))
	p, q := split(t, one), split(t, two)
	for set := range 8 {
		pick := func(k int, of, other []byte) []byte {
			if set>>k&1 == 1 {
				return other
			}
			return of
		}
		mixed := slices.Concat(blockAsSaid(pick(0, p.signed, q.signed)), pick(1, p.sealed[0], q.sealed[0]), pick(2, p.sealed[1], q.sealed[1]))
		for _, trusted := range []api.State{s, u, {}} {
			e := holdOpen(t, someMaster(), trusted, mixed)
			if e == api.OK && !bytes.Equal(mixed, one) && !bytes.Equal(mixed, two) {
				t.Errorf("the set %b is opened", set)
			}
		}
	}
	wantBytes(t, "the second chunk, which is the same in both", p.sealed[1], q.sealed[1])
}

// The document's examples of an archive of version 3.
func TestTheDocumentsExamples(t *testing.T) {
	older, _ := built(t, someMaster(), api.State{}, 2, fewChunks()...)
	b, s := built(t, someMaster(), api.State{}, 3, fewChunks()...)
	another, _ := built(t, someMaster(), api.State{}, 3, of("c"))
	wantError(t, "an older version", holdOpen(t, someMaster(), s, older), api.ErrRollback)
	wantError(t, "another one of the version", holdOpen(t, someMaster(), s, another), api.ErrFork)
	wantOpened(t, "the same once more", someMaster(), s, b, fewChunks(), s)
	wantError(t, "a byte cut off", holdOpen(t, someMaster(), s, b[:len(b)-1]), api.ErrShort)
	wantError(t, "a byte more", holdOpen(t, someMaster(), s, append(slices.Clone(b), 0)), api.ErrForm)
	p := split(t, b)
	key, _ := keys.Tenant(someMaster(), "a")
	_, e := Unseal(key, 3, 1, p.m.Entries[1], p.sealed[1])
	wantError(t, "a tenant's key for another tenant's chunk", e, api.ErrAuth)
	b[len(b)-100] ^= 1
	wantError(t, "a byte of a sealed chunk turned", holdOpen(t, someMaster(), s, b), api.ErrAuth)
}

// Tenants that begin with each other have keys of their own.
func TestTenantsKeys(t *testing.T) {
	l := []api.Chunk{of(""), of("a"), of("aa"), of(strings.Repeat("a", 64))}
	b, _ := built(t, someMaster(), api.State{}, 5, l...)
	p := split(t, b)
	for i := range l {
		for j, c := range l {
			key, _ := keys.Tenant(someMaster(), c.Tenant)
			want := api.ErrAuth
			if i == j {
				want = api.OK
			}
			wantError(t, fmt.Sprint("the key of ", j, " for ", i), holdUnseal(t, key, 5, i, p.m.Entries[i], p.sealed[i]), want)
		}
	}
}
