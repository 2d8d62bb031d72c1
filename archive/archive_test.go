package archive

import (
	"bytes"
	libhmac "crypto/hmac"
	"crypto/sha256"
	"encoding/hex"
	"fmt"
	"math"
	"math/rand"
	"reflect"
	"slices"
	"strings"
	"testing"

	"casket/aead"
	"casket/api"
	"casket/chunk"
	"casket/keys"
	"casket/manifest"
	"casket/pad"
	"casket/varint"
)

// What the tests of this package are made of: things to hand in, the chapter's words by a plain way of their own, and what is wanted.

// mixed are n bytes that tell their places apart.
func mixed(n int, from byte) []byte {
	out := make([]byte, n)
	for i := range out {
		out[i] = byte(i*7) + from
	}
	return out
}

func repeated(v byte, n int) []byte { return bytes.Repeat([]byte{v}, n) }

func someMaster() []byte { return mixed(32, 3) }

func someRoot() []byte { return mixed(32, 100) }

// someKey is a tenant's key, of no master in particular.
func someKey() []byte { return mixed(32, 50) }

func goodKeys() [][]byte {
	return [][]byte{someMaster(), someKey(), repeated(0, 32), repeated(255, 32), []byte("0123456789abcdef0123456789abcdef")}
}

// wrongKeys have another length than 32.
func wrongKeys() [][]byte {
	out := [][]byte{nil, {}, someMaster()[:0], someMaster()[:31], someMaster()[1:]}
	for _, n := range []int{1, 16, 31, 33, 64, 288, 65536 + 32} {
		out = append(out, mixed(n, 3), repeated(0, n))
	}
	return out
}

// wrongStates are not right: their Root is neither empty nor of 32 bytes.
func wrongStates() []api.State {
	var out []api.State
	for _, n := range []int{1, 2, 16, 31, 33, 64, 288} {
		for _, version := range []uint64{0, 5, math.MaxUint64} {
			out = append(out, api.State{Version: version, Root: mixed(n, 9)}, api.State{Version: version, Root: repeated(0, n)})
		}
	}
	return out
}

// trustNothing are states with an empty Root, whose Version does not count.
func trustNothing() []api.State {
	var out []api.State
	for _, version := range []uint64{0, 1, 5, 258, 1 << 63, math.MaxUint64 - 1, math.MaxUint64} {
		out = append(out, api.State{Version: version}, api.State{Version: version, Root: []byte{}}, api.State{Version: version, Root: someRoot()[:0]})
	}
	return out
}

func goodVersions() []uint64 {
	return []uint64{0, 1, 2, 255, 256, 258, 65536, 1<<32 - 1, 1 << 32, 0x0102030405060708, 1<<63 - 1, 1 << 63, math.MaxUint64 - 2, math.MaxUint64 - 1}
}

func goodIndexes() []int { return []int{0, 1, 2, 127, 255, 256, 65535, 65536, 1<<20 - 2, 1<<20 - 1} }

func wrongIndexes() []int {
	return []int{-1, -2, -1 << 20, 1 << 20, 1<<20 + 1, 1 << 31, 1 << 32, 1<<32 + 1, math.MaxInt, math.MinInt, math.MinInt + 1}
}

// wrongBuckets are not bucket 0; the lowest bits of some of them are its.
func wrongBuckets() []int {
	return []int{1, 2, 8, 9, -1, 255, 256, 1 << 16, 1 << 32, math.MaxInt, math.MinInt}
}

func goodTenants() []string {
	return []string{"", "a", "b", "ab", "\x00", "a\x00", "\xff\xfe", "é", "日本", strings.Repeat("x", 63), strings.Repeat("x", 64), strings.Repeat("\x00", 64), strings.Repeat("\xff", 64)}
}

func longTenants() []string {
	return []string{strings.Repeat("x", 65), strings.Repeat("\x00", 65), strings.Repeat("é", 33), strings.Repeat("x", 128), strings.Repeat("x", 320), strings.Repeat("x", 1<<16)}
}

// even are n samples that take few bytes.
func even(n int) []api.Sample {
	out := make([]api.Sample, n)
	for i := range out {
		out[i] = api.Sample{T: 1000 * i, V: 5}
	}
	return out
}

// wild are n samples that take as many bytes as samples may.
func wild(n int, seed int64) []api.Sample {
	random := rand.New(rand.NewSource(seed))
	out := make([]api.Sample, n)
	for i := range out {
		out[i] = api.Sample{T: int(random.Uint64()), V: random.Uint64()}
	}
	return out
}

func of(tenant string, samples ...api.Sample) api.Chunk { return api.Chunk{Tenant: tenant, S: samples} }

// someChunks are of several tenants, numbers of samples and buckets; the first two are the same, and one tenant has several.
func someChunks() []api.Chunk {
	return []api.Chunk{
		of("a", api.Sample{T: 1, V: 2}, api.Sample{T: 3, V: 4}),
		of("a", api.Sample{T: 1, V: 2}, api.Sample{T: 3, V: 4}),
		of("b"),
		of(""),
		of(strings.Repeat("x", 64), even(3)...),
		of("b", wild(10, 1)...),
		of("a", even(100)...),
		of("\xff", api.Sample{T: math.MinInt, V: math.MaxUint64}, api.Sample{T: math.MaxInt, V: 0}),
		of("a", wild(60, 2)...),
	}
}

// chunksOfEachBucket stand at the place of their bucket.
func chunksOfEachBucket() []api.Chunk {
	var out []api.Chunk
	for k, n := range []int{1, 8, 40, 200, 800, 3000, 12000, 50000, api.MaxSamples} {
		out = append(out, of("a", wild(n, int64(k))...))
	}
	return out
}

// refusedChunks are those that chunk.Encode refuses.
func refusedChunks() []api.Chunk {
	out := []api.Chunk{of("a", even(api.MaxSamples+1)...), of(strings.Repeat("x", 65), even(api.MaxSamples+1)...)}
	for _, tenant := range longTenants() {
		out = append(out, of(tenant), of(tenant, even(3)...))
	}
	return out
}

// someArchives are lists of chunks: of none, one and several.
func someArchives() [][]api.Chunk {
	out := [][]api.Chunk{nil, {}, someChunks(), someChunks()[:2], someChunks()[3:6]}
	for _, c := range someChunks() {
		out = append(out, []api.Chunk{c})
	}
	return out
}

// randomChunks are of few tenants, most of them short.
func randomChunks(random *rand.Rand) []api.Chunk {
	out := make([]api.Chunk, random.Intn(1<<random.Intn(5)))
	for i := range out {
		out[i].Tenant = goodTenants()[random.Intn(len(goodTenants()))]
		out[i].S = wild(random.Intn(1<<random.Intn(6)), random.Int63())
		if random.Intn(2) == 0 {
			out[i].S = even(random.Intn(300))
		}
	}
	return out
}

// The chapter's words, by a plain way of their own over the packages below: all is asked, and the first error is told.

func first(errors ...api.Errno) api.Errno {
	for _, e := range errors {
		if e != api.OK {
			return e
		}
	}
	return api.OK
}

func when(wrong bool, e api.Errno) api.Errno {
	if wrong {
		return e
	}
	return api.OK
}

// highest is a number in n bytes, the highest first.
func highest(v uint64, n int) []byte {
	out := make([]byte, n)
	for i := n - 1; i >= 0; i-- {
		out[i] = byte(v % 256)
		v /= 256
	}
	return out
}

// blockAsSaid is bytes behind their length.
func blockAsSaid(b []byte) []byte { return append(varint.Append(nil, uint64(len(b))), b...) }

func besideAsSaid(version uint64, index int, tenant string) []byte {
	return slices.Concat(highest(version, 8), highest(uint64(index), 4), blockAsSaid([]byte(tenant)))
}

func unhex(t *testing.T, text string) []byte {
	t.Helper()
	b, err := hex.DecodeString(text)
	if err != nil {
		t.Fatal(err)
	}
	return b
}

func aeadSeal(t *testing.T, key, nonce, beside, padded []byte) []byte {
	t.Helper()
	sealed, e := aead.Seal(key, nonce, beside, padded)
	if e != api.OK {
		t.Fatalf("aead.Seal: error %d", int(e))
	}
	return sealed
}

// sealPadded seals what may be no chunk's bytes, with what stands beside a chunk of that place and tenant.
func sealPadded(t *testing.T, key []byte, version uint64, index int, tenant string, padded []byte) []byte {
	t.Helper()
	seal, e := keys.Seal(key)
	nonce, f := keys.Nonce(key, version, index)
	if e := first(e, f); e != api.OK {
		t.Fatalf("sealing by hand: error %d", int(e))
	}
	return aeadSeal(t, seal, nonce, besideAsSaid(version, index, tenant), padded)
}

// sealAsSaid is P22.1.
func sealAsSaid(t *testing.T, key []byte, version uint64, index int, c api.Chunk) ([]byte, int, api.Errno) {
	t.Helper()
	_, e := keys.Seal(key)
	_, f := keys.Nonce(key, version, index)
	b, g := chunk.Encode(c)
	padded, h := pad.Pad(b)
	if e := first(e, f, g, h); e != api.OK {
		return nil, 0, e
	}
	return sealPadded(t, key, version, index, c.Tenant, padded), bucketOf(len(padded)), api.OK
}

// bucketOf is the bucket that has just so many bytes, or else none.
func bucketOf(size int) int {
	for k := range 9 {
		if 64<<(2*k) == size {
			return k
		}
	}
	return -1
}

// unsealAsSaid is P22.2.
func unsealAsSaid(key []byte, version uint64, index int, entry api.Entry, sealed []byte) (api.Chunk, api.Errno) {
	seal, e := keys.Seal(key)
	nonce, f := keys.Nonce(key, version, index)
	long := when(len(entry.Tenant) > 64, api.ErrLong)
	if e := first(e, f, long); e != api.OK {
		return api.Chunk{}, e
	}
	padded, e := aead.Open(seal, nonce, besideAsSaid(version, index, entry.Tenant), sealed)
	b, f := pad.Unpad(padded)
	c, g := chunk.Decode(b)
	form := when(c.Tenant != entry.Tenant || bucketOf(len(padded)) != entry.Bucket, api.ErrForm)
	if e := first(e, f, g, form); e != api.OK {
		return api.Chunk{}, e
	}
	return c, api.OK
}

func sum(parts ...[]byte) []byte {
	s := sha256.Sum256(slices.Concat(parts...))
	return s[:]
}

// rootAsSaid is the root of all sealed chunks, by the library's SHA-256.
func rootAsSaid(sealed [][]byte) []byte {
	switch len(sealed) {
	case 0:
		return sum()
	case 1:
		return sum([]byte{0}, sealed[0])
	}
	k := 1
	for 2*k < len(sealed) {
		k *= 2
	}
	return sum([]byte{1}, rootAsSaid(sealed[:k]), rootAsSaid(sealed[k:]))
}

func tagByLibrary(key []byte, parts ...[]byte) []byte {
	h := libhmac.New(sha256.New, key)
	for _, part := range parts {
		h.Write(part)
	}
	return h.Sum(nil)
}

// signatureAsSaid is the tag under a manifest, by the library: its key is Expand's first piece of the purpose 4 and a block of nothing.
func signatureAsSaid(master, text []byte) []byte {
	return tagByLibrary(tagByLibrary(master, []byte{4, 0, 1}), text)
}

// trusts says that a state trusts something.
func trusts(s api.State) bool { return len(s.Root) > 0 }

func rightAsSaid(s api.State) bool { return len(s.Root) == 0 || len(s.Root) == 32 }

// lay is an archive of any manifest, signed by master, and any sealed chunks.
func lay(t *testing.T, master []byte, m api.Manifest, sealed ...[]byte) []byte {
	t.Helper()
	text, e := manifest.Encode(m)
	if e != api.OK {
		t.Fatalf("a manifest by hand: error %d", int(e))
	}
	return slices.Concat(blockAsSaid(slices.Concat(text, signatureAsSaid(master, text))), slices.Concat(sealed...))
}

// buildAsSaid is P22.3.
func buildAsSaid(t *testing.T, master []byte, prev api.State, version uint64, l []api.Chunk) ([]byte, api.State, api.Errno) {
	t.Helper()
	arg := when(len(master) != 32 || !rightAsSaid(prev) || version > math.MaxUint64-1, api.ErrArg)
	rollback := when(trusts(prev) && version <= prev.Version, api.ErrRollback)
	long := when(len(l) > 1048576, api.ErrLong)
	if e := first(arg, rollback, long); e != api.OK {
		return nil, api.State{}, e
	}
	m := api.Manifest{Version: version, Prev: make([]byte, 32)}
	copy(m.Prev, prev.Root)
	var sealed [][]byte
	for i, c := range l {
		key, e := keys.Tenant(master, c.Tenant)
		b, bucket, f := sealAsSaid(t, key, version, i, c)
		if e := first(e, f); e != api.OK {
			return nil, api.State{}, e
		}
		sealed = append(sealed, b)
		m.Entries = append(m.Entries, api.Entry{Tenant: c.Tenant, Bucket: bucket})
	}
	m.Root = rootAsSaid(sealed)
	return lay(t, master, m, sealed...), api.State{Version: version, Root: m.Root}, api.OK
}

// parts are what an archive is split to.
type parts struct {
	m      api.Manifest
	signed []byte
	sealed [][]byte
}

// splitAsSaid is P22.4.
func splitAsSaid(b []byte) (parts, api.Errno) {
	n, size, e := varint.Read(b)
	if e != api.OK {
		return parts{}, e
	}
	rest := b[size:]
	if n > 1<<28 {
		return parts{}, api.ErrLong
	}
	if n > uint64(len(rest)) || n < 32 {
		return parts{}, api.ErrShort
	}
	p := parts{signed: rest[:n]}
	rest = rest[n:]
	if p.m, e = manifest.Decode(p.signed[:n-32]); e != api.OK {
		return parts{}, e
	}
	for _, entry := range p.m.Entries {
		size := 64<<(2*entry.Bucket) + 16
		if size > len(rest) {
			return parts{}, api.ErrShort
		}
		p.sealed = append(p.sealed, rest[:size])
		rest = rest[size:]
	}
	if len(rest) > 0 {
		return parts{}, api.ErrForm
	}
	return p, api.OK
}

// openAsSaid is P22.5.
func openAsSaid(master []byte, trusted api.State, b []byte) ([]api.Chunk, api.State, api.Errno) {
	arg := when(len(master) != 32 || !rightAsSaid(trusted), api.ErrArg)
	p, e := splitAsSaid(b)
	if e := first(arg, e); e != api.OK {
		return nil, api.State{}, e
	}
	text, tag := p.signed[:len(p.signed)-32], p.signed[len(p.signed)-32:]
	signed := when(!bytes.Equal(tag, signatureAsSaid(master, text)), api.ErrAuth)
	rollback := when(trusts(trusted) && p.m.Version < trusted.Version, api.ErrRollback)
	fork := when(trusts(trusted) && p.m.Version == trusted.Version && !bytes.Equal(p.m.Root, trusted.Root), api.ErrFork)
	root := when(!bytes.Equal(rootAsSaid(p.sealed), p.m.Root), api.ErrAuth)
	if e := first(signed, rollback, fork, root); e != api.OK {
		return nil, api.State{}, e
	}
	var chunks []api.Chunk
	for i, entry := range p.m.Entries {
		key, e := keys.Tenant(master, entry.Tenant)
		c, f := unsealAsSaid(key, p.m.Version, i, entry, p.sealed[i])
		if e := first(e, f); e != api.OK {
			return nil, api.State{}, e
		}
		chunks = append(chunks, c)
	}
	return chunks, api.State{Version: p.m.Version, Root: p.m.Root}, api.OK
}

// What is wanted. Each hold holds a call's answer against the chapter's words, asks that nothing stands beside an error, and tells the error.

func sameChunk(a, b api.Chunk) bool { return a.Tenant == b.Tenant && slices.Equal(a.S, b.S) }

func sameChunks(a, b []api.Chunk) bool { return slices.EqualFunc(a, b, sameChunk) }

func sameState(a, b api.State) bool { return a.Version == b.Version && bytes.Equal(a.Root, b.Root) }

func sameManifest(a, b api.Manifest) bool {
	return a.Version == b.Version && bytes.Equal(a.Prev, b.Prev) && slices.Equal(a.Entries, b.Entries) && bytes.Equal(a.Root, b.Root)
}

func sameParts(a, b parts) bool {
	return sameManifest(a.m, b.m) && bytes.Equal(a.signed, b.signed) && slices.EqualFunc(a.sealed, b.sealed, bytes.Equal)
}

// none asks for zero values themselves, whose lists are nil.
func none(v ...any) bool {
	return !slices.ContainsFunc(v, func(each any) bool { return !reflect.ValueOf(each).IsZero() })
}

// brief is a beginning, since some things are long.
func brief(v any) string { return fmt.Sprintf("%.300s", fmt.Sprint(v)) }

func wantBytes(t *testing.T, what string, got, want []byte) {
	t.Helper()
	if !bytes.Equal(got, want) {
		t.Errorf("%s: %d bytes %s; want %d %s", what, len(got), brief(got), len(want), brief(want))
	}
}

func wantError(t *testing.T, what string, got, want api.Errno) {
	t.Helper()
	if got != want {
		t.Errorf("%s: error %d; want %d", what, int(got), int(want))
	}
}

func holdSeal(t *testing.T, key []byte, version uint64, index int, c api.Chunk) api.Errno {
	t.Helper()
	got, k, e := Seal(key, version, index, c)
	want, l, f := sealAsSaid(t, key, version, index, c)
	if !bytes.Equal(got, want) || k != l || e != f || e != api.OK && !none(got, k) {
		t.Errorf("Seal(%s, %d, %d, %s): %s, %d, error %d; want %s, %d, error %d", brief(key), version, index, brief(c), brief(got), k, int(e), brief(want), l, int(f))
	}
	return e
}

func holdUnseal(t *testing.T, key []byte, version uint64, index int, entry api.Entry, sealed []byte) api.Errno {
	t.Helper()
	got, e := Unseal(key, version, index, entry, sealed)
	want, f := unsealAsSaid(key, version, index, entry, sealed)
	if !sameChunk(got, want) || e != f || e != api.OK && !none(got) {
		t.Errorf("Unseal(%s, %d, %d, %s, %s): %s, error %d; want %s, error %d", brief(key), version, index, brief(entry), brief(sealed), brief(got), int(e), brief(want), int(f))
	}
	return e
}

// wantSealedAndBack says that c is sealed as said, and unsealed to what it was.
func wantSealedAndBack(t *testing.T, key []byte, version uint64, index int, c api.Chunk) {
	t.Helper()
	wantError(t, "Seal", holdSeal(t, key, version, index, c), api.OK)
	sealed, bucket, _ := Seal(key, version, index, c)
	if len(sealed) != pad.Size(bucket)+16 {
		t.Errorf("Seal of %s: %d bytes of the bucket %d", brief(c), len(sealed), bucket)
	}
	entry := api.Entry{Tenant: c.Tenant, Bucket: bucket}
	wantError(t, "Unseal", holdUnseal(t, key, version, index, entry, sealed), api.OK)
	if back, e := Unseal(key, version, index, entry, sealed); !sameChunk(back, c) || e != api.OK {
		t.Errorf("Unseal of Seal of %s: %s, error %d", brief(c), brief(back), int(e))
	}
}

func holdBuild(t *testing.T, master []byte, prev api.State, version uint64, l []api.Chunk) api.Errno {
	t.Helper()
	got, s, e := Build(master, prev, version, l)
	want, u, f := buildAsSaid(t, master, prev, version, l)
	if !bytes.Equal(got, want) || !sameState(s, u) || e != f || e != api.OK && !none(got, s) {
		t.Errorf("Build(%s, %s, %d, %s): %s, %s, error %d; want %s, %s, error %d", brief(master), brief(prev), version, brief(l), brief(got), brief(s), int(e), brief(want), brief(u), int(f))
	}
	return e
}

func holdSplit(t *testing.T, b []byte) api.Errno {
	t.Helper()
	var got parts
	var e api.Errno
	got.m, got.signed, got.sealed, e = Split(b)
	want, f := splitAsSaid(b)
	if !sameParts(got, want) || e != f || e != api.OK && !none(got) {
		t.Errorf("Split(%d bytes %s): %s, error %d; want %s, error %d", len(b), brief(b), brief(got), int(e), brief(want), int(f))
	}
	return e
}

func holdOpen(t *testing.T, master []byte, trusted api.State, b []byte) api.Errno {
	t.Helper()
	got, s, e := Open(master, trusted, b)
	want, u, f := openAsSaid(master, trusted, b)
	if !sameChunks(got, want) || !sameState(s, u) || e != f || e != api.OK && !none(got, s) {
		t.Errorf("Open(%s, %s, %d bytes %s): %s, %s, error %d; want %s, %s, error %d", brief(master), brief(trusted), len(b), brief(b), brief(got), brief(s), int(e), brief(want), brief(u), int(f))
	}
	return e
}

// built is an archive that must be built.
func built(t *testing.T, master []byte, prev api.State, version uint64, l ...api.Chunk) ([]byte, api.State) {
	t.Helper()
	b, s, e := Build(master, prev, version, l)
	if e != api.OK {
		t.Fatalf("Build of version %d and %d chunks: error %d", version, len(l), int(e))
	}
	return b, s
}

// split is an archive that must be split.
func split(t *testing.T, b []byte) parts {
	t.Helper()
	m, signed, sealed, e := Split(b)
	if e != api.OK {
		t.Fatalf("Split of %s: error %d", brief(b), int(e))
	}
	return parts{m, signed, sealed}
}

// wantOpened says that b is opened to these chunks and this state.
func wantOpened(t *testing.T, what string, master []byte, trusted api.State, b []byte, l []api.Chunk, s api.State) {
	t.Helper()
	holdOpen(t, master, trusted, b)
	if got, u, e := Open(master, trusted, b); !sameChunks(got, l) || !sameState(u, s) || e != api.OK {
		t.Errorf("%s: Open: %s, %s, error %d; want %s, %s", what, brief(got), brief(u), int(e), brief(l), brief(s))
	}
}

// wantBuiltAndBack says that l is built as said, split to its pieces, and opened to what it was by all states that may.
func wantBuiltAndBack(t *testing.T, master []byte, prev api.State, version uint64, l []api.Chunk) {
	t.Helper()
	wantError(t, "Build", holdBuild(t, master, prev, version, l), api.OK)
	b, s := built(t, master, prev, version, l...)
	wantError(t, "Split", holdSplit(t, b), api.OK)
	p := split(t, b)
	wantBytes(t, "an archive's pieces", slices.Concat(blockAsSaid(p.signed), slices.Concat(p.sealed...)), b)
	wantOpened(t, "by a state that trusts nothing", master, api.State{}, b, l, s)
	wantOpened(t, "by the state that Build told", master, s, b, l, s)
	if version > 0 {
		wantOpened(t, "by a state of the version ahead", master, api.State{Version: version - 1, Root: someRoot()}, b, l, s)
		wantOpened(t, "by a state of version 0", master, api.State{Root: someRoot()}, b, l, s)
	}
}

// eachBit calls ask with each bit of b turned, of a copy.
func eachBit(b []byte, ask func(at, bit int, turned []byte)) {
	for at := range b {
		for bit := range 8 {
			turned := slices.Clone(b)
			turned[at] ^= 1 << bit
			ask(at, bit, turned)
		}
	}
}
