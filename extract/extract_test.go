package extract

import (
	"bytes"
	"crypto/sha256"
	"encoding/hex"
	"fmt"
	"math"
	mathbits "math/bits"
	"math/rand"
	"reflect"
	"slices"
	"strings"
	"testing"

	"casket/aead"
	"casket/api"
	"casket/archive"
	"casket/chunk"
	"casket/keys"
	"casket/manifest"
	"casket/pad"
	"casket/varint"
)

// What the tests of this package are made of: things to hand in, the chapter's words by a plain way of their own, and what is wanted.

// mixed are n bytes that tell their places apart.
func mixed(n int, from byte) []byte {
	out := make([]byte, n)
	for i := range out {
		out[i] = byte(i*7) + from
	}
	return out
}

func repeated(v byte, n int) []byte { return bytes.Repeat([]byte{v}, n) }

func someMaster() []byte { return mixed(32, 3) }

// someRoot is no archive's.
func someRoot() []byte { return mixed(32, 100) }

// someKey is a tenant's key, of no master in particular.
func someKey() []byte { return mixed(32, 50) }

// wrongLengths are neither a key nor a root: they have another length than 32.
func wrongLengths() [][]byte {
	out := [][]byte{nil, {}, someMaster()[:0], someMaster()[:31], someMaster()[1:]}
	for _, n := range []int{1, 16, 31, 33, 64, 288, 65536 + 32} {
		out = append(out, mixed(n, 3), repeated(0, n))
	}
	return out
}

func goodTenants() []string {
	return []string{"", "a", "b", "ab", "\x00", "a\x00", "\xff\xfe", "é", strings.Repeat("x", 63), strings.Repeat("x", 64), strings.Repeat("\x00", 64)}
}

func longTenants() []string {
	return []string{strings.Repeat("x", 65), strings.Repeat("\x00", 65), strings.Repeat("é", 33), strings.Repeat("a", 128), strings.Repeat("x", 320), strings.Repeat("x", 1<<16)}
}

// farNumbers are no place of any archive.
func farNumbers() []int {
	return []int{-1, -2, -64, math.MinInt32, math.MinInt, math.MinInt + 1, 1 << 20, 1 << 31, 1 << 32, math.MaxInt - 1, math.MaxInt}
}

// wideNumbers are far above any place; with a small one, or with each other, many of them pass 2^64 - 1.
func wideNumbers() []uint64 {
	return []uint64{1 << 20, 1<<31 - 1, 1 << 31, 1<<32 - 1, 1 << 32, 1<<63 - 1, 1 << 63, 1<<63 + 1, math.MaxUint64 - 4, math.MaxUint64 - 1, math.MaxUint64}
}

// wrongVarints are what chapter 2 refuses, whatever stands behind it; each by ErrForm.
func wrongVarints() [][]byte {
	return [][]byte{{128, 0}, {255, 0}, {129, 128, 0}, append(repeated(255, 9), 2), append(repeated(128, 9), 0), append(repeated(128, 9), 128), repeated(255, 11)}
}

// even are n samples that take few bytes.
func even(n int) []api.Sample {
	out := make([]api.Sample, n)
	for i := range out {
		out[i] = api.Sample{T: 1000 * i, V: 5}
	}
	return out
}

// wild are n samples that take as many bytes as samples may.
func wild(n int, seed int64) []api.Sample {
	random := rand.New(rand.NewSource(seed))
	out := make([]api.Sample, n)
	for i := range out {
		out[i] = api.Sample{T: int(random.Uint64()), V: random.Uint64()}
	}
	return out
}

func of(tenant string, samples ...api.Sample) api.Chunk { return api.Chunk{Tenant: tenant, S: samples} }

// someChunks are of several tenants, numbers of samples and buckets; the first two are the same, and one tenant has several.
func someChunks() []api.Chunk {
	return []api.Chunk{
		of("a", api.Sample{T: 1, V: 2}, api.Sample{T: 3, V: 4}),
		of("a", api.Sample{T: 1, V: 2}, api.Sample{T: 3, V: 4}),
		of("b"),
		of(""),
		of(strings.Repeat("x", 64), even(3)...),
		of("b", wild(10, 1)...),
		of("a", even(100)...),
		of("\xff", api.Sample{T: math.MinInt, V: math.MaxUint64}, api.Sample{T: math.MaxInt, V: 0}),
		of("a", wild(60, 2)...),
	}
}

// fewChunks are for tests that go through each bit of what is extracted.
func fewChunks() []api.Chunk {
	return []api.Chunk{of("a", even(2)...), of("b"), of("a", api.Sample{T: 9, V: 9}), of("b", even(1)...), of("a")}
}

// manyChunks are n of few tenants.
func manyChunks(n int) []api.Chunk {
	out := make([]api.Chunk, n)
	for i := range out {
		out[i] = of(string(rune('a'+i%3)), even(i%5)...)
	}
	return out
}

// randomChunks are one at least, of few tenants, most of them short.
func randomChunks(random *rand.Rand) []api.Chunk {
	out := make([]api.Chunk, 1+random.Intn(1<<random.Intn(5)))
	for i := range out {
		out[i].Tenant = goodTenants()[random.Intn(len(goodTenants()))]
		out[i].S = wild(random.Intn(1<<random.Intn(6)), random.Int63())
		if random.Intn(2) == 0 {
			out[i].S = even(random.Intn(300))
		}
	}
	return out
}

// someArchives are lists of chunks: of none, one and several.
func someArchives() [][]api.Chunk {
	out := [][]api.Chunk{nil, fewChunks(), someChunks()}
	for _, c := range someChunks() {
		out = append(out, []api.Chunk{c})
	}
	for n := range 18 {
		out = append(out, manyChunks(n))
	}
	return out
}

// eachRange calls ask with each range of n places.
func eachRange(n int, ask func(i, j int)) {
	for i := range n {
		for j := i; j < n; j++ {
			ask(i, j)
		}
	}
}

// eachBit calls ask with each bit of b turned, of a copy.
func eachBit(b []byte, ask func(at, bit int, turned []byte)) {
	for at := range b {
		for bit := range 8 {
			turned := slices.Clone(b)
			turned[at] ^= 1 << bit
			ask(at, bit, turned)
		}
	}
}

// The chapter's words, by a plain way of their own over the packages below: all is asked, and the first error is told.

func first(errors ...api.Errno) api.Errno {
	for _, e := range errors {
		if e != api.OK {
			return e
		}
	}
	return api.OK
}

func when(wrong bool, e api.Errno) api.Errno {
	if wrong {
		return e
	}
	return api.OK
}

func varintAsSaid(v uint64) []byte { return varint.Append(nil, v) }

// blockAsSaid is bytes behind their length.
func blockAsSaid(b []byte) []byte { return slices.Concat(varintAsSaid(uint64(len(b))), b) }

func sum(parts ...[]byte) []byte {
	s := sha256.Sum256(slices.Concat(parts...))
	return s[:]
}

func leavesAsSaid(sealed [][]byte) [][]byte {
	var out [][]byte
	for _, b := range sealed {
		out = append(out, sum([]byte{0}, b))
	}
	return out
}

// leftOf is the greatest power of two that is less than n.
func leftOf(n int) int {
	k := 1
	for 2*k < n {
		k *= 2
	}
	return k
}

// topAsSaid is the top of one leaf or more, by the library's SHA-256.
func topAsSaid(leaves [][]byte) []byte {
	if len(leaves) == 1 {
		return leaves[0]
	}
	k := leftOf(len(leaves))
	return sum([]byte{1}, topAsSaid(leaves[:k]), topAsSaid(leaves[k:]))
}

// rootAsSaid is the root of all sealed chunks.
func rootAsSaid(sealed [][]byte) []byte {
	if len(sealed) == 0 {
		return sum()
	}
	return topAsSaid(leavesAsSaid(sealed))
}

// proofAsSaid is the walk through leaves of which the first one has the place lo.
func proofAsSaid(leaves [][]byte, lo, i, j int) [][]byte {
	hi := lo + len(leaves) - 1
	if i <= lo && hi <= j {
		return nil
	}
	if hi < i || j < lo {
		return [][]byte{topAsSaid(leaves)}
	}
	k := leftOf(len(leaves))
	return append(proofAsSaid(leaves[:k], lo, i, j), proofAsSaid(leaves[k:], lo+k, i, j)...)
}

// extractAsSaid is P23.1.
func extractAsSaid(b []byte, i, j int) ([]byte, api.Errno) {
	_, signed, sealed, e := archive.Split(b)
	arg := when(i < 0 || j < i || j > len(sealed)-1, api.ErrArg)
	if e := first(e, arg); e != api.OK {
		return nil, e
	}
	proof := proofAsSaid(leavesAsSaid(sealed), 0, i, j)
	return layWhole(blockAsSaid(signed), uint64(i), uint64(j-i), sealed[i:j+1], proof), api.OK
}

// layWhole is what is extracted, of any pieces.
func layWhole(block []byte, i, more uint64, sealed, proof [][]byte) []byte {
	return slices.Concat(block, varintAsSaid(i), varintAsSaid(more), slices.Concat(sealed...), varintAsSaid(uint64(len(proof))), slices.Concat(proof...))
}

// scan reads pieces, up to the first error.
type scan struct {
	rest []byte
	e    api.Errno
}

func (s *scan) fail(wrong bool, e api.Errno) {
	if s.e == api.OK && wrong {
		s.e = e
	}
}

func (s *scan) number() uint64 {
	v, n, e := varint.Read(s.rest)
	s.fail(e != api.OK, e)
	if s.e != api.OK {
		return 0
	}
	s.rest = s.rest[n:]
	return v
}

func (s *scan) piece(n uint64) []byte {
	s.fail(n > uint64(len(s.rest)), api.ErrShort)
	if s.e != api.OK {
		return nil
	}
	b := s.rest[:n]
	s.rest = s.rest[n:]
	return b
}

// readAsSaid is P23.2.
func readAsSaid(b []byte) (Range, api.Errno) {
	s := &scan{rest: b}
	length := s.number()
	s.fail(length > 1<<28, api.ErrLong)
	signed := s.piece(length)
	s.fail(len(signed) < 32, api.ErrShort)
	if s.e != api.OK {
		return Range{}, s.e
	}
	m, e := manifest.Decode(slices.Clone(signed[:len(signed)-32]))
	s.fail(e != api.OK, e)
	i, more := s.number(), s.number()
	last, carry := mathbits.Add64(i, more, 0)
	places := uint64(len(m.Entries))
	s.fail(i >= places || carry > 0 || last >= places, api.ErrForm)
	if s.e != api.OK {
		return Range{}, s.e
	}
	r := Range{Manifest: m, First: int(i)}
	for place := i; place <= last; place++ {
		r.Sealed = append(r.Sealed, s.piece(64<<(2*m.Entries[place].Bucket)+16))
	}
	sums := s.number()
	s.fail(sums > 64, api.ErrForm)
	for range min(sums, 65) {
		r.Proof = append(r.Proof, s.piece(32))
	}
	s.fail(len(s.rest) > 0, api.ErrForm)
	if s.e != api.OK {
		return Range{}, s.e
	}
	return r, api.OK
}

// rebuildAsSaid is the top that the walk through n places from lo on makes, and what it leaves of a proof; nil, if it is too short.
func rebuildAsSaid(lo, n, i int, leaves, proof [][]byte) ([]byte, [][]byte) {
	hi, j := lo+n-1, i+len(leaves)-1
	if i <= lo && hi <= j {
		return topAsSaid(leaves[lo-i : hi-i+1]), proof
	}
	if hi < i || j < lo {
		if len(proof) == 0 {
			return nil, nil
		}
		return proof[0], proof[1:]
	}
	k := leftOf(n)
	l, behind := rebuildAsSaid(lo, k, i, leaves, proof)
	if l == nil {
		return nil, nil
	}
	r, behind := rebuildAsSaid(lo+k, n-k, i, leaves, behind)
	if r == nil {
		return nil, nil
	}
	return sum([]byte{1}, l, r), behind
}

// verifyAsSaid is P23.3. (A sum of nil would be taken for none: no test hands one in.)
func verifyAsSaid(root []byte, n, i int, sealed, proof [][]byte) bool {
	if n < 1 || n > 1<<20 || len(sealed) == 0 || len(sealed) > n || i < 0 || i > n-len(sealed) {
		return false
	}
	top, behind := rebuildAsSaid(0, n, i, leavesAsSaid(sealed), proof)
	return top != nil && len(behind) == 0 && bytes.Equal(top, root)
}

// tenantAsSaid is P23.4.
func tenantAsSaid(root, key []byte, tenant string, b []byte) ([]Found, api.Errno) {
	arg := when(len(root) != 32 || len(key) != 32, api.ErrArg)
	long := when(len(tenant) > 64, api.ErrLong)
	r, e := readAsSaid(b)
	auth := when(!bytes.Equal(r.Manifest.Root, root), api.ErrAuth)
	proof := when(!verifyAsSaid(root, len(r.Manifest.Entries), r.First, r.Sealed, r.Proof), api.ErrProof)
	if e := first(arg, long, e, auth, proof); e != api.OK {
		return nil, e
	}
	var out []Found
	for place, entry := range r.Manifest.Entries {
		if at := place - r.First; at >= 0 && at < len(r.Sealed) && entry.Tenant == tenant {
			c, e := archive.Unseal(key, r.Manifest.Version, place, entry, r.Sealed[at])
			if e != api.OK {
				return nil, e
			}
			out = append(out, Found{place, c})
		}
	}
	return out, api.OK
}

// What is wanted. Each hold holds a call's answer against the chapter's words, asks that nothing stands beside an error, and tells the error.

func sameFound(a, b Found) bool {
	return a.Index == b.Index && a.Chunk.Tenant == b.Chunk.Tenant && slices.Equal(a.Chunk.S, b.Chunk.S)
}

func samePieces(a, b [][]byte) bool { return slices.EqualFunc(a, b, bytes.Equal) }

func sameManifest(a, b api.Manifest) bool {
	return a.Version == b.Version && bytes.Equal(a.Prev, b.Prev) && slices.Equal(a.Entries, b.Entries) && bytes.Equal(a.Root, b.Root)
}

func sameRange(a, b Range) bool {
	return sameManifest(a.Manifest, b.Manifest) && a.First == b.First && samePieces(a.Sealed, b.Sealed) && samePieces(a.Proof, b.Proof)
}

// none asks for zero values themselves, whose lists are nil.
func none(v any) bool { return reflect.ValueOf(v).IsZero() }

// brief is a beginning, since some things are long.
func brief(v any) string { return fmt.Sprintf("%.300s", fmt.Sprint(v)) }

func wantBytes(t *testing.T, what string, got, want []byte) {
	t.Helper()
	if !bytes.Equal(got, want) {
		t.Errorf("%s: %d bytes %s; want %d %s", what, len(got), brief(got), len(want), brief(want))
	}
}

func wantError(t *testing.T, what string, got, want api.Errno) {
	t.Helper()
	if got != want {
		t.Errorf("%s: error %d; want %d", what, int(got), int(want))
	}
}

func wantVerify(t *testing.T, what string, got, want bool) {
	t.Helper()
	if got != want {
		t.Errorf("%s: %v; want %v", what, got, want)
	}
}

func wantFound(t *testing.T, what string, got, want []Found) {
	t.Helper()
	if !slices.EqualFunc(got, want, sameFound) {
		t.Errorf("%s: %s; want %s", what, brief(got), brief(want))
	}
}

func holdExtract(t *testing.T, b []byte, i, j int) api.Errno {
	t.Helper()
	got, e := Extract(b, i, j)
	want, f := extractAsSaid(b, i, j)
	if !bytes.Equal(got, want) || e != f || e != api.OK && !none(got) {
		t.Errorf("Extract(%d bytes %s, %d, %d): %s, error %d; want %s, error %d", len(b), brief(b), i, j, brief(got), int(e), brief(want), int(f))
	}
	return e
}

func holdRead(t *testing.T, b []byte) api.Errno {
	t.Helper()
	got, e := Read(b)
	want, f := readAsSaid(b)
	if !sameRange(got, want) || e != f || e != api.OK && !none(got) {
		t.Errorf("Read(%d bytes %s): %s, error %d; want %s, error %d", len(b), brief(b), brief(got), int(e), brief(want), int(f))
	}
	return e
}

func holdVerify(t *testing.T, root []byte, n, i int, sealed, proof [][]byte) bool {
	t.Helper()
	got := Verify(root, n, i, sealed, proof)
	if want := verifyAsSaid(root, n, i, sealed, proof); got != want {
		t.Errorf("Verify(%s, %d, %d, %d sealed chunks, %d sums): %v; want %v", brief(root), n, i, len(sealed), len(proof), got, want)
	}
	return got
}

func holdTenant(t *testing.T, root, key []byte, tenant string, b []byte) api.Errno {
	t.Helper()
	got, e := Tenant(root, key, tenant, b)
	want, f := tenantAsSaid(root, key, tenant, b)
	if !slices.EqualFunc(got, want, sameFound) || e != f || e != api.OK && !none(got) {
		t.Errorf("Tenant(%s, %s, %q, %d bytes %s): %s, error %d; want %s, error %d", brief(root), brief(key), brief(tenant), len(b), brief(b), brief(got), int(e), brief(want), int(f))
	}
	return e
}

// whole is an archive that was built, and what it is made of.
type whole struct {
	b      []byte
	s      api.State
	l      []api.Chunk
	m      api.Manifest
	signed []byte
	sealed [][]byte
}

func built(t testing.TB, l ...api.Chunk) whole {
	t.Helper()
	b, s, e := archive.Build(someMaster(), api.State{Version: 257, Root: someRoot()}, 258, l)
	m, signed, sealed, f := archive.Split(b)
	if e := first(e, f); e != api.OK {
		t.Fatalf("an archive of %d chunks: error %d", len(l), int(e))
	}
	return whole{b, s, l, m, signed, sealed}
}

// wantedOf are the tenant's chunks of a range, as the archive's maker knows them.
func (w whole) wantedOf(tenant string, i, j int) []Found {
	var out []Found
	for place := i; place <= j; place++ {
		if w.l[place].Tenant == tenant {
			out = append(out, Found{place, w.l[place]})
		}
	}
	return out
}

// extracted is a range that must be extracted.
func extracted(t *testing.T, b []byte, i, j int) []byte {
	t.Helper()
	x, e := Extract(b, i, j)
	if e != api.OK {
		t.Fatalf("Extract of %d to %d: error %d", i, j, int(e))
	}
	return x
}

// readBack is a range that must be read.
func readBack(t *testing.T, b []byte) Range {
	t.Helper()
	r, e := Read(b)
	if e != api.OK {
		t.Fatalf("Read of %s: error %d", brief(b), int(e))
	}
	return r
}

func keyOf(t *testing.T, tenant string) []byte {
	t.Helper()
	key, e := keys.Tenant(someMaster(), tenant)
	if e != api.OK {
		t.Fatalf("keys.Tenant: error %d", int(e))
	}
	return key
}

func unhex(t *testing.T, text string) []byte {
	t.Helper()
	b, err := hex.DecodeString(text)
	if err != nil {
		t.Fatal(err)
	}
	return b
}

// textOf is a manifest's bytes.
func textOf(t *testing.T, m api.Manifest) []byte {
	t.Helper()
	text, e := manifest.Encode(m)
	if e != api.OK {
		t.Fatalf("manifest.Encode: error %d", int(e))
	}
	return text
}

// manifestOf has these entries, and a root that is nobody's.
func manifestOf(entries ...api.Entry) api.Manifest {
	return api.Manifest{Version: 258, Prev: make([]byte, 32), Entries: entries, Root: someRoot()}
}

// asSigned is a block of a manifest's bytes, or of what is none, and 32 bytes behind it that nobody asks.
func asSigned(text []byte) []byte { return blockAsSaid(slices.Concat(text, mixed(32, 77))) }

func encoded(t *testing.T, c api.Chunk) []byte {
	t.Helper()
	b, e := chunk.Encode(c)
	if e != api.OK {
		t.Fatalf("chunk.Encode: error %d", int(e))
	}
	return b
}

func mustPad(t *testing.T, b []byte) []byte {
	t.Helper()
	padded, e := pad.Pad(b)
	if e != api.OK {
		t.Fatalf("pad.Pad: error %d", int(e))
	}
	return padded
}

// sealPadded seals what may be no chunk's bytes, as a chunk of that tenant and place in an archive of version 258.
func sealPadded(t *testing.T, tenant string, index int, padded []byte) []byte {
	t.Helper()
	key := keyOf(t, tenant)
	seal, e := keys.Seal(key)
	nonce, f := keys.Nonce(key, 258, index)
	beside := slices.Concat([]byte{0, 0, 0, 0, 0, 0, 1, 2, 0, 0, byte(index >> 8), byte(index)}, blockAsSaid([]byte(tenant)))
	sealed, g := aead.Seal(seal, nonce, beside, padded)
	if e := first(e, f, g); e != api.OK {
		t.Fatalf("sealing by hand: error %d", int(e))
	}
	return sealed
}
