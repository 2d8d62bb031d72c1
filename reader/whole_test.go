package reader

import (
	"fmt"
	"math"
	"math/rand"
	"slices"
	"strings"
	"testing"

	"casket/aead"
	"casket/api"
	"casket/archive"
	"casket/bits"
	"casket/chunk"
	"casket/cursor"
	"casket/delta"
	"casket/dict"
	"casket/extract"
	"casket/forpack"
	"casket/gorilla"
	"casket/hmac"
	"casket/intcodec"
	"casket/keys"
	"casket/manifest"
	"casket/pad"
	"casket/runs"
	"casket/simple"
	"casket/valcodec"
	"casket/varint"
)

// The document's promises W1 to W5, through all layers, by the calls that the chapters list.

// coder is a layer that writes numbers as bytes, and reads them again; most is how many numbers it takes, if there is such a limit.
type coder struct {
	what   string
	encode func(l []uint64) ([]byte, api.Errno)
	decode func(b []byte, n int) ([]uint64, api.Errno)
	most   int
}

func coders() []coder {
	return []coder{
		{"bits", writeBits, readBits, 0},
		{"varint", writeVarints, readVarints, 0},
		{"cursor", writeBlock, readBlock, 0},
		{"forpack", forpack.Pack, forpack.Unpack, api.MaxSamples},
		{"simple", simple.Encode, simple.Decode, api.MaxSamples},
		{"runs", runs.Encode, runs.Decode, api.MaxSamples},
		{"intcodec", writeInts, readInts, api.MaxSamples},
		{"gorilla", gorilla.Encode, gorilla.Decode, api.MaxSamples},
		{"dict", dict.Encode, dict.Decode, api.MaxSamples},
		{"valcodec", valcodec.Encode, valcodec.Decode, api.MaxSamples},
		{"chunk", writeChunk, readChunk, api.MaxSamples},
		{"aead", seal, unseal, 0},
		{"pad", writePadded, readPadded, (api.MaxBucket - 4) / 8},
		{"manifest", writeEntries, readEntries, api.MaxChunks},
	}
}

func writeBits(l []uint64) ([]byte, api.Errno) {
	var w bits.Writer
	for k, v := range l {
		e := w.Put(v>>(k%8), 64-k%8)
		f := w.Put(v&(1<<(k%8)-1), k%8)
		if e != api.OK || f != api.OK {
			return nil, api.ErrArg
		}
	}
	return w.Bytes(), api.OK
}

func readBits(b []byte, n int) ([]uint64, api.Errno) {
	r := bits.NewReader(b)
	var out []uint64
	for k := range n {
		high, e := r.Get(64 - k%8)
		low, f := r.Get(k % 8)
		if e != api.OK || f != api.OK {
			return nil, api.ErrShort
		}
		out = append(out, high<<(k%8)|low)
	}
	return out, r.End()
}

func writeVarints(l []uint64) (b []byte, e api.Errno) {
	for _, v := range l {
		b = slices.Concat(b, varint.Append(nil, v))
	}
	return b, api.OK
}

func readVarints(b []byte, n int) ([]uint64, api.Errno) {
	c := cursor.New(b)
	var out []uint64
	for range n {
		v, e := c.Varint()
		if e != api.OK {
			return nil, e
		}
		out = append(out, v)
	}
	return out, c.End()
}

// fixed are numbers in eight bytes each.
func fixed(l []uint64) []byte {
	var b []byte
	for _, v := range l {
		b = append(b, cursor.Fix(v, 8)...)
	}
	return b
}

func readFixed(b []byte, n int) ([]uint64, api.Errno) {
	c := cursor.New(b)
	var out []uint64
	for range n {
		v, e := c.Fixed(8)
		if e != api.OK {
			return nil, e
		}
		out = append(out, v)
	}
	return out, c.End()
}

func writeBlock(l []uint64) ([]byte, api.Errno) { return cursor.Block(fixed(l)), api.OK }

func readBlock(b []byte, n int) ([]uint64, api.Errno) {
	c := cursor.New(b)
	inner, e := c.Block(math.MaxInt)
	if e != api.OK {
		return nil, e
	}
	if e := c.End(); e != api.OK {
		return nil, e
	}
	return readFixed(inner, n)
}

func asInts(l []uint64) []int {
	out := make([]int, len(l))
	for i, v := range l {
		out[i] = int(v)
	}
	return out
}

func asNumbers(l []int) []uint64 {
	out := make([]uint64, len(l))
	for i, v := range l {
		out[i] = uint64(v)
	}
	return out
}

func writeInts(l []uint64) ([]byte, api.Errno) { return intcodec.Encode(asInts(l)) }

func readInts(b []byte, n int) ([]uint64, api.Errno) {
	l, e := intcodec.Decode(b, n)
	return asNumbers(l), e
}

// chunkOf has the numbers as times and as patterns.
func chunkOf(tenant string, l []uint64) api.Chunk {
	c := of(tenant)
	for _, v := range l {
		c.S = append(c.S, api.Sample{T: int(v), V: ^v})
	}
	return c
}

func writeChunk(l []uint64) ([]byte, api.Errno) { return chunk.Encode(chunkOf("ab", l)) }

func readChunk(b []byte, n int) ([]uint64, api.Errno) {
	c, e := chunk.Decode(b)
	if e != api.OK {
		return nil, e
	}
	if c.Tenant != "ab" || len(c.S) != n {
		return nil, api.ErrForm
	}
	var out []uint64
	for _, s := range c.S {
		if uint64(s.T) != ^s.V {
			return nil, api.ErrForm
		}
		out = append(out, uint64(s.T))
	}
	return out, api.OK
}

func seal(l []uint64) ([]byte, api.Errno) {
	return aead.Seal(someMaster(), mixed(12, 1), []byte("beside"), fixed(l))
}

func unseal(b []byte, n int) ([]uint64, api.Errno) {
	plain, e := aead.Open(someMaster(), mixed(12, 1), []byte("beside"), b)
	if e != api.OK {
		return nil, e
	}
	return readFixed(plain, n)
}

func writePadded(l []uint64) ([]byte, api.Errno) { return pad.Pad(fixed(l)) }

func readPadded(b []byte, n int) ([]uint64, api.Errno) {
	inner, e := pad.Unpad(b)
	if e != api.OK {
		return nil, e
	}
	return readFixed(inner, n)
}

// writeEntries is a manifest whose each entry has a number as its tenant, and a bucket that hangs on it.
func writeEntries(l []uint64) ([]byte, api.Errno) {
	m := api.Manifest{Version: 5, Prev: someRoot(), Root: someRoot()}
	for _, v := range l {
		m.Entries = append(m.Entries, api.Entry{Tenant: string(varint.Append(nil, v)), Bucket: int(v % 9)})
	}
	return manifest.Encode(m)
}

func readEntries(b []byte, n int) ([]uint64, api.Errno) {
	m, e := manifest.Decode(b)
	if e != api.OK {
		return nil, e
	}
	if m.Version != 5 || !slices.Equal(m.Prev, someRoot()) || !slices.Equal(m.Root, someRoot()) || len(m.Entries) != n {
		return nil, api.ErrForm
	}
	var out []uint64
	for _, each := range m.Entries {
		v, size, e := varint.Read([]byte(each.Tenant))
		if e != api.OK || size != len(each.Tenant) || each.Bucket != int(v%9) {
			return nil, api.ErrForm
		}
		out = append(out, v)
	}
	return out, api.OK
}

// someLists are numbers of all kinds that a layer writes in a way of its own.
func someLists() [][]uint64 {
	random := rand.New(rand.NewSource(1))
	fill := func(n int, next func(i int) uint64) []uint64 {
		out := make([]uint64, n)
		for i := range out {
			out[i] = next(i)
		}
		return out
	}
	out := [][]uint64{nil, {0}, {5}, {math.MaxUint64}, {0, math.MaxUint64}, {math.MaxUint64, 0, 1 << 63}, {1<<60 - 1}, {1 << 60}}
	for _, n := range []int{2, 3, 9, 100, 300} {
		out = append(out,
			fill(n, func(int) uint64 { return 7 }),
			fill(n, func(i int) uint64 { return uint64(1000 * i) }),
			fill(n, func(i int) uint64 { return uint64(i / 5) }),
			fill(n, func(i int) uint64 { return uint64(100 - i*i) }),
			fill(n, func(int) uint64 { return random.Uint64() % 4 }),
			fill(n, func(int) uint64 { return random.Uint64() >> random.Intn(64) }),
			fill(n, func(int) uint64 { return math.Float64bits(20 + float64(random.Intn(50))/10) }),
			fill(n, func(int) uint64 { return random.Uint64() }))
	}
	return out
}

// tooWide says that the coder refuses a number by its width: words of chapter 6 have room for 60 bits.
func tooWide(c coder, l []uint64) bool {
	return c.what == "simple" && slices.Max(append(l, 0)) >= 1<<60
}

// W1

func TestWhatIsEncodedIsDecodedToTheSame(t *testing.T) {
	for _, c := range coders() {
		for _, l := range someLists() {
			b, e := c.encode(l)
			if tooWide(c, l) {
				wantError(t, c.what+" of a number that is too wide", e, api.ErrArg)
				wantBytes(t, c.what, b, nil)
				continue
			}
			wantError(t, c.what, e, api.OK)
			back, e := c.decode(b, len(l))
			if e != api.OK || !slices.Equal(back, l) {
				t.Errorf("%s: %s and back: %s, error %d", c.what, brief(l), brief(back), int(e))
			}
		}
	}
}

func TestWhatLiesBetweenIsSummedToTheSame(t *testing.T) {
	for _, l := range someLists() {
		for k := range 4 {
			d, e := delta.Diff(asInts(l), k)
			s, f := delta.Sum(d, k)
			if e != api.OK || f != api.OK || !slices.Equal(asNumbers(s), l) {
				t.Errorf("%s and back, %d times: %s, errors %d, %d", brief(l), k, brief(s), int(e), int(f))
			}
		}
		for _, v := range l {
			if back := varint.Zag(varint.Zig(int(v))); uint64(back) != v {
				t.Errorf("Zag of Zig of %d: %d", int(v), back)
			}
		}
	}
}

// link is an archive in a row of them, each built on the state of the one ahead.
type link struct {
	thing
	prev api.State
}

// chain is a row of n archives of rising versions, of several tenants.
func chain(t *testing.T, random *rand.Rand, n int) []link {
	t.Helper()
	var out []link
	var prev api.State
	version := random.Uint64() >> 8 >> random.Intn(56)
	for range n {
		l := randomChunks(random)
		x := archiveOf(t, fmt.Sprint("version ", version), prev, version, l...)
		out = append(out, link{x, prev})
		prev, version = x.state, version+1+uint64(random.Intn(3))
	}
	return out
}

// keyOf is a tenant's, of the master that builds.
func keyOf(t *testing.T, tenant string) []byte {
	t.Helper()
	key, e := keys.Tenant(someMaster(), tenant)
	if e != api.OK {
		t.Fatalf("the key of %q: error %d", tenant, int(e))
	}
	return key
}

func tenantsOf(l []api.Chunk) []string {
	var out []string
	for _, c := range l {
		if !slices.Contains(out, c.Tenant) {
			out = append(out, c.Tenant)
		}
	}
	return out
}

// wantedOf are the tenant's of all chunks from i to j, as the archive's maker knows them.
func wantedOf(l []api.Chunk, tenant string, i, j int) []extract.Found {
	var out []extract.Found
	for place := i; place <= j; place++ {
		if l[place].Tenant == tenant {
			out = append(out, extract.Found{Index: place, Chunk: l[place]})
		}
	}
	return out
}

func sameFound(a, b extract.Found) bool { return a.Index == b.Index && sameChunk(a.Chunk, b.Chunk) }

// wantFound says that a tenant's key tells just these chunks of what was extracted.
func wantFound(t *testing.T, what string, root, key []byte, tenant string, x []byte, want []extract.Found) {
	t.Helper()
	got, e := extract.Tenant(root, key, tenant, x)
	if e != api.OK || !slices.EqualFunc(got, want, sameFound) {
		t.Errorf("%s: tenant %q: %s, error %d; want %s", what, brief(tenant), brief(got), int(e), brief(want))
	}
}

// wantOpened says that a state takes an archive, and that a reader who trusts it does, too.
func wantOpened(t *testing.T, trusted api.State, x thing) {
	t.Helper()
	l, s, e := archive.Open(someMaster(), trusted, x.b)
	wantError(t, x.what, e, api.OK)
	wantChunks(t, x.what, l, x.l)
	wantState(t, x.what, s, x.state)
	p := made(t, someMaster(), trusted)
	got, e := p.r.Offer(x.b)
	wantError(t, x.what+", offered", e, api.OK)
	wantChunks(t, x.what+", offered", got, x.l)
	wantState(t, x.what+", offered", p.r.State(), x.state)
}

// Chunks of several tenants, built, opened, offered to readers, extracted, and read by their tenants' keys.
func TestWhatIsBuiltIsReadToTheSame(t *testing.T) {
	random := rand.New(rand.NewSource(2))
	for range 25 {
		whole := made(t, someMaster(), api.State{})
		for _, x := range chain(t, random, 4) {
			wantManifest(t, x)
			wantOpened(t, api.State{Version: math.MaxUint64}, x.thing)
			wantOpened(t, x.prev, x.thing)
			wantOpened(t, x.state, x.thing)
			if x.state.Version > 0 {
				wantOpened(t, api.State{Version: x.state.Version - 1, Root: someRoot()}, x.thing)
				wantOpened(t, api.State{Version: random.Uint64() % x.state.Version, Root: x.state.Root}, x.thing)
			}
			wantError(t, x.what, whole.offerThing(t, x.thing), api.OK)
			wantReadByTenants(t, whole.r.State().Root, x.thing)
			wantSealedOneByOne(t, x.thing)
		}
	}
}

// wantManifest says that an archive is its signed manifest and its sealed chunks, and stands on the state of the one ahead.
func wantManifest(t *testing.T, x link) {
	t.Helper()
	m, signed, sealed, e := archive.Split(x.b)
	wantError(t, x.what, e, api.OK)
	wantBytes(t, x.what+": its pieces", slices.Concat(cursor.Block(signed), slices.Concat(sealed...)), x.b)
	checked, e := manifest.Check(someMaster(), signed)
	wantError(t, x.what+": its signature", e, api.OK)
	prev := make([]byte, api.HashSize)
	copy(prev, x.prev.Root)
	for _, each := range []api.Manifest{m, checked} {
		wantBytes(t, x.what+": Prev", each.Prev, prev)
		wantState(t, x.what+": the manifest", api.State{Version: each.Version, Root: each.Root}, x.state)
		if len(each.Entries) != len(x.l) {
			t.Errorf("%s: %d entries of %d chunks", x.what, len(each.Entries), len(x.l))
		}
	}
}

// wantReadByTenants says that each tenant's key tells the tenant's chunks of all that was extracted, and no other.
func wantReadByTenants(t *testing.T, root []byte, x thing) {
	t.Helper()
	if len(x.l) == 0 {
		return
	}
	last := len(x.l) - 1
	all, e := extract.Extract(x.b, 0, last)
	wantError(t, x.what+", extracted", e, api.OK)
	for _, tenant := range append(tenantsOf(x.l), "nobody's") {
		wantFound(t, x.what, root, keyOf(t, tenant), tenant, all, wantedOf(x.l, tenant, 0, last))
	}
}

// wantSealedOneByOne says that each chunk is sealed and unsealed alone as it is with the others.
func wantSealedOneByOne(t *testing.T, x thing) {
	t.Helper()
	m, _, sealed, e := archive.Split(x.b)
	wantError(t, x.what, e, api.OK)
	for i, c := range x.l {
		one, e := archive.Unseal(keyOf(t, c.Tenant), m.Version, i, m.Entries[i], sealed[i])
		wantError(t, x.what+", unsealed", e, api.OK)
		wantChunks(t, x.what+", unsealed", []api.Chunk{one}, []api.Chunk{c})
		again, bucket, e := archive.Seal(keyOf(t, c.Tenant), m.Version, i, c)
		wantError(t, x.what+", sealed", e, api.OK)
		wantBytes(t, x.what+", sealed", again, sealed[i])
		if bucket != m.Entries[i].Bucket {
			t.Errorf("%s: the bucket %d; want %d", x.what, bucket, m.Entries[i].Bucket)
		}
	}
}

// As much as a chunk may have: the greatest bucket, and the longest tenant.
func TestThereAndBackAtTheLimits(t *testing.T) {
	l := []api.Chunk{
		of(strings.Repeat("x", api.MaxTenant), wild(api.MaxSamples, 1)...),
		of("", even(api.MaxSamples)...),
		of(strings.Repeat("\x00", api.MaxTenant)),
	}
	x := archiveOf(t, "at the limits", api.State{}, math.MaxUint64-1, l...)
	wantOpened(t, api.State{}, x)
	wantOpened(t, api.State{Version: math.MaxUint64 - 2, Root: someRoot()}, x)
	wantOpened(t, x.state, x)
	for i, c := range l {
		one, e := extract.Extract(x.b, i, i)
		wantError(t, "extracted", e, api.OK)
		wantFound(t, "at the limits", x.state.Root, keyOf(t, c.Tenant), c.Tenant, one, wantedOf(l, c.Tenant, i, i))
	}
	for _, c := range coders() {
		if c.most > 0 {
			few := make([]uint64, c.most)
			b, e := c.encode(few)
			wantError(t, c.what+" at the limit", e, api.OK)
			back, e := c.decode(b, c.most)
			wantError(t, c.what+" at the limit", e, api.OK)
			if !slices.Equal(back, few) {
				t.Errorf("%s: other numbers at the limit", c.what)
			}
		}
	}
}

// wantNothingBuilt says that a call tells this error, and no bytes.
func wantNothingBuilt(t *testing.T, what string, b []byte, e, want api.Errno) {
	t.Helper()
	wantError(t, what, e, want)
	if !none(b) {
		t.Errorf("%s: %d bytes are built", what, len(b))
	}
}

// Beyond each limit the error that is named for it, and nothing built: of the layers ..
func TestBeyondALimitOfALayer(t *testing.T) {
	for _, c := range coders() {
		if c.most > 0 {
			b, e := c.encode(make([]uint64, c.most+1))
			wantNothingBuilt(t, c.what+" beyond its limit", b, e, api.ErrLong)
		}
	}
	long := strings.Repeat("x", api.MaxTenant+1)
	b, e := chunk.Encode(of(long))
	wantNothingBuilt(t, "chunk: a tenant", b, e, api.ErrLong)
	b, e = keys.Tenant(someMaster(), long)
	wantNothingBuilt(t, "keys: a tenant", b, e, api.ErrLong)
	b, e = keys.Nonce(someMaster(), 5, api.MaxChunks)
	wantNothingBuilt(t, "keys: an index", b, e, api.ErrArg)
	b, e = pad.Pad(make([]byte, api.MaxBucket-3))
	wantNothingBuilt(t, "pad: a bucket", b, e, api.ErrLong)
	b, e = hmac.Expand(someMaster(), nil, 8161)
	wantNothingBuilt(t, "hmac: bytes", b, e, api.ErrArg)
	b, e = simple.Encode([]uint64{1 << 60})
	wantNothingBuilt(t, "simple: bits", b, e, api.ErrArg)
	var w bits.Writer
	wantNothingBuilt(t, "bits: a width", w.Bytes(), w.Put(0, 65), api.ErrArg)
	_, e = cursor.New(cursor.Block(make([]byte, 6))).Block(5)
	wantError(t, "cursor: a block", e, api.ErrLong)
	if d, e := delta.Diff([]int{1}, 4); e != api.ErrArg || !none(d) {
		t.Errorf("delta: four times: %v, error %d", d, int(e))
	}
	for what, x := range map[string]struct {
		m    api.Manifest
		want api.Errno
	}{
		"a tenant":  {api.Manifest{Prev: someRoot(), Root: someRoot(), Entries: []api.Entry{{Tenant: long}}}, api.ErrLong},
		"a bucket":  {api.Manifest{Prev: someRoot(), Root: someRoot(), Entries: []api.Entry{{Bucket: 9}}}, api.ErrArg},
		"a version": {api.Manifest{Prev: someRoot(), Root: someRoot(), Version: math.MaxUint64}, api.ErrArg},
		"a root":    {api.Manifest{Prev: someRoot(), Root: mixed(33, 1)}, api.ErrArg},
		"a state":   {api.Manifest{Prev: mixed(31, 1), Root: someRoot()}, api.ErrArg},
	} {
		b, e := manifest.Encode(x.m)
		wantNothingBuilt(t, "manifest: "+what, b, e, x.want)
		b, e = manifest.Sign(someMaster(), x.m)
		wantNothingBuilt(t, "manifest: "+what+", signed", b, e, x.want)
	}
}

// .. and of an archive, whatever stands beside what is too much.
func TestBeyondALimitOfAnArchive(t *testing.T) {
	few, state := fewChunks(), api.State{Version: 5, Root: someRoot()}
	long := of(strings.Repeat("x", api.MaxTenant+1))
	much := of("a", even(api.MaxSamples+1)...)
	for what, x := range map[string]struct {
		master  []byte
		prev    api.State
		version uint64
		l       []api.Chunk
		want    api.Errno
	}{
		"a tenant":            {someMaster(), state, 6, []api.Chunk{long}, api.ErrLong},
		"a tenant, at last":   {someMaster(), state, 6, append(slices.Clone(few), long), api.ErrLong},
		"samples":             {someMaster(), state, 6, []api.Chunk{much}, api.ErrLong},
		"samples, at last":    {someMaster(), state, 6, append(slices.Clone(few), much), api.ErrLong},
		"chunks":              {someMaster(), state, 6, make([]api.Chunk, api.MaxChunks+1), api.ErrLong},
		"the version":         {someMaster(), api.State{}, math.MaxUint64, few, api.ErrArg},
		"the version, beyond": {someMaster(), state, math.MaxUint64, few, api.ErrArg},
		"a master":            {mixed(33, 3), state, 6, few, api.ErrArg},
		"a root":              {someMaster(), api.State{Version: 5, Root: mixed(33, 1)}, 6, few, api.ErrArg},
		"the version ahead":   {someMaster(), state, 5, few, api.ErrRollback},
		"a version ahead":     {someMaster(), state, 4, few, api.ErrRollback},
	} {
		b, s, e := archive.Build(x.master, x.prev, x.version, x.l)
		wantNothingBuilt(t, what, b, e, x.want)
		if !none(s) {
			t.Errorf("%s: the state %s", what, brief(s))
		}
	}
}
