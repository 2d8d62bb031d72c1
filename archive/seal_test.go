package archive

import (
	"bytes"
	"fmt"
	"math"
	"math/rand"
	"slices"
	"strings"
	"testing"

	"casket/api"
	"casket/chunk"
	"casket/keys"
	"casket/pad"
)

// P22.1 and P22.2

func TestSealAndUnsealByAnyKeyVersionAndIndex(t *testing.T) {
	c := of("a", even(2)...)
	for _, key := range goodKeys() {
		for _, version := range append(goodVersions(), math.MaxUint64) { // keys.Nonce takes every version
			for _, index := range goodIndexes() {
				wantSealedAndBack(t, key, version, index, c)
			}
		}
	}
}

func TestSealAndUnsealOfAnyChunk(t *testing.T) {
	for i, c := range slices.Concat(someChunks(), chunksOfEachBucket()) {
		wantSealedAndBack(t, someKey(), 258, i, c)
	}
	for _, tenant := range goodTenants() {
		for _, samples := range [][]api.Sample{nil, {}, even(1), wild(3, 3)} {
			wantSealedAndBack(t, someKey(), 258, 3, of(tenant, samples...))
		}
	}
	random := rand.New(rand.NewSource(22))
	for range 100 {
		for i, c := range randomChunks(random) {
			wantSealedAndBack(t, mixed(32, byte(random.Intn(256))), random.Uint64(), i, c)
		}
	}
}

// A chunk that was sealed by another one's work: RFC 8439's sealing, HMAC and SHA-256, put together by the chapters' words outside of this program.
func TestAWrittenOutSealing(t *testing.T) {
	want := unhex(t, "771a53961a2db478cca3330ff98b4ad8025cf8a49230f8b3d79aca5f58130174"+
		"b8a1c07d11586a93fa7824dc65e7472b7cb5404457bc999bb0f3da1fde8e94e6"+
		"fedf36ff5b7fdb3d3d521bb190ed1201")
	c := of("a", api.Sample{T: 5, V: 7})
	sealed, bucket, e := Seal(someKey(), 258, 3, c)
	wantError(t, "Seal", e, api.OK)
	wantBytes(t, "Seal", sealed, want)
	back, e := Unseal(someKey(), 258, 3, api.Entry{Tenant: "a"}, want)
	if bucket != 0 || !sameChunk(back, c) || e != api.OK {
		t.Errorf("the bucket %d; and back: %v, error %d", bucket, back, int(e))
	}
}

func TestEveryBucket(t *testing.T) {
	for k, c := range chunksOfEachBucket() {
		sealed, bucket, e := Seal(someKey(), 258, 3, c)
		if e != api.OK || bucket != k || len(sealed) != 64<<(2*k)+16 {
			t.Errorf("%d samples: %d bytes of the bucket %d, error %d; want the bucket %d", len(c.S), len(sealed), bucket, int(e), k)
		}
	}
}

// A bucket of 64 has room for 60 bytes beside their length: what has more falls into the next one.
func TestTheLastBytesOfABucket(t *testing.T) {
	var seen [2]int
	for n := range 65 {
		c := of(strings.Repeat("x", n))
		b, _ := chunk.Encode(c)
		want := 0
		if len(b) > 60 {
			want = 1
		}
		seen[want]++
		if _, bucket, e := Seal(someKey(), 258, 3, c); bucket != want || e != api.OK {
			t.Errorf("%d bytes: the bucket %d, error %d; want %d", len(b), bucket, int(e), want)
		}
		wantSealedAndBack(t, someKey(), 258, 3, c)
	}
	if seen[0] == 0 || seen[1] == 0 {
		t.Errorf("not both were tried: %v", seen)
	}
}

// What has the same bucket is as long, whatever it is, and sealed bytes tell nothing of it in their own.
func TestSealedBytesTellTheBucketAlone(t *testing.T) {
	few, _, _ := Seal(someKey(), 258, 3, of(""))
	more, _, _ := Seal(someKey(), 258, 3, of("a", even(4)...))
	if len(few) != 80 || len(more) != 80 {
		t.Errorf("%d and %d bytes; want 80", len(few), len(more))
	}
	if bytes.Contains(few, make([]byte, 8)) {
		t.Errorf("bytes 0 are to be seen: %v", few)
	}
}

// The same chunk has other bytes wherever its key, version or index is another one.
func TestSealsThatDiffer(t *testing.T) {
	c := of("a", even(2)...)
	seen := map[string]string{}
	for _, key := range goodKeys() {
		for _, version := range goodVersions() {
			for _, index := range goodIndexes() {
				sealed, _, _ := Seal(key, version, index, c)
				what := fmt.Sprint(key, version, index)
				if other, ok := seen[string(sealed[:64])]; ok {
					t.Errorf("the same bytes: %s, and %s", what, other)
				}
				seen[string(sealed[:64])] = what
			}
		}
	}
}

func TestSealByWrongKeys(t *testing.T) {
	for _, key := range wrongKeys() {
		wantError(t, "Seal by a wrong key", holdSeal(t, key, 258, 3, of("a")), api.ErrArg)
		wantError(t, "Seal by a wrong key, of a chunk that is refused", holdSeal(t, key, 258, 3, of(longTenants()[0])), api.ErrArg)
		wantError(t, "Seal by a wrong key and index", holdSeal(t, key, 258, -1, of("a")), api.ErrArg)
	}
}

func TestSealAtWrongIndexes(t *testing.T) {
	for _, index := range wrongIndexes() {
		wantError(t, "Seal at a wrong index", holdSeal(t, someKey(), 258, index, of("a")), api.ErrArg)
		wantError(t, "Seal at a wrong index, of a chunk that is refused", holdSeal(t, someKey(), 258, index, of(longTenants()[0])), api.ErrArg)
	}
}

func TestSealOfRefusedChunks(t *testing.T) {
	for _, c := range refusedChunks() {
		wantError(t, "Seal of "+brief(c), holdSeal(t, someKey(), 258, 3, c), api.ErrLong)
	}
}

// sealedOf is a chunk that must be sealed, and its entry.
func sealedOf(t *testing.T, c api.Chunk) ([]byte, api.Entry) {
	t.Helper()
	sealed, bucket, e := Seal(someKey(), 258, 3, c)
	if e != api.OK {
		t.Fatalf("Seal of %s: error %d", brief(c), int(e))
	}
	return sealed, api.Entry{Tenant: c.Tenant, Bucket: bucket}
}

func TestUnsealByWrongKeys(t *testing.T) {
	sealed, entry := sealedOf(t, of("a", even(2)...))
	for _, key := range wrongKeys() {
		wantError(t, "a wrong key", holdUnseal(t, key, 258, 3, entry, sealed), api.ErrArg)
		wantError(t, "a wrong key and index", holdUnseal(t, key, 258, -1, entry, sealed), api.ErrArg)
		wantError(t, "a wrong key, a long tenant", holdUnseal(t, key, 258, 3, api.Entry{Tenant: longTenants()[0]}, sealed), api.ErrArg)
		wantError(t, "a wrong key, no bytes", holdUnseal(t, key, 258, 3, entry, nil), api.ErrArg)
	}
}

func TestUnsealAtWrongIndexes(t *testing.T) {
	sealed, entry := sealedOf(t, of("a", even(2)...))
	for _, index := range wrongIndexes() {
		wantError(t, "a wrong index", holdUnseal(t, someKey(), 258, index, entry, sealed), api.ErrArg)
		wantError(t, "a wrong index, a long tenant", holdUnseal(t, someKey(), 258, index, api.Entry{Tenant: longTenants()[0]}, sealed), api.ErrArg)
		wantError(t, "a wrong index, no bytes", holdUnseal(t, someKey(), 258, index, entry, nil), api.ErrArg)
	}
}

func TestUnsealForLongTenants(t *testing.T) {
	sealed, _ := sealedOf(t, of("a", even(2)...))
	for _, tenant := range longTenants() {
		entry := api.Entry{Tenant: tenant}
		wantError(t, "a long tenant", holdUnseal(t, someKey(), 258, 3, entry, sealed), api.ErrLong)
		wantError(t, "a long tenant, no bytes", holdUnseal(t, someKey(), 258, 3, entry, nil), api.ErrLong)
		byHand := sealPadded(t, someKey(), 258, 3, tenant, make([]byte, 64))
		wantError(t, "a long tenant, with a tag that fits", holdUnseal(t, someKey(), 258, 3, entry, byHand), api.ErrLong)
	}
}

func TestUnsealElsewhere(t *testing.T) {
	sealed, entry := sealedOf(t, of("a", even(2)...))
	wantError(t, "where it was sealed", holdUnseal(t, someKey(), 258, 3, entry, sealed), api.OK)
	for _, key := range [][]byte{someMaster(), repeated(0, 32), mixed(32, 51)} {
		wantError(t, "another key", holdUnseal(t, key, 258, 3, entry, sealed), api.ErrAuth)
	}
	eachBit(someKey(), func(at, bit int, turned []byte) {
		wantError(t, "a key with a bit turned", holdUnseal(t, turned, 258, 3, entry, sealed), api.ErrAuth)
	})
	for _, version := range []uint64{0, 3, 257, 259, 258 << 8, 258 << 32, math.MaxUint64} {
		wantError(t, "another version", holdUnseal(t, someKey(), version, 3, entry, sealed), api.ErrAuth)
	}
	for _, index := range []int{0, 1, 2, 4, 258, 3 << 8, 3 << 16, 1<<20 - 1} {
		wantError(t, "another index", holdUnseal(t, someKey(), 258, index, entry, sealed), api.ErrAuth)
	}
	for _, tenant := range goodTenants() {
		if tenant != "a" {
			wantError(t, "another tenant", holdUnseal(t, someKey(), 258, 3, api.Entry{Tenant: tenant}, sealed), api.ErrAuth)
		}
	}
	for _, bucket := range wrongBuckets() {
		wantError(t, "another bucket", holdUnseal(t, someKey(), 258, 3, api.Entry{Tenant: "a", Bucket: bucket}, sealed), api.ErrForm)
		wantError(t, "another bucket, another key", holdUnseal(t, someMaster(), 258, 3, api.Entry{Tenant: "a", Bucket: bucket}, sealed), api.ErrAuth)
	}
}

func TestUnsealForTheBucketAlone(t *testing.T) {
	for k, c := range chunksOfEachBucket()[:6] {
		sealed, _ := sealedOf(t, c)
		for bucket := -1; bucket <= 9; bucket++ {
			want := api.ErrForm
			if bucket == k {
				want = api.OK
			}
			wantError(t, "a bucket", holdUnseal(t, someKey(), 258, 3, api.Entry{Tenant: "a", Bucket: bucket}, sealed), want)
		}
	}
}

func TestUnsealOfAnyBitTurned(t *testing.T) {
	for _, c := range []api.Chunk{of(""), of("a", even(2)...), of("b", wild(10, 1)...)} {
		sealed, entry := sealedOf(t, c)
		eachBit(sealed, func(at, bit int, turned []byte) {
			wantError(t, fmt.Sprint("the bit ", bit, " of the byte ", at), holdUnseal(t, someKey(), 258, 3, entry, turned), api.ErrAuth)
		})
	}
}

func TestUnsealOfFewerOrMoreBytes(t *testing.T) {
	sealed, entry := sealedOf(t, of("a", even(2)...))
	for n := range sealed {
		want := api.ErrAuth
		if n < 16 {
			want = api.ErrShort
		}
		wantError(t, "a beginning", holdUnseal(t, someKey(), 258, 3, entry, sealed[:n]), want)
		wantError(t, "an end", holdUnseal(t, someKey(), 258, 3, entry, sealed[len(sealed)-n:]), want)
	}
	wantError(t, "nil", holdUnseal(t, someKey(), 258, 3, entry, nil), api.ErrShort)
	for _, n := range []int{1, 16, 64, 80, 192, 1000} {
		wantError(t, "bytes 0 behind it", holdUnseal(t, someKey(), 258, 3, entry, slices.Concat(sealed, make([]byte, n))), api.ErrAuth)
		wantError(t, "bytes 0 ahead of it", holdUnseal(t, someKey(), 258, 3, entry, slices.Concat(make([]byte, n), sealed)), api.ErrAuth)
	}
	wantError(t, "twice", holdUnseal(t, someKey(), 258, 3, entry, slices.Concat(sealed, sealed)), api.ErrAuth)
}

func mustPad(t *testing.T, b []byte) []byte {
	t.Helper()
	padded, e := pad.Pad(b)
	if e != api.OK {
		t.Fatalf("pad.Pad: error %d", int(e))
	}
	return padded
}

func encoded(t *testing.T, c api.Chunk) []byte {
	t.Helper()
	b, e := chunk.Encode(c)
	if e != api.OK {
		t.Fatalf("chunk.Encode: error %d", int(e))
	}
	return b
}

// inside is what is sealed with a tag that fits, and why it is no chunk of tenant "a".
type inside struct {
	what   string
	padded []byte
	want   api.Errno
}

func wrongInsides(t *testing.T) []inside {
	t.Helper()
	b := encoded(t, of("a", even(2)...))
	padded := mustPad(t, b)
	turned := slices.Clone(padded)
	turned[63] = 1
	longTenant := slices.Concat([]byte{1, 65}, repeated(120, 65), []byte{0, 1, 0, 1, 0})
	return []inside{
		{"nothing", nil, api.ErrForm},
		{"a chunk that is not padded", b, api.ErrForm},
		{"a byte too few", padded[:63], api.ErrForm},
		{"a byte too many", slices.Concat(padded, []byte{0}), api.ErrForm},
		{"a greater bucket", slices.Concat(padded, make([]byte, 192)), api.ErrForm},
		{"a last byte that is not 0", turned, api.ErrForm},
		{"a length that says more", repeated(255, 64), api.ErrForm},
		{"no bytes, padded", mustPad(t, nil), api.ErrShort},
		{"another first byte", mustPad(t, slices.Concat([]byte{2}, b[1:])), api.ErrForm},
		{"a chunk's beginning", mustPad(t, b[:len(b)-1]), api.ErrShort},
		{"a byte behind a chunk", mustPad(t, slices.Concat(b, []byte{0})), api.ErrForm},
		{"a chunk of a long tenant", mustPad(t, longTenant), api.ErrLong},
		{"a chunk of too many samples", mustPad(t, []byte{1, 1, 97, 129, 128, 4, 1, 0, 1, 0}), api.ErrLong},
		{"another tenant's chunk", mustPad(t, encoded(t, of("b", even(2)...))), api.ErrForm},
		{"a chunk of no tenant", mustPad(t, encoded(t, of("", even(2)...))), api.ErrForm},
		{"a chunk of a tenant that begins so", mustPad(t, encoded(t, of("aa", even(2)...))), api.ErrForm},
	}
}

func TestUnsealOfWrongInsides(t *testing.T) {
	for _, x := range wrongInsides(t) {
		sealed := sealPadded(t, someKey(), 258, 3, "a", x.padded)
		for _, bucket := range []int{0, 1, 2, -1, 9} {
			wantError(t, x.what, holdUnseal(t, someKey(), 258, 3, api.Entry{Tenant: "a", Bucket: bucket}, sealed), x.want)
		}
		sealed[0] ^= 1
		if len(x.padded) > 0 {
			wantError(t, x.what+", turned", holdUnseal(t, someKey(), 258, 3, api.Entry{Tenant: "a"}, sealed), api.ErrAuth)
		}
	}
}

// A chunk that was sealed with something else beside it, or by a key or nonce that is near the right one, is not opened.
func TestUnsealOfWhatWasSealedOtherwise(t *testing.T) {
	padded := mustPad(t, encoded(t, of("a", even(2)...)))
	seal, _ := keys.Seal(someKey())
	nonce, _ := keys.Nonce(someKey(), 258, 3)
	right := besideAsSaid(258, 3, "a")
	entry := api.Entry{Tenant: "a"}
	wantError(t, "as said", holdUnseal(t, someKey(), 258, 3, entry, aeadSeal(t, seal, nonce, right, padded)), api.OK)
	for what, beside := range map[string][]byte{
		"nothing":               nil,
		"no tenant":             right[:12],
		"a tenant, no length":   slices.Concat(right[:12], []byte("a")),
		"the tenant alone":      []byte{1, 97},
		"no index":              slices.Concat(right[:8], right[12:]),
		"no version":            right[8:],
		"an index of eight":     slices.Concat(right[:8], make([]byte, 4), right[8:]),
		"the lowest byte first": {2, 1, 0, 0, 0, 0, 0, 0, 3, 0, 0, 0, 1, 97},
		"the index first":       slices.Concat(right[8:12], right[:8], right[12:]),
		"a byte more":           slices.Concat(right, []byte{0}),
		"the bucket":            slices.Concat(right, []byte{0, 0}),
	} {
		wantError(t, "beside it "+what, holdUnseal(t, someKey(), 258, 3, entry, aeadSeal(t, seal, nonce, beside, padded)), api.ErrAuth)
	}
	wantError(t, "by the tenant's key itself", holdUnseal(t, someKey(), 258, 3, entry, aeadSeal(t, someKey(), nonce, right, padded)), api.ErrAuth)
	wantError(t, "by a nonce of nothing", holdUnseal(t, someKey(), 258, 3, entry, aeadSeal(t, seal, make([]byte, 12), right, padded)), api.ErrAuth)
	other, _ := keys.Nonce(seal, 258, 3)
	wantError(t, "by the sealing key's nonce", holdUnseal(t, someKey(), 258, 3, entry, aeadSeal(t, seal, other, right, padded)), api.ErrAuth)
}

// Of several faults the one that the chapter names first is told: each set of them is tried.
func TestSeveralFaultsOfUnseal(t *testing.T) {
	errors := []api.Errno{api.ErrArg, api.ErrArg, api.ErrLong, api.ErrShort, api.ErrAuth, api.ErrForm, api.ErrShort, api.ErrForm, api.ErrForm}
	for set := range 1 << len(errors) {
		has := func(k int) bool { return set>>k&1 == 1 }
		key, index, c, entry := someKey(), 3, of("a", even(2)...), api.Entry{Tenant: "a"}
		if has(2) {
			entry.Tenant = longTenants()[0]
		}
		if has(7) {
			c.Tenant = "c"
		}
		b := encoded(t, c)
		if has(6) {
			b = b[:len(b)-1]
		}
		padded := mustPad(t, b)
		if has(5) {
			padded = append(padded, 0)
		}
		sealed := sealPadded(t, key, 258, index, entry.Tenant, padded)
		if has(4) {
			sealed[0] ^= 1
		}
		if has(3) {
			sealed = sealed[:15]
		}
		if has(0) {
			key = key[:31]
		}
		if has(1) {
			index = -1
		}
		if has(8) {
			entry.Bucket = 1
		}
		want := api.OK
		for k := len(errors) - 1; k >= 0; k-- {
			if has(k) {
				want = errors[k]
			}
		}
		wantError(t, fmt.Sprintf("the faults %b", set), holdUnseal(t, key, 258, index, entry, sealed), want)
	}
}
