package reader

import (
	"fmt"
	mathbits "math/bits"
	"math/rand"
	"slices"
	"testing"

	"casket/api"
	"casket/archive"
	"casket/chunk"
	"casket/cursor"
	"casket/extract"
	"casket/manifest"
	"casket/pad"
)

// W2

// turned are b's bytes with something done to them.
func turned(random *rand.Rand, b []byte) []byte {
	if len(b) == 0 {
		return []byte{byte(random.Intn(256))}
	}
	at := random.Intn(len(b))
	to := at + random.Intn(len(b)-at)
	switch random.Intn(6) {
	case 0:
		return slices.Delete(slices.Clone(b), at, at+1)
	case 1:
		return slices.Insert(slices.Clone(b), at, byte(random.Intn(256)))
	case 2:
		return slices.Concat(b[:at], []byte{byte(random.Intn(256))}, b[at+1:])
	case 3:
		return slices.Concat(b[:at], b[to:])
	case 4:
		return slices.Concat(b[:to], b[at:])
	default:
		out := slices.Clone(b)
		slices.Reverse(out[at:to])
		return out
	}
}

// wantOneWay says that bytes that are decoded are those that are encoded of what they are; and whether they were decoded.
func wantOneWay(t *testing.T, c coder, b []byte, n int) bool {
	t.Helper()
	l, e := c.decode(b, n)
	if e != api.OK {
		return false
	}
	again, e := c.encode(l)
	if e != api.OK || !slices.Equal(again, b) {
		t.Errorf("%s: %s is decoded to %s, of which %s is encoded, error %d", c.what, brief(b), brief(l), brief(again), int(e))
	}
	return true
}

func TestBytesThatAreDecodedAreThoseThatAreEncoded(t *testing.T) {
	random := rand.New(rand.NewSource(5))
	for _, c := range coders() {
		decoded, other := 0, 0
		for _, l := range someLists() {
			if tooWide(c, l) {
				continue
			}
			b, e := c.encode(l)
			wantError(t, c.what, e, api.OK)
			for range 60 {
				x := turned(random, b)
				for _, n := range []int{len(l), len(l) - 1, len(l) + 1} {
					if wantOneWay(t, c, x, n) {
						decoded++
						if !slices.Equal(x, b) {
							other++
						}
					}
				}
			}
		}
		for range 3000 {
			b := make([]byte, random.Intn(20))
			random.Read(b)
			if len(b) > 0 && random.Intn(2) == 0 {
				b[0] %= 5
			}
			if wantOneWay(t, c, b, random.Intn(5)) {
				decoded++
			}
		}
		if decoded < 10 {
			t.Errorf("%s: %d were decoded: the test asks too little", c.what, decoded)
		}
		if c.what == "aead" && other > 0 {
			t.Errorf("%s: %d others than were sealed are opened", c.what, other)
		}
	}
}

// Other bytes than were built are taken by nobody: not by who trusts these, nor nothing, nor a lesser version.
func TestOtherBytesThanWereBuiltAreFound(t *testing.T) {
	random := rand.New(rand.NewSource(6))
	for range 20 {
		l := randomChunks(random)
		l = l[:min(len(l), 4)]
		x := archiveOf(t, "version 5", api.State{}, 5, l...)
		readers := []pair{made(t, someMaster(), x.state), made(t, someMaster(), api.State{}), made(t, someMaster(), api.State{Version: 4, Root: someRoot()})}
		ask := func(other []byte) {
			for _, p := range readers {
				if e := p.offer(t, "other bytes", other); (e == api.OK) != slices.Equal(other, x.b) {
					t.Errorf("%d bytes of which %d were built: error %d", len(other), len(x.b), int(e))
				}
			}
		}
		for range 100 {
			ask(turned(random, x.b))
		}
		for range 20 {
			ask(x.b[:random.Intn(len(x.b))])
		}
		ask(x.b)
	}
}

func TestEachBitOfAnArchiveIsFound(t *testing.T) {
	x := archiveOf(t, "version 5", api.State{}, 5, fewChunks()...)
	for _, trusted := range []api.State{x.state, {}} {
		p := made(t, someMaster(), trusted)
		eachBit(x.b, func(at, bit int, turned []byte) {
			if e := p.offer(t, "a bit turned", turned); e == api.OK {
				t.Errorf("the bit %d of the byte %d: taken", bit, at)
			}
		})
		wantState(t, "behind all bits", p.r.State(), trusted)
	}
}

// What was extracted is told otherwise by no bit that is turned, once its manifest's signature is asked, too.
func TestEachBitOfARangeIsFound(t *testing.T) {
	x := archiveOf(t, "version 5", api.State{}, 5, fewChunks()...)
	for _, ends := range [][2]int{{0, 2}, {1, 1}, {1, 2}} {
		b, e := extract.Extract(x.b, ends[0], ends[1])
		wantError(t, "Extract", e, api.OK)
		key, want := keyOf(t, "a"), wantedOf(x.l, "a", ends[0], ends[1])
		wantFound(t, "as it is", x.state.Root, key, "a", b, want)
		eachBit(b, func(at, bit int, turned []byte) {
			got, e := extract.Tenant(x.state.Root, key, "a", turned)
			signed, f := cursor.New(turned).Block(1 << 28)
			if f == api.OK {
				_, f = manifest.Check(someMaster(), signed)
			}
			if e == api.OK && f == api.OK {
				t.Errorf("the bit %d of the byte %d: %s is told, and signed", bit, at, brief(got))
			}
			for _, each := range got {
				if !slices.ContainsFunc(want, func(w extract.Found) bool { return sameFound(w, each) }) {
					t.Errorf("the bit %d of the byte %d: another chunk, %s", bit, at, brief(each))
				}
			}
		})
	}
}

// Chunks that are not those of a root are found by who trusts it, even where the master has signed that root.
func TestChunksUnderAnotherRootAreFound(t *testing.T) {
	one := archiveOf(t, "the one", api.State{}, 5, fewChunks()...)
	other := archiveOf(t, "the other", api.State{}, 5, slices.Concat(fewChunks()[:2], fewChunks()[:1])...)
	p, q := split(t, one.b), split(t, other.b)
	mixed := slices.Concat(cursor.Block(p.signed), slices.Concat(q.sealed...))
	signedAnew, e := manifest.Sign(someMaster(), api.Manifest{Version: 5, Prev: p.m.Prev, Entries: p.m.Entries, Root: someRoot()})
	wantError(t, "Sign", e, api.OK)
	anew := slices.Concat(cursor.Block(signedAnew), slices.Concat(p.sealed...))
	for _, trusted := range []api.State{{}, {Version: 4, Root: someRoot()}, one.state} {
		r := made(t, someMaster(), trusted)
		wantError(t, "the other's chunks under the one's root", r.offer(t, "mixed", mixed), api.ErrAuth)
		wantError(t, "the one", r.offer(t, "the one", one.b), api.OK)
	}
	for _, trusted := range []api.State{{}, {Version: 4, Root: someRoot()}, {Version: 5, Root: someRoot()}} {
		r := made(t, someMaster(), trusted)
		wantError(t, "the one's chunks under a root of nobody's, signed", r.offer(t, "anew", anew), api.ErrAuth)
	}
	r := made(t, someMaster(), one.state)
	wantError(t, "a root of nobody's, for who trusts the one", r.offer(t, "anew", anew), api.ErrFork)
	x, e := extract.Extract(anew, 0, 2)
	wantError(t, "Extract", e, api.OK)
	_, e = extract.Tenant(someRoot(), keyOf(t, "a"), "a", x)
	wantError(t, "a range of it, for who trusts that root", e, api.ErrProof)
}

// W3

// A reader who is offered a row of archives, with another one of each version among them, in any order.
func TestTrustNeverGoesBack(t *testing.T) {
	random := rand.New(rand.NewSource(7))
	for range 20 {
		var things []thing
		row := chain(t, random, 5)
		for _, x := range row {
			other := archiveOf(t, "another one of "+x.what, x.prev, x.state.Version, append(slices.Clone(x.l), of("other"))...)
			cut := refused(x.what+", cut off", x.b[:len(x.b)-1], api.ErrShort)
			forged := refused(x.what+", its signature turned", turnedAt(x.b, sealedBytes(t, x.b)+1), api.ErrAuth)
			things = append(things, x.thing, other, cut, forged)
		}
		p := made(t, someMaster(), api.State{})
		var story []event
		for range 3 {
			for _, k := range random.Perm(len(things)) {
				x, ahead := things[k], p.r.State()
				_, s, e := archive.Open(someMaster(), ahead, x.b)
				wantError(t, x.what, p.offerThing(t, x), e)
				if e == api.OK {
					wantState(t, x.what, p.r.State(), s)
				}
				story = append(story, event{x, ahead, p.r.State(), e})
			}
		}
		holdFollows(t, story)
		if got, want := p.r.State().Version, row[len(row)-1].state.Version; got != want {
			t.Errorf("behind all of them: version %d is trusted; want %d", got, want)
		}
	}
}

// sealedBytes is how many bytes stand behind the manifest.
func sealedBytes(t *testing.T, b []byte) int {
	t.Helper()
	return len(slices.Concat(split(t, b).sealed...))
}

func TestOlderOnesAndOthersOfTheSameVersion(t *testing.T) {
	random := rand.New(rand.NewSource(8))
	for range 20 {
		row := chain(t, random, 5)
		for k, trusted := range row {
			p := made(t, someMaster(), trusted.state)
			for _, older := range row[:k] {
				_, _, e := archive.Open(someMaster(), trusted.state, older.b)
				wantError(t, older.what+", opened", e, api.ErrRollback)
				wantError(t, older.what+", offered", p.offerThing(t, older.thing), api.ErrRollback)
			}
			other := archiveOf(t, "another one", trusted.prev, trusted.state.Version, append(slices.Clone(trusted.l), of("other"))...)
			_, _, e := archive.Open(someMaster(), trusted.state, other.b)
			wantError(t, "another one, opened", e, api.ErrFork)
			wantError(t, "another one, offered", p.offerThing(t, other), api.ErrFork)
			wantError(t, "the same", p.offerThing(t, trusted.thing), api.OK)
			wantState(t, "what is trusted", p.r.State(), trusted.state)
			_, _, e = archive.Build(someMaster(), p.r.State(), trusted.state.Version, trusted.l)
			wantError(t, "the same version, built on it", e, api.ErrRollback)
			for _, newer := range row[k:] {
				wantError(t, newer.what, p.offerThing(t, newer.thing), api.OK)
			}
		}
	}
}

// Who reads ranges by a reader's root is told nothing of an archive that is not trusted any more.
func TestRangesOfWhatIsTrusted(t *testing.T) {
	l := fewChunks()
	older := archiveOf(t, "version 3", api.State{}, 3, l...)
	newer := archiveOf(t, "version 4", older.state, 4, l...)
	x, e := extract.Extract(older.b, 0, 2)
	wantError(t, "Extract", e, api.OK)
	y, e := extract.Extract(newer.b, 0, 2)
	wantError(t, "Extract", e, api.OK)
	p := made(t, someMaster(), api.State{})
	p.offerThing(t, older)
	wantFound(t, "version 3", p.r.State().Root, keyOf(t, "a"), "a", x, wantedOf(l, "a", 0, 2))
	p.offerThing(t, newer)
	wantFound(t, "version 4", p.r.State().Root, keyOf(t, "a"), "a", y, wantedOf(l, "a", 0, 2))
	got, e := extract.Tenant(p.r.State().Root, keyOf(t, "a"), "a", x)
	wantError(t, "version 3, when 4 is trusted", e, api.ErrAuth)
	if !none(got) {
		t.Errorf("chunks beside the error: %s", brief(got))
	}
}

// W4

func bucketOf(t *testing.T, c api.Chunk) int {
	t.Helper()
	b, e := chunk.Encode(c)
	k, f := pad.Bucket(len(b))
	if e != api.OK || f != api.OK {
		t.Fatalf("the bucket of %s: errors %d, %d", brief(c), int(e), int(f))
	}
	return k
}

// another has other samples than c, within the same bucket.
func another(t *testing.T, random *rand.Rand, c api.Chunk) api.Chunk {
	t.Helper()
	for {
		out := of(c.Tenant, wild(random.Intn(2*len(c.S)+3), random.Int63())...)
		if random.Intn(2) == 0 {
			out.S = even(random.Intn(2*len(c.S) + 300))
		}
		if bucketOf(t, out) == bucketOf(t, c) && !sameChunk(out, c) {
			return out
		}
	}
}

// othersTurned are all chunks with other samples, but for the tenant's.
func othersTurned(t *testing.T, random *rand.Rand, tenant string, l []api.Chunk) []api.Chunk {
	t.Helper()
	out := slices.Clone(l)
	for i, c := range l {
		if c.Tenant != tenant {
			out[i] = another(t, random, c)
		}
	}
	return out
}

// parts are an archive's.
type parts struct {
	m      api.Manifest
	signed []byte
	sealed [][]byte
}

func split(t *testing.T, b []byte) parts {
	t.Helper()
	m, signed, sealed, e := archive.Split(b)
	if e != api.OK {
		t.Fatalf("Split: error %d", int(e))
	}
	return parts{m, signed, sealed}
}

// wantToSayNothing says that of two archives that differ in other tenants' samples nothing differs that others may see.
func wantToSayNothing(t *testing.T, tenant string, one, other thing) {
	t.Helper()
	if len(one.b) != len(other.b) {
		t.Errorf("the lengths are %d and %d", len(one.b), len(other.b))
	}
	p, q := split(t, one.b), split(t, other.b)
	if p.m.Version != q.m.Version || !slices.Equal(p.m.Prev, q.m.Prev) || !slices.Equal(p.m.Entries, q.m.Entries) {
		t.Errorf("the manifests %s and %s", brief(p.m), brief(q.m))
	}
	ahead := len(p.signed) - 2*api.HashSize // the root and the signature stand behind it
	wantBytes(t, "the signed manifest, up to its root", q.signed[:ahead], p.signed[:ahead])
	for i, c := range one.l {
		same := slices.Equal(p.sealed[i], q.sealed[i])
		if same != (c.Tenant == tenant) || len(p.sealed[i]) != len(q.sealed[i]) {
			t.Errorf("tenant %q: the sealed chunk %d of %q: the same: %v; %d and %d bytes", tenant, i, c.Tenant, same, len(p.sealed[i]), len(q.sealed[i]))
		}
	}
}

// wantRangesToSayNothing says that ranges of both are as long, and that the tenant's key tells the same of them.
func wantRangesToSayNothing(t *testing.T, tenant string, one, other thing) {
	t.Helper()
	for i := range one.l {
		for j := i; j < len(one.l); j++ {
			x, e := extract.Extract(one.b, i, j)
			y, f := extract.Extract(other.b, i, j)
			if e != api.OK || f != api.OK || len(x) != len(y) {
				t.Errorf("from %d to %d: %d and %d bytes, errors %d, %d", i, j, len(x), len(y), int(e), int(f))
			}
			want := wantedOf(one.l, tenant, i, j)
			wantFound(t, "the one", one.state.Root, keyOf(t, tenant), tenant, x, want)
			wantFound(t, "the other", other.state.Root, keyOf(t, tenant), tenant, y, want)
		}
	}
}

func TestOthersSayNothing(t *testing.T) {
	random := rand.New(rand.NewSource(9))
	lists := [][]api.Chunk{someChunks(), {of("a"), of("b"), of("a", even(2)...)}}
	for range 20 {
		lists = append(lists, randomChunks(random))
	}
	for _, l := range lists {
		for _, prev := range []api.State{{}, {Version: 4, Root: someRoot()}} {
			one := archiveOf(t, "the one", prev, 5, l...)
			for _, tenant := range append(tenantsOf(l), "nobody's") {
				other := archiveOf(t, "the other", prev, 5, othersTurned(t, random, tenant, l)...)
				wantToSayNothing(t, tenant, one, other)
				wantRangesToSayNothing(t, tenant, one, other)
			}
		}
	}
}

// Sealed chunks are told apart by the bucket alone: whatever samples are within it, they are as long.
func TestSealedChunksOfABucketAreAsLong(t *testing.T) {
	random := rand.New(rand.NewSource(10))
	for _, c := range someChunks() {
		for range 20 {
			d := another(t, random, c)
			one, k, e := archive.Seal(keyOf(t, c.Tenant), 5, 0, c)
			other, l, f := archive.Seal(keyOf(t, c.Tenant), 5, 0, d)
			if e != api.OK || f != api.OK || k != l || len(one) != len(other) || len(one) != pad.Size(k)+api.TagSize {
				t.Errorf("%s and %s: %d and %d bytes of the buckets %d and %d, errors %d, %d", brief(c), brief(d), len(one), len(other), k, l, int(e), int(f))
			}
		}
	}
}

// W5

// manyChunks are n of few tenants.
func manyChunks(n int) []api.Chunk {
	out := make([]api.Chunk, n)
	for i := range out {
		out[i] = of(string(rune('a'+i%3)), even(i%5)...)
	}
	return out
}

// extracted is a range that must be extracted, and be read to its sealed chunks, by few sums.
func extracted(t *testing.T, x thing, i, j int) ([]byte, extract.Range) {
	t.Helper()
	b, e := extract.Extract(x.b, i, j)
	r, f := extract.Read(b)
	if e != api.OK || f != api.OK {
		t.Fatalf("from %d to %d: errors %d, %d", i, j, int(e), int(f))
	}
	if r.First != i || len(r.Sealed) != j-i+1 {
		t.Errorf("from %d to %d: %d chunks from %d on", i, j, len(r.Sealed), r.First)
	}
	if most := 2 * mathbits.Len(uint(len(x.l))); len(r.Proof) > most {
		t.Errorf("from %d to %d of %d: %d sums; want %d at most", i, j, len(x.l), len(r.Proof), most)
	}
	return b, r
}

// wantRange says that what was extracted is verified by the root alone, and told to the tenants whose it is alone.
func wantRange(t *testing.T, x thing, i, j int) {
	t.Helper()
	b, r := extracted(t, x, i, j)
	n := len(x.l)
	what := fmt.Sprint("from ", i, " to ", j, " of ", n)
	if !extract.Verify(x.state.Root, n, i, r.Sealed, r.Proof) {
		t.Errorf("%s: not verified", what)
	}
	if extract.Verify(someRoot(), n, i, r.Sealed, r.Proof) || extract.Verify(x.state.Root, n, i+1, r.Sealed, r.Proof) {
		t.Errorf("%s: verified by another root, or at another place", what)
	}
	for _, tenant := range append(tenantsOf(x.l), "nobody's") {
		want := wantedOf(x.l, tenant, i, j)
		wantFound(t, what, x.state.Root, keyOf(t, tenant), tenant, b, want)
		_, e := extract.Tenant(x.state.Root, keyOf(t, "another's"), tenant, b)
		if asked := len(want) > 0; (e == api.ErrAuth) != asked || (e == api.OK) == asked {
			t.Errorf("%s: tenant %q by another tenant's key: error %d", what, tenant, int(e))
		}
	}
	_, e := extract.Tenant(someRoot(), keyOf(t, "a"), "a", b)
	wantError(t, what+", by another root", e, api.ErrAuth)
}

func TestRangesOfAnArchive(t *testing.T) {
	for n := 1; n <= 12; n++ {
		x := archiveOf(t, "an archive", api.State{}, 5, manyChunks(n)...)
		for i := range n {
			for j := i; j < n; j++ {
				wantRange(t, x, i, j)
			}
		}
	}
	x := archiveOf(t, "a long archive", api.State{}, 5, manyChunks(300)...)
	for _, ends := range [][2]int{{0, 0}, {299, 299}, {0, 299}, {1, 298}, {127, 129}, {255, 256}} {
		wantRange(t, x, ends[0], ends[1])
	}
}

// Ranges that together are the archive: their chunks are its own, in order, under the one manifest, and are offered as it is.
func TestRangesThatTogetherAreTheArchive(t *testing.T) {
	random := rand.New(rand.NewSource(11))
	for range 40 {
		l := append(randomChunks(random), manyChunks(1+random.Intn(9))...)
		x := archiveOf(t, "an archive", api.State{}, 5, l...)
		var sealed [][]byte
		var signed []byte
		found := map[string][]extract.Found{}
		for i := 0; i < len(l); {
			j := i + random.Intn(len(l)-i)
			b, r := extracted(t, x, i, j)
			sealed = append(sealed, r.Sealed...)
			signed, _ = cursor.New(b).Block(1 << 28)
			for _, tenant := range tenantsOf(l) {
				got, e := extract.Tenant(x.state.Root, keyOf(t, tenant), tenant, b)
				wantError(t, "Tenant", e, api.OK)
				found[tenant] = append(found[tenant], got...)
			}
			i = j + 1
		}
		whole := slices.Concat(cursor.Block(signed), slices.Concat(sealed...))
		wantBytes(t, "the ranges together", whole, x.b)
		p := made(t, someMaster(), x.state)
		wantError(t, "the ranges together, offered", p.offer(t, "together", whole), api.OK)
		told := make([]api.Chunk, len(l))
		for _, tenant := range tenantsOf(l) {
			for _, each := range found[tenant] {
				told[each.Index] = each.Chunk
			}
		}
		wantChunks(t, "all tenants' together", told, l)
	}
}
