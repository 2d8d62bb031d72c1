package extract

import (
	"bytes"
	"fmt"
	"math"
	"math/bits"
	"math/rand"
	"slices"
	"strings"
	"testing"

	"casket/api"
	"casket/archive"
)

// P23.1

func TestTheChaptersExamples(t *testing.T) {
	w := built(t, of("a", even(2)...))
	x := extracted(t, w.b, 0, 0)
	wantBytes(t, "the only chunk", x, slices.Concat(w.b[:len(w.b)-80], []byte{0, 0}, w.sealed[0], []byte{0}))
	if r := readBack(t, x); len(r.Proof) != 0 {
		t.Errorf("the only chunk, read: %d sums", len(r.Proof))
	}
	wantError(t, "i above j", holdExtract(t, built(t, fewChunks()...).b, 3, 2), api.ErrArg)
}

// A range that was put together by the chapters' words outside of this program, on another one's HMAC and SHA-256.
func TestAWrittenOutRange(t *testing.T) {
	want := unhex(t, "7643534b310000000000000102646b727980878e959ca3aab1b8bfc6cdd4dbe2"+
		"e9f0f7fe050c131a21282f363d020161016202010000009dc049beaedd863f1d"+
		"cc45fd564a155ff711ce09b50312d5fbdf8e1fd7df8b314ec1f3bd8257647175"+
		"a999fb3693b6dfb062486952fe4860fa5fc56b0e68853c01004ca454ed14e2c6"+
		"d2ea5d898a1d036edb2f5125c3fc3f441874b8e3ae33207a0a4a882a84b66843"+
		"74b60aa2396d1724b5b1b10ffd66e9d95ff658fd5892b4e0ec34843d71200eec"+
		"cc7fe3f6399ec75597010e0c48f1cd93fc2740de9f68ef2c1ca15e180ef1fc68"+
		"335945a1c90f8e2b685f")
	root := unhex(t, "9dc049beaedd863f1dcc45fd564a155ff711ce09b50312d5fbdf8e1fd7df8b31")
	key := unhex(t, "49c58d37c3bfb4db61cb2da9be1e863e12372f50f7fa187cf686cb426c3e98d7")
	w := built(t, of("b"), of("a", api.Sample{T: 5, V: 7}))
	wantBytes(t, "Extract", extracted(t, w.b, 1, 1), want)
	if r := readBack(t, want); !Verify(root, 2, 1, r.Sealed, r.Proof) {
		t.Errorf("the range is not verified: %v", r)
	}
	got, e := Tenant(root, key, "a", want)
	wantError(t, "Tenant", e, api.OK)
	wantFound(t, "Tenant", got, []Found{{1, of("a", api.Sample{T: 5, V: 7})}})
}

// All fifteen ranges of an archive of five chunks, worked out likewise; what is held is the sum of them.
func TestTheSumOfWrittenOutRanges(t *testing.T) {
	a := of("a", api.Sample{T: 5, V: 7})
	b, _, e := archive.Build(someMaster(), api.State{}, math.MaxUint64-1, []api.Chunk{a, of(strings.Repeat("x", 64)), of(""), a, of("b")})
	wantError(t, "Build", e, api.OK)
	wantBytes(t, "1 to 3", sum(extracted(t, b, 1, 3)), unhex(t, "1df5e223f55e771e152817d120678159205eb52d20aec2ee9c92ba29b3737285"))
	var all []byte
	eachRange(5, func(i, j int) { all = append(all, extracted(t, b, i, j)...) })
	if len(all) != 8189 {
		t.Errorf("%d bytes; want 8189", len(all))
	}
	wantBytes(t, "all ranges", sum(all), unhex(t, "849861cbdaaa1b7ecce827e5367d6ddd67651b7fae570dfa138c2f6c2406efb1"))
}

// By hand: which sums stand in a proof, and where.
func TestTheSumsOfARangeByHand(t *testing.T) {
	w := built(t, manyChunks(5)...)
	l := leavesAsSaid(w.sealed)
	node := func(a, b []byte) []byte { return sum([]byte{1}, a, b) }
	for _, x := range []struct {
		i, j int
		want [][]byte
	}{
		{0, 4, nil}, {0, 3, [][]byte{l[4]}}, {4, 4, [][]byte{node(node(l[0], l[1]), node(l[2], l[3]))}}, {1, 4, [][]byte{l[0]}},
		{2, 2, [][]byte{node(l[0], l[1]), l[3], l[4]}}, {1, 2, [][]byte{l[0], l[3], l[4]}}, {0, 1, [][]byte{node(l[2], l[3]), l[4]}}, {3, 4, [][]byte{node(l[0], l[1]), l[2]}},
	} {
		what := fmt.Sprint(x.i, " to ", x.j)
		got := extracted(t, w.b, x.i, x.j)
		wantBytes(t, what, got, layWhole(blockAsSaid(w.signed), uint64(x.i), uint64(x.j-x.i), w.sealed[x.i:x.j+1], x.want))
		if r := readBack(t, got); !samePieces(r.Proof, x.want) {
			t.Errorf("%s: the sums %v; want %v", what, r.Proof, x.want)
		}
	}
}

func TestExtractOfWrongPlaces(t *testing.T) {
	for _, l := range someArchives() {
		w := built(t, l...)
		n := len(l)
		for i := -2; i <= n+2; i++ {
			for j := -2; j <= n+2; j++ {
				want := when(i < 0 || i > j || j >= n, api.ErrArg)
				wantError(t, fmt.Sprint(i, " to ", j, " of ", n), holdExtract(t, w.b, i, j), want)
			}
			for _, far := range farNumbers() {
				wantError(t, fmt.Sprint(i, " to ", far), holdExtract(t, w.b, i, far), api.ErrArg)
				wantError(t, fmt.Sprint(far, " to ", i), holdExtract(t, w.b, far, i), api.ErrArg)
			}
		}
		for _, i := range farNumbers() {
			for _, j := range farNumbers() {
				wantError(t, fmt.Sprint(i, " to ", j), holdExtract(t, w.b, i, j), api.ErrArg)
			}
		}
	}
}

// Of no chunks no range can be extracted.
func TestExtractOfNoChunks(t *testing.T) {
	w := built(t)
	for _, i := range append(farNumbers(), 0, 1) {
		for _, j := range append(farNumbers(), 0, 1) {
			wantError(t, fmt.Sprint(i, " to ", j), holdExtract(t, w.b, i, j), api.ErrArg)
		}
	}
}

// Split's error is told, also where i and j may not be.
func TestExtractTellsSplitsError(t *testing.T) {
	w := built(t, fewChunks()...)
	for _, x := range []struct {
		what string
		b    []byte
		want api.Errno
	}{
		{"nil", nil, api.ErrShort}, {"no bytes", []byte{}, api.ErrShort}, {"a short block", []byte{3, 1, 2, 3}, api.ErrShort},
		{"a byte too few", w.b[:len(w.b)-1], api.ErrShort}, {"a byte too many", slices.Concat(w.b, []byte{0}), api.ErrForm},
		{"a long block", []byte{129, 128, 128, 128, 1}, api.ErrLong}, {"no manifest", blockAsSaid(make([]byte, 40)), api.ErrForm},
		{"what Extract told", extracted(t, w.b, 0, 4), api.ErrForm}, {"and of a part", extracted(t, w.b, 1, 2), api.ErrShort},
	} {
		for _, i := range append(farNumbers(), 0, 1, 4, 5) {
			wantError(t, x.what, holdExtract(t, x.b, i, 1), x.want)
			wantError(t, x.what, holdExtract(t, x.b, 1, i), x.want)
		}
	}
	for n := range w.b {
		wantError(t, "a beginning", holdExtract(t, w.b[:n], 0, 0), api.ErrShort)
	}
}

// Extract has no key, and asks neither the signature nor the root.
func TestExtractOfAnyBitTurned(t *testing.T) {
	w := built(t, fewChunks()...)
	var seen [9]int
	eachBit(w.b, func(at, bit int, turned []byte) {
		e := holdExtract(t, turned, 1, 3)
		seen[e]++
		if at >= len(w.b)-5*80-64 && e != api.OK { // the root, the signature, and the sealed chunks
			t.Errorf("the bit %d of the byte %d: error %d", bit, at, int(e))
		}
	})
	if seen[api.OK] == 0 || seen[api.ErrShort] == 0 || seen[api.ErrForm] == 0 || seen[api.ErrLong] == 0 {
		t.Errorf("not every answer was tried: %v", seen)
	}
}

// P23.2, and what follows (P23.5)

// wantThereAndBack says that a range is extracted as said, read back to what it was, and verified by few sums.
func wantThereAndBack(t *testing.T, w whole, i, j int) {
	t.Helper()
	wantError(t, "Extract", holdExtract(t, w.b, i, j), api.OK)
	x := extracted(t, w.b, i, j)
	wantError(t, "Read", holdRead(t, x), api.OK)
	r := readBack(t, x)
	proof := proofAsSaid(leavesAsSaid(w.sealed), 0, i, j)
	if want := (Range{w.m, i, w.sealed[i : j+1], proof}); !sameRange(r, want) {
		t.Errorf("Read of Extract of %d to %d: %s; want %s", i, j, brief(r), brief(want))
	}
	wantVerify(t, fmt.Sprint(i, " to ", j), holdVerify(t, w.s.Root, len(w.l), i, r.Sealed, r.Proof), true)
	if most := 2 * bits.Len(uint(len(w.l))); len(r.Proof) > most {
		t.Errorf("%d to %d of %d: %d sums; want %d at most", i, j, len(w.l), len(r.Proof), most)
	}
}

func TestEveryRange(t *testing.T) {
	for _, l := range someArchives() {
		w := built(t, l...)
		eachRange(len(l), func(i, j int) { wantThereAndBack(t, w, i, j) })
	}
}

func TestRangesOfLongerArchives(t *testing.T) {
	random := rand.New(rand.NewSource(23))
	for _, n := range []int{31, 32, 33, 63, 64, 65, 127, 128, 129, 200} {
		w := built(t, manyChunks(n)...)
		for _, i := range []int{0, 1, n/2 - 1, n / 2, n - 2, n - 1} {
			for _, j := range []int{i, min(i+1, n-1), n - 1, i + random.Intn(n-i)} {
				wantThereAndBack(t, w, i, j)
			}
		}
	}
}

func TestRangesOfEveryBucket(t *testing.T) {
	var l []api.Chunk
	for k, n := range []int{1, 8, 40, 200, 800, 3000, 12000, 50000, api.MaxSamples} {
		l = append(l, of("a", wild(n, int64(k))...))
	}
	w := built(t, l...)
	for place, entry := range w.m.Entries {
		if entry.Bucket != place {
			t.Fatalf("the bucket %d at %d", entry.Bucket, place)
		}
		wantThereAndBack(t, w, place, place)
	}
	wantThereAndBack(t, w, 0, 8)
	wantThereAndBack(t, w, 6, 8)
}

func TestRandomRanges(t *testing.T) {
	random := rand.New(rand.NewSource(5))
	for range 150 {
		w := built(t, randomChunks(random)...)
		i := random.Intn(len(w.l))
		wantThereAndBack(t, w, i, i+random.Intn(len(w.l)-i))
	}
}

// layMany is an archive, laid by hand, of as many chunks as may be: Split asks no tag.
func layMany(t *testing.T) ([]byte, api.Manifest, [][]byte) {
	t.Helper()
	m := manifestOf(make([]api.Entry, api.MaxChunks)...)
	sealed := make([][]byte, api.MaxChunks)
	for i := range sealed {
		sealed[i] = mixed(80, byte(i))
		copy(sealed[i], []byte{byte(i >> 16), byte(i >> 8), byte(i)})
	}
	m.Root = rootAsSaid(sealed)
	return slices.Concat(asSigned(textOf(t, m)), slices.Concat(sealed...)), m, sealed
}

func TestRangesOfAsManyChunksAsMayBe(t *testing.T) {
	if testing.Short() {
		t.Skip("it takes long")
	}
	t.Parallel()
	b, m, sealed := layMany(t)
	last := api.MaxChunks - 1
	for _, x := range []struct{ i, j, sums int }{{last, last, 20}, {1, last - 1, 2}, {1<<19 - 1, 1 << 19, 38}} {
		what := fmt.Sprint(x.i, " to ", x.j)
		got := extracted(t, b, x.i, x.j)
		r := readBack(t, got)
		if r.First != x.i || !sameManifest(r.Manifest, m) || !samePieces(r.Sealed, sealed[x.i:x.j+1]) || len(r.Proof) != x.sums {
			t.Errorf("%s: from %d, %d sealed chunks, %d sums; want %d sums", what, r.First, len(r.Sealed), len(r.Proof), x.sums)
		}
		wantVerify(t, what, holdVerify(t, m.Root, api.MaxChunks, x.i, r.Sealed, r.Proof), true)
		if found, e := Tenant(m.Root, someKey(), "a", got); len(found) != 0 || e != api.OK {
			t.Errorf("%s: %d chunks of a tenant that has none, error %d", what, len(found), int(e))
		}
	}
	_, e := Extract(b, last, last+1)
	wantError(t, "a place behind the last one", e, api.ErrArg)
}

func TestReadOfNoBytes(t *testing.T) {
	for _, b := range [][]byte{nil, {}, someRoot()[:0]} {
		wantError(t, "no bytes", holdRead(t, b), api.ErrShort)
	}
}

func TestReadOfAnyBeginning(t *testing.T) {
	w := built(t, someChunks()...)
	eachRange(len(w.l), func(i, j int) {
		if i > 2 && j != i && j != len(w.l)-1 {
			return
		}
		x := extracted(t, w.b, i, j)
		for n := range x {
			wantError(t, fmt.Sprint("the first ", n, " bytes of ", i, " to ", j), holdRead(t, x[:n]), api.ErrShort)
		}
	})
}

func TestReadOfMoreBytes(t *testing.T) {
	for _, l := range [][]api.Chunk{fewChunks()[:1], fewChunks(), someChunks()} {
		w := built(t, l...)
		eachRange(len(l), func(i, j int) {
			x := extracted(t, w.b, i, j)
			for _, more := range [][]byte{{0}, {255}, make([]byte, 32), x} {
				wantError(t, fmt.Sprint(len(more), " bytes more"), holdRead(t, slices.Concat(x, more)), api.ErrForm)
			}
		})
	}
}

// A block of fewer than 32 bytes has no tag.
func TestReadOfAShortBlock(t *testing.T) {
	x := extracted(t, built(t, fewChunks()...).b, 0, 0)
	for n := range 32 {
		for _, inner := range [][]byte{x[2 : 2+n], make([]byte, n), repeated(255, n)} {
			wantError(t, "a short block", holdRead(t, blockAsSaid(inner)), api.ErrShort)
			wantError(t, "a short block and more", holdRead(t, slices.Concat(blockAsSaid(inner), make([]byte, 500))), api.ErrShort)
		}
	}
	wantError(t, "a tag alone", holdRead(t, blockAsSaid(make([]byte, 32))), api.ErrShort)
	wantError(t, "a tag, and four bytes that begin no manifest", holdRead(t, blockAsSaid(make([]byte, 36))), api.ErrForm)
}

// The block's own error: its length is a varint of at most 2^28.
func TestReadOfWrongLengths(t *testing.T) {
	for _, x := range []struct {
		what string
		b    []byte
		want api.Errno
	}{
		{"a length of 2^28", []byte{128, 128, 128, 128, 1}, api.ErrShort},
		{"a length of 2^28 + 1", []byte{129, 128, 128, 128, 1}, api.ErrLong},
		{"a length of 2^29", []byte{128, 128, 128, 128, 2}, api.ErrLong},
		{"a length of 2^63", []byte{128, 128, 128, 128, 128, 128, 128, 128, 128, 1}, api.ErrLong},
		{"the greatest length", []byte{255, 255, 255, 255, 255, 255, 255, 255, 255, 1}, api.ErrLong},
		{"a length above it", []byte{255, 255, 255, 255, 255, 255, 255, 255, 255, 2}, api.ErrForm},
		{"a length that is longer than it need be", []byte{238, 0}, api.ErrForm},
		{"a length that ends too early", []byte{128}, api.ErrShort},
		{"a length of 127", []byte{127}, api.ErrShort},
	} {
		wantError(t, x.what, holdRead(t, x.b), x.want)
		if x.want != api.ErrShort {
			wantError(t, x.what+", and more", holdRead(t, slices.Concat(x.b, make([]byte, 300))), x.want)
		}
	}
}

// A block of 2^28 bytes is taken, and only what stands in it is refused.
func TestReadOfTheLongestBlock(t *testing.T) {
	if testing.Short() {
		t.Skip("it takes long")
	}
	b := append([]byte{128, 128, 128, 128, 1}, make([]byte, 1<<28)...)
	wantError(t, "2^28 bytes 0", holdRead(t, b), api.ErrForm)
	b[0]++
	wantError(t, "a length of one more", holdRead(t, append(b, 0)), api.ErrLong)
}

func TestReadTellsTheManifestsError(t *testing.T) {
	text := textOf(t, manifestOf(api.Entry{Tenant: "a", Bucket: 1}, api.Entry{Tenant: "b"}))
	longTenant := slices.Concat(text[:44], []byte{1, 65}, repeated(120, 65), []byte{1, 0, 0}, someRoot())
	for _, x := range []struct {
		what string
		text []byte
		want api.Errno
	}{
		{"no manifest", nil, api.ErrShort},
		{"another first byte", slices.Concat([]byte{66}, text[1:]), api.ErrForm},
		{"a beginning", text[:len(text)-1], api.ErrShort},
		{"a byte more", slices.Concat(text, []byte{0}), api.ErrForm},
		{"the version that is none", slices.Concat(text[:4], repeated(255, 8), text[12:]), api.ErrForm},
		{"a long tenant", longTenant, api.ErrLong},
		{"a bucket that is none", bytes.Replace(text, []byte{2, 0, 1, 1, 0}, []byte{2, 0, 9, 1, 0}, 1), api.ErrForm},
	} {
		for _, behind := range [][]byte{nil, {0}, {128, 0}, {2, 0}, make([]byte, 275), make([]byte, 5000)} {
			what := fmt.Sprint(x.what, ", and ", len(behind), " bytes behind it")
			wantError(t, what, holdRead(t, slices.Concat(asSigned(x.text), behind)), x.want)
		}
	}
	wantError(t, "the manifest", holdRead(t, slices.Concat(asSigned(text), make([]byte, 275))), api.OK)
}

// Both numbers, against the number of entries; bytes for all chunks follow, and none.
func TestReadOfPlaces(t *testing.T) {
	for n := range 7 {
		head := asSigned(textOf(t, manifestOf(make([]api.Entry, n)...)))
		few := []uint64{0, 1, 2, 3, 4, 5, 6, 7, 8, 64, 127, 128}
		for _, i := range append(few, wideNumbers()...) {
			for _, more := range append(few, wideNumbers()...) {
				what := fmt.Sprint(i, " and ", more, " of ", n)
				is := i < uint64(n) && more < uint64(n) && i+more < uint64(n)
				places := slices.Concat(head, varintAsSaid(i), varintAsSaid(more))
				chunks := make([]byte, 80*7)
				if is {
					chunks = chunks[:80*(more+1)]
				}
				wantError(t, what, holdRead(t, slices.Concat(places, chunks, []byte{0})), when(!is, api.ErrForm))
				none := api.ErrForm
				if is {
					none = api.ErrShort
				}
				wantError(t, what+", and no chunks", holdRead(t, places), none)
			}
		}
	}
}

// Both together, where they pass 2^64 - 1 and come to a place again.
func TestReadOfPlacesThatGoRound(t *testing.T) {
	head := asSigned(textOf(t, manifestOf(make([]api.Entry, 5)...)))
	for i := range uint64(5) {
		for to := range uint64(5) {
			more := to - i
			if more < 5 {
				continue
			}
			b := slices.Concat(head, varintAsSaid(i), varintAsSaid(more), make([]byte, 80), []byte{0})
			wantError(t, fmt.Sprint(i, " and ", more), holdRead(t, b), api.ErrForm)
			b = slices.Concat(head, varintAsSaid(more), varintAsSaid(i), make([]byte, 80), []byte{0})
			wantError(t, fmt.Sprint(more, " and ", i), holdRead(t, b), api.ErrForm)
		}
	}
	for _, x := range [][2]uint64{{1 << 63, 1 << 63}, {1<<63 + 1, 1 << 63}, {1 << 63, 1<<63 + 1}, {math.MaxUint64, math.MaxUint64}, {math.MaxUint64, 1}, {math.MaxUint64, 5}} {
		b := slices.Concat(head, varintAsSaid(x[0]), varintAsSaid(x[1]), make([]byte, 80), []byte{0})
		wantError(t, fmt.Sprint(x), holdRead(t, b), api.ErrForm)
	}
}

// What the first number is, is asked once both of them are read.
func TestReadOfBothNumbersFirst(t *testing.T) {
	head := asSigned(textOf(t, manifestOf(make([]api.Entry, 5)...)))
	for _, i := range [][]byte{{0}, {4}, {5}, {127}, varintAsSaid(math.MaxUint64)} {
		wantError(t, "no second number", holdRead(t, slices.Concat(head, i)), api.ErrShort)
		wantError(t, "a second number that is cut off", holdRead(t, slices.Concat(head, i, []byte{133})), api.ErrShort)
	}
}

// Each number that is none is told as chapter 2 tells it, wherever it stands.
func TestReadOfWrongVarints(t *testing.T) {
	w := built(t, fewChunks()...)
	block := blockAsSaid(w.signed)
	ahead := map[string][]byte{
		"the block's length":   nil,
		"the first number":     block,
		"the second number":    slices.Concat(block, []byte{1}),
		"how many sums":        slices.Concat(block, []byte{1, 0}, w.sealed[1]),
		"both numbers":         slices.Concat(block, []byte{128, 0}),
		"one behind no place":  slices.Concat(block, []byte{9}),
		"one behind the chunk": slices.Concat(block, []byte{4, 0}, w.sealed[4]),
	}
	for what, b := range ahead {
		for _, wrong := range wrongVarints() {
			for _, behind := range []int{0, 1, 300} {
				wantError(t, what, holdRead(t, slices.Concat(b, wrong, make([]byte, behind))), api.ErrForm)
			}
		}
		if what == "both numbers" {
			continue
		}
		for _, short := range [][]byte{nil, {128}, {255}, repeated(128, 9), repeated(255, 8)} {
			wantError(t, what+", cut off", holdRead(t, slices.Concat(b, short)), api.ErrShort)
		}
	}
}

// Each sealed chunk has its own entry's bucket's size, and a tag's.
func TestReadByBuckets(t *testing.T) {
	for k := range 9 {
		text := textOf(t, manifestOf(api.Entry{Bucket: (k + 1) % 9}, api.Entry{Bucket: k}, api.Entry{Bucket: (k + 2) % 9}))
		sealed := mixed(64<<(2*k)+16, 1)
		b := layWhole(asSigned(text), 1, 0, [][]byte{sealed}, [][]byte{someRoot()})
		wantError(t, fmt.Sprint("the bucket ", k), holdRead(t, b), api.OK)
		r := readBack(t, b)
		if r.First != 1 || len(r.Sealed) != 1 || !samePieces(r.Proof, [][]byte{someRoot()}) {
			t.Fatalf("%d sealed chunks from %d on, the sums %v", len(r.Sealed), r.First, r.Proof)
		}
		wantBytes(t, "the sealed chunk", r.Sealed[0], sealed)
		end := len(b) - 33
		wantError(t, "no sums", holdRead(t, b[:end]), api.ErrShort)
		wantError(t, "a byte of the chunk too few", holdRead(t, b[:end-1]), api.ErrShort)
		wantError(t, "no byte of it", holdRead(t, b[:end-len(sealed)]), api.ErrShort)
	}
	random := rand.New(rand.NewSource(4))
	for range 300 {
		entries := make([]api.Entry, 1+random.Intn(9))
		for i := range entries {
			entries[i].Bucket = random.Intn(5)
		}
		i := random.Intn(len(entries))
		j := i + random.Intn(len(entries)-i)
		var sealed [][]byte
		for _, entry := range entries[i : j+1] {
			sealed = append(sealed, mixed(64<<(2*entry.Bucket)+16, byte(random.Intn(256))))
		}
		b := layWhole(asSigned(textOf(t, manifestOf(entries...))), uint64(i), uint64(j-i), sealed, nil)
		wantError(t, "Read", holdRead(t, b), api.OK)
		if r := readBack(t, b); !samePieces(r.Sealed, sealed) || r.First != i {
			t.Errorf("other chunks than were laid: %s", brief(r))
		}
		wantError(t, "a beginning", holdRead(t, b[:random.Intn(len(b))]), api.ErrShort)
	}
}

// Up to 64 sums are read, however many the range needs.
func TestReadOfAnyNumberOfSums(t *testing.T) {
	w := built(t, fewChunks()...)
	head := slices.Concat(blockAsSaid(w.signed), []byte{1, 1}, w.sealed[1], w.sealed[2])
	sums := mixed(70*32, 9)
	for n := range 70 {
		told := slices.Concat(head, varintAsSaid(uint64(n)))
		want := when(n > 64, api.ErrForm)
		what := fmt.Sprint(n, " sums")
		wantError(t, what, holdRead(t, slices.Concat(told, sums[:32*n])), want)
		wantError(t, what+", and a byte more", holdRead(t, slices.Concat(told, sums[:32*n+1])), api.ErrForm)
		if n > 64 {
			wantError(t, what+", of which none stand there", holdRead(t, told), api.ErrForm)
		} else if n > 0 {
			wantError(t, what+", of which none stand there", holdRead(t, told), api.ErrShort)
			wantError(t, what+", a byte too few", holdRead(t, slices.Concat(told, sums[:32*n-1])), api.ErrShort)
			wantError(t, what+", one too few", holdRead(t, slices.Concat(told, sums[:32*n-32])), api.ErrShort)
		}
		if r, e := Read(slices.Concat(told, sums[:32*n])); e == api.OK {
			wantBytes(t, what, slices.Concat(r.Proof...), sums[:32*n])
			if len(r.Proof) != n {
				t.Errorf("%d sums; want %d", len(r.Proof), n)
			}
		}
	}
	for _, n := range wideNumbers() {
		told := slices.Concat(head, varintAsSaid(n))
		wantError(t, fmt.Sprint(n, " sums"), holdRead(t, told), api.ErrForm)
		wantError(t, fmt.Sprint(n, " sums, and more"), holdRead(t, slices.Concat(told, sums)), api.ErrForm)
	}
}

// Read asks neither the signature, nor the root, nor the proof.
func TestReadOfAnyBitTurned(t *testing.T) {
	w := built(t, fewChunks()...)
	x := extracted(t, w.b, 1, 3)
	var seen [9]int
	eachBit(x, func(at, bit int, turned []byte) { seen[holdRead(t, turned)]++ })
	if seen[api.OK] == 0 || seen[api.ErrShort] == 0 || seen[api.ErrForm] == 0 || seen[api.ErrLong] == 0 {
		t.Errorf("not every answer was tried: %v", seen)
	}
	for what, behind := range map[string]int{"the last sum": 1, "the first sum": 64, "the last chunk": 66, "the first chunk": 305, "the signature": 308, "the root": 340} {
		turned := slices.Clone(x)
		turned[len(x)-behind] ^= 1
		wantError(t, what, holdRead(t, turned), api.OK)
	}
}

// Of several faults the one that is read first is told: each set of them is tried.
func TestSeveralFaultsOfRead(t *testing.T) {
	w := built(t, fewChunks()...)
	errors := []api.Errno{api.ErrLong, api.ErrShort, api.ErrLong, api.ErrForm, api.ErrForm, api.ErrForm, api.ErrShort}
	longTenant := slices.Concat(textOf(t, w.m)[:44], []byte{1, 65}, repeated(120, 65), []byte{1, 0, 0}, someRoot())
	for set := range 1 << len(errors) {
		has := func(k int) bool { return set>>k&1 == 1 }
		block, places, sums := blockAsSaid(w.signed), []byte{1, 1}, []byte{2}
		if has(2) {
			block = asSigned(longTenant)
		}
		if has(1) {
			block = blockAsSaid(w.signed[:31])
		}
		if has(0) {
			block = slices.Concat([]byte{129, 128, 128, 128, 1}, make([]byte, 200))
		}
		if has(4) {
			places = []byte{1, 4}
		}
		if has(3) {
			places[0] = 5
		}
		if has(5) {
			sums[0] = 65
		}
		b := slices.Concat(block, places, w.sealed[1], w.sealed[2], sums, make([]byte, 64))
		if has(6) {
			b = b[:len(b)-1]
		}
		want := api.OK
		for k := len(errors) - 1; k >= 0; k-- {
			if has(k) {
				want = errors[k]
			}
		}
		wantError(t, fmt.Sprintf("the faults %b", set), holdRead(t, b), want)
	}
}
