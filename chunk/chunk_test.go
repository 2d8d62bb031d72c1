package chunk

import (
	"bytes"
	"math"
	"math/rand"
	"slices"
	"strconv"
	"strings"
	"testing"

	"casket/api"
	"casket/intcodec"
	"casket/valcodec"
	"casket/varint"
)

const greatest = math.MaxUint64

func chunkOf(tenant string, s ...api.Sample) api.Chunk { return api.Chunk{Tenant: tenant, S: s} }

func same(a, b api.Chunk) bool { return a.Tenant == b.Tenant && slices.Equal(a.S, b.S) }

func isNothing(c api.Chunk) bool { return c.Tenant == "" && c.S == nil }

// briefChunk and brief are beginnings, since some chunks are long.
func briefChunk(c api.Chunk) string {
	var out strings.Builder
	out.WriteString(strconv.Quote(c.Tenant[:min(len(c.Tenant), 70)]) + " with " + strconv.Itoa(len(c.S)) + " of")
	for _, s := range c.S[:min(len(c.S), 20)] {
		out.WriteString(" (" + strconv.Itoa(s.T) + " " + strconv.FormatUint(s.V, 10) + ")")
	}
	return out.String()
}

func brief(b []byte) string {
	var out strings.Builder
	out.WriteString(strconv.Itoa(len(b)) + " of")
	for _, v := range b[:min(len(b), 60)] {
		out.WriteString(" " + strconv.Itoa(int(v)))
	}
	return out.String()
}

func wantEncoded(t *testing.T, c api.Chunk, want []byte) {
	t.Helper()
	if got, e := Encode(c); !bytes.Equal(got, want) || e != api.OK {
		t.Errorf("Encode(%s): %s, %v; want %s, OK", briefChunk(c), brief(got), e, brief(want))
	}
}

func wantDecoded(t *testing.T, b []byte, want api.Chunk) {
	t.Helper()
	if got, e := Decode(b); !same(got, want) || e != api.OK {
		t.Errorf("Decode(%s): %s, %v; want %s, OK", brief(b), briefChunk(got), e, briefChunk(want))
	}
}

// wantPair says that b is c's Encode, and c is b's Decode.
func wantPair(t *testing.T, c api.Chunk, b []byte) {
	t.Helper()
	wantEncoded(t, c, b)
	wantDecoded(t, b, c)
}

func wantNoBytes(t *testing.T, c api.Chunk, want api.Errno) {
	t.Helper()
	if got, e := Encode(c); got != nil || e != want {
		t.Errorf("Encode(%s): %s, %v; want nil, %v", briefChunk(c), brief(got), e, want)
	}
}

func wantNone(t *testing.T, b []byte, want api.Errno) {
	t.Helper()
	if got, e := Decode(b); !isNothing(got) || e != want {
		t.Errorf("Decode(%s): %s, %v; want nothing, %v", brief(b), briefChunk(got), e, want)
	}
}

func behind(b []byte, more ...byte) []byte { return slices.Concat(b, more) }

// eight is a number in eight bytes, the highest first.
func eight(v uint64) []byte {
	var out []byte
	for shift := 56; shift >= 0; shift -= 8 {
		out = append(out, byte(v>>shift))
	}
	return out
}

func varintByWords(v int) []byte {
	if v < 128 {
		return []byte{byte(v)}
	}
	return behind([]byte{byte(v%128) + 128}, varintByWords(v/128)...)
}

func blockByWords(b []byte) []byte { return behind(varintByWords(len(b)), b...) }

func times(c api.Chunk) []int {
	var out []int
	for _, s := range c.S {
		out = append(out, s.T)
	}
	return out
}

func patterns(c api.Chunk) []uint64 {
	var out []uint64
	for _, s := range c.S {
		out = append(out, s.V)
	}
	return out
}

// timesAndPatterns are the bytes that the two layers below write of a chunk's samples.
func timesAndPatterns(t *testing.T, c api.Chunk) (timeBytes, patternBytes []byte) {
	t.Helper()
	timeBytes, e := intcodec.Encode(times(c))
	if e != api.OK {
		t.Fatalf("intcodec.Encode: %v", e)
	}
	patternBytes, e = valcodec.Encode(patterns(c))
	if e != api.OK {
		t.Fatalf("valcodec.Encode: %v", e)
	}
	return timeBytes, patternBytes
}

// encodeByWords is P12.1 word for word, of a chunk within the limits.
func encodeByWords(t *testing.T, c api.Chunk) []byte {
	t.Helper()
	timeBytes, patternBytes := timesAndPatterns(t, c)
	return whole(c.Tenant, len(c.S), timeBytes, patternBytes)
}

// whole are bytes of the right form, around times and patterns that may be wrong.
func whole(tenant string, n int, timeBytes, patternBytes []byte) []byte {
	return slices.Concat([]byte{1}, blockByWords([]byte(tenant)), varintByWords(n), blockByWords(timeBytes), blockByWords(patternBytes))
}

// cutBlock is chapter 3's Block: what is in it, and what stands behind it.
func cutBlock(b []byte, most int) (inner, rest []byte, e api.Errno) {
	length, size, e := varint.Read(b)
	if e != api.OK {
		return nil, nil, e
	}
	if length > uint64(most) {
		return nil, nil, api.ErrLong
	}
	b = b[size:]
	if length > uint64(len(b)) {
		return nil, nil, api.ErrShort
	}
	return b[:length], b[length:], api.OK
}

// decodeByWords is P12.2 word for word, one reason behind the other.
func decodeByWords(b []byte) (api.Chunk, api.Errno) {
	if len(b) == 0 {
		return api.Chunk{}, api.ErrShort
	}
	if b[0] != 1 {
		return api.Chunk{}, api.ErrForm
	}
	tenant, b, e := cutBlock(b[1:], 64)
	if e != api.OK {
		return api.Chunk{}, e
	}
	n, size, e := varint.Read(b)
	if e != api.OK {
		return api.Chunk{}, e
	}
	if n > 65536 {
		return api.Chunk{}, api.ErrLong
	}
	timeBytes, b, e := cutBlock(b[size:], 1+8*int(n))
	if e != api.OK {
		return api.Chunk{}, e
	}
	patternBytes, b, e := cutBlock(b, 1+8*int(n))
	if e != api.OK {
		return api.Chunk{}, e
	}
	if len(b) > 0 {
		return api.Chunk{}, api.ErrForm
	}
	timeList, e := intcodec.Decode(timeBytes, int(n))
	if e != api.OK {
		return api.Chunk{}, e
	}
	patternList, e := valcodec.Decode(patternBytes, int(n))
	if e != api.OK {
		return api.Chunk{}, e
	}
	c := api.Chunk{Tenant: string(tenant)}
	for i := range int(n) {
		c.S = append(c.S, api.Sample{T: timeList[i], V: patternList[i]})
	}
	return c, api.OK
}

func wantAsByWords(t *testing.T, b []byte) api.Errno {
	t.Helper()
	want, wantError := decodeByWords(b)
	got, e := Decode(b)
	if !same(got, want) || e != wantError || e != api.OK && !isNothing(got) {
		t.Errorf("Decode(%s): %s, %v; want %s, %v", brief(b), briefChunk(got), e, briefChunk(want), wantError)
	}
	return e
}

// made are n samples, each told by its place.
func made(n int, timeAt func(int) int, patternAt func(int) uint64) []api.Sample {
	var out []api.Sample
	for i := range n {
		out = append(out, api.Sample{T: timeAt(i), V: patternAt(i)})
	}
	return out
}

// far is a number that lies far from those of the places beside, and not equally far.
func far(i int) uint64 {
	v := uint64(i+1) * 0x9E3779B97F4A7C15
	v = (v ^ v>>30) * 0xBF58476D1CE4E5B9
	v = (v ^ v>>27) * 0x94D049BB133111EB
	return v ^ v>>31
}

// timeKinds are ways in which times go, each told by its place; patternKinds likewise.
func timeKinds() []func(int) int {
	return []func(int) int{
		func(int) int { return 0 },
		func(i int) int { return 1000 * i },
		func(i int) int { return 1700000000 + 15*i },
		func(i int) int { return -60 * i },
		func(i int) int { return 1000*i + i*i%7 },
		func(i int) int { return i * i },
		func(i int) int { return 10 * (i / 3) },
		func(i int) int { return int(far(i)) },
		func(i int) int { return 50*i + int(far(i)%2) + 1000000*(i/40) },
		func(i int) int {
			if i%2 == 0 {
				return math.MinInt
			}
			return math.MaxInt
		},
	}
}

func patternKinds() []func(int) uint64 {
	return []func(int) uint64{
		func(int) uint64 { return 0 },
		func(int) uint64 { return greatest },
		func(i int) uint64 { return uint64(i) },
		func(i int) uint64 { return far(i % 3) },
		func(i int) uint64 { return far(i / 5) },
		func(i int) uint64 { return math.Float64bits(20 + float64(i%4)/2) },
		func(i int) uint64 { return math.Float64bits(math.Sin(float64(i))) },
		far,
		func(i int) uint64 { return uint64(i%2) * greatest },
	}
}

// edgeTenants have no bytes, one, as many as may be, and bytes that are no letters.
func edgeTenants() []string {
	return []string{
		"", "a", "tenant", strings.Repeat("x", 63), strings.Repeat("x", 64), strings.Repeat("é", 32),
		"\x00", "\xff\xfe", "\x01\x00\x80", "\xc3", strings.Repeat("\xff", 64), "日本", "a\nb",
	}
}

// P12.1

func TestNamedChunks(t *testing.T) {
	for _, x := range []struct {
		c api.Chunk
		b []byte
	}{
		{chunkOf("a", api.Sample{T: 5, V: 7}), []byte{1, 1, 97, 1, 2, 1, 10, 9, 0, 0, 0, 0, 0, 0, 0, 0, 7}},
		{chunkOf(""), []byte{1, 0, 0, 1, 0, 1, 0}},
		{chunkOf("a"), []byte{1, 1, 97, 0, 1, 0, 1, 0}},
		{chunkOf("", api.Sample{}), []byte{1, 0, 1, 2, 1, 0, 9, 0, 0, 0, 0, 0, 0, 0, 0, 0}},
		{
			chunkOf("ab", api.Sample{T: 10, V: 5}, api.Sample{T: 20, V: 5}, api.Sample{T: 30, V: 5}, api.Sample{T: 40, V: 5}),
			[]byte{1, 2, 97, 98, 4, 4, 2, 20, 20, 0, 9, 1, 0, 0, 0, 0, 0, 0, 0, 5},
		},
		{
			chunkOf("", api.Sample{T: 1, V: 1 << 63}, api.Sample{T: 1, V: 1 << 63}),
			[]byte{1, 0, 2, 3, 1, 2, 0, 9, 1, 128, 0, 0, 0, 0, 0, 0, 0},
		},
		{ // the least and the greatest time take eight bytes each, the least and the greatest pattern, too
			chunkOf("\xff\x00", api.Sample{T: math.MinInt, V: 0}),
			[]byte{1, 2, 255, 0, 1, 9, 0, 128, 0, 0, 0, 0, 0, 0, 0, 9, 0, 0, 0, 0, 0, 0, 0, 0, 0},
		},
		{
			chunkOf("", api.Sample{T: math.MaxInt, V: greatest}),
			[]byte{1, 0, 1, 9, 0, 127, 255, 255, 255, 255, 255, 255, 255, 9, 0, 255, 255, 255, 255, 255, 255, 255, 255},
		},
	} {
		wantPair(t, x.c, x.b)
	}
}

func TestSamplesOfEveryKind(t *testing.T) {
	var timeTags, patternTags [256]int
	for i, timeAt := range timeKinds() {
		for j, patternAt := range patternKinds() {
			for _, n := range []int{1, 2, 3, 4, 20, 100, 300} {
				tenant := edgeTenants()[(i+j+n)%len(edgeTenants())]
				c := chunkOf(tenant, made(n, timeAt, patternAt)...)
				wantPair(t, c, encodeByWords(t, c))
				timeBytes, patternBytes := timesAndPatterns(t, c)
				timeTags[timeBytes[0]]++
				patternTags[patternBytes[0]]++
			}
		}
	}
	for tag := range 5 {
		if timeTags[tag] == 0 {
			t.Errorf("no times were tried that go way %d", tag)
		}
	}
	for tag := range 4 {
		if patternTags[tag] == 0 {
			t.Errorf("no patterns were tried that go way %d", tag)
		}
	}
}

func TestEveryTenant(t *testing.T) {
	for _, tenant := range edgeTenants() {
		for _, s := range [][]api.Sample{nil, {}, {{T: 5, V: 7}}, {{T: -1, V: greatest}, {T: 3, V: 0}}} {
			c := chunkOf(tenant, s...)
			wantPair(t, c, encodeByWords(t, c))
		}
	}
	for n := range 65 {
		c := chunkOf(strings.Repeat("\xe9", n))
		wantPair(t, c, slices.Concat([]byte{1, byte(n)}, bytes.Repeat([]byte{0xe9}, n), []byte{0, 1, 0, 1, 0}))
	}
}

func TestTheCountGrows(t *testing.T) {
	for _, x := range []struct {
		n     int
		count []byte
	}{
		{1, []byte{1}}, {126, []byte{126}}, {127, []byte{127}}, {128, []byte{128, 1}}, {129, []byte{129, 1}},
		{16383, []byte{255, 127}}, {16384, []byte{128, 128, 1}}, {65535, []byte{255, 255, 3}}, {65536, []byte{128, 128, 4}},
	} {
		c := chunkOf("t", make([]api.Sample, x.n)...)
		timeBytes, patternBytes := timesAndPatterns(t, c)
		want := slices.Concat([]byte{1, 1, 't'}, x.count, blockByWords(timeBytes), blockByWords(patternBytes))
		wantPair(t, c, want)
	}
}

func TestAsManySamplesAsMayBe(t *testing.T) {
	tenant := strings.Repeat("\x80", api.MaxTenant)
	farTime := func(i int) int { return int(far(-i)) }
	for _, s := range [][]api.Sample{
		made(api.MaxSamples, func(i int) int { return 1000 * i }, far),
		made(api.MaxSamples, farTime, func(i int) uint64 { return far(i % 300) }),
		made(api.MaxSamples, farTime, far),
	} {
		c := chunkOf(tenant, s...)
		wantPair(t, c, encodeByWords(t, c))
	}
	// The last one's times and patterns take as many bytes as Most, so that no chunk is longer.
	longest, _ := Encode(chunkOf(tenant, made(api.MaxSamples, farTime, far)...))
	if want := 1 + 1 + 64 + 3 + 2*(3+524289); len(longest) != want {
		t.Errorf("the longest chunk takes %d bytes; want %d", len(longest), want)
	}
}

func TestTooMuchIsNotEncoded(t *testing.T) {
	few := []api.Sample{{T: 5, V: 7}}
	for _, x := range []struct {
		tenant string
		s      []api.Sample
	}{
		{strings.Repeat("x", 65), nil},
		{strings.Repeat("x", 65), few},
		{strings.Repeat("\x00", 65), few},
		{strings.Repeat("é", 33), few}, // 33 letters, and 66 bytes
		{strings.Repeat("x", 1<<20), few},
		{"", make([]api.Sample, 65537)},
		{"a", make([]api.Sample, 65537)},
		{strings.Repeat("x", 64), make([]api.Sample, 65537)},
		{"a", make([]api.Sample, 200000)},
		{strings.Repeat("x", 65), make([]api.Sample, 65536)},
		{strings.Repeat("x", 65), make([]api.Sample, 65537)},
	} {
		wantNoBytes(t, chunkOf(x.tenant, x.s...), api.ErrLong)
	}
}

// P12.2

func TestNoBytes(t *testing.T) {
	wantNone(t, nil, api.ErrShort)
	wantNone(t, []byte{}, api.ErrShort)
}

func TestAnotherFirstByte(t *testing.T) {
	right := encodeByWords(t, chunkOf("a", api.Sample{T: 5, V: 7}))
	for first := range 256 {
		if first == 1 {
			continue
		}
		wantNone(t, []byte{byte(first)}, api.ErrForm)
		wantNone(t, []byte{byte(first), 65}, api.ErrForm)
		wantNone(t, behind([]byte{byte(first)}, right[1:]...), api.ErrForm)
	}
}

func TestCutOffAnywhere(t *testing.T) {
	for _, c := range []api.Chunk{
		chunkOf(""),
		chunkOf("a", api.Sample{T: 5, V: 7}),
		chunkOf(strings.Repeat("x", 64), made(3, func(i int) int { return int(far(i)) }, far)...),
		chunkOf("ab", made(200, func(i int) int { return i * i * i }, far)...),
	} {
		b := encodeByWords(t, c)
		for n := range b {
			wantNone(t, b[:n], api.ErrShort)
		}
		wantPair(t, c, b)
	}
}

func TestCutOffInEachPart(t *testing.T) {
	for _, b := range [][]byte{
		{1},                      // ahead of the tenant
		{1, 128},                 // in its length
		{1, 3, 97, 98},           // in it
		{1, 64},                  // as long as may be
		{1, 0},                   // ahead of the count
		{1, 0, 128, 128},         // in it
		{1, 0, 1},                // ahead of the times
		{1, 0, 128, 1, 128},      // in their length
		{1, 0, 1, 2, 1},          // in them
		{1, 0, 1, 9},             // as long as may be
		{1, 0, 1, 2, 1, 10},      // ahead of the patterns
		{1, 0, 1, 2, 1, 10, 128}, // in their length
		{1, 0, 1, 2, 1, 10, 9, 0, 0, 0, 0, 0, 0, 0, 0}, // in them
	} {
		wantNone(t, b, api.ErrShort)
	}
}

func TestTenantsBlock(t *testing.T) {
	tail := []byte{0, 1, 0, 1, 0}
	for _, n := range []int{65, 66, 127, 128, 300} {
		wantNone(t, behind([]byte{1}, varintByWords(n)...), api.ErrLong)
		wantNone(t, slices.Concat([]byte{1}, blockByWords(make([]byte, n)), tail), api.ErrLong)
	}
	wantNone(t, slices.Concat([]byte{1}, bytes.Repeat([]byte{255}, 9), []byte{1}, tail), api.ErrLong)
	wantNone(t, slices.Concat([]byte{1}, bytes.Repeat([]byte{255}, 9), []byte{2}, tail), api.ErrForm)
	wantNone(t, slices.Concat([]byte{1, 128, 0}, tail), api.ErrForm) // not the shortest varint of 0
	wantNone(t, slices.Concat([]byte{1, 129, 0, 97}, tail), api.ErrForm)
	wantDecoded(t, slices.Concat([]byte{1, 64}, bytes.Repeat([]byte{97}, 64), tail), chunkOf(strings.Repeat("a", 64)))
}

func TestTheCount(t *testing.T) {
	tail := []byte{1, 0, 1, 0}
	for _, x := range []struct {
		count []byte
		e     api.Errno
	}{
		{[]byte{128, 0}, api.ErrForm},
		{[]byte{129, 128, 0}, api.ErrForm},
		{[]byte{129, 128, 132, 0}, api.ErrForm}, // 65537, and not the shortest: the varint's error first
		{bytes.Repeat([]byte{255}, 10), api.ErrForm},
		{behind(bytes.Repeat([]byte{128}, 9), 2), api.ErrForm},
		{[]byte{129, 128, 4}, api.ErrLong},            // 65537
		{[]byte{128, 128, 8}, api.ErrLong},            // 131072
		{[]byte{128, 128, 128, 128, 16}, api.ErrLong}, // 2^32
		{behind(bytes.Repeat([]byte{255}, 8), 127), api.ErrLong},
		{behind(bytes.Repeat([]byte{128}, 9), 1), api.ErrLong}, // 2^63, which no int is
		{behind(bytes.Repeat([]byte{255}, 9), 1), api.ErrLong},
	} {
		wantNone(t, slices.Concat([]byte{1, 0}, x.count, tail), x.e)
		wantNone(t, behind([]byte{1, 0}, x.count...), x.e)
	}
	// So many there may be: what is wrong is only that their times aren't there.
	wantNone(t, []byte{1, 0, 128, 128, 4}, api.ErrShort)
	wantNone(t, []byte{1, 0, 128, 128, 4, 1, 0, 1, 0}, api.ErrShort)
}

func TestBlocksLongerThanMost(t *testing.T) {
	for _, n := range []int{0, 1, 2, 15, 16, 127, 128, api.MaxSamples} {
		most := 1 + 8*n
		full, over := make([]byte, most), make([]byte, most+1)
		wantNone(t, whole("", n, over, full), api.ErrLong)
		wantNone(t, whole("", n, full, over), api.ErrLong)
		wantNone(t, whole("", n, over, over), api.ErrLong)
		wantNone(t, slices.Concat([]byte{1, 0}, varintByWords(n), varintByWords(most+1)), api.ErrLong)
		wantNone(t, slices.Concat([]byte{1, 0}, varintByWords(n), blockByWords(full), varintByWords(most+1)), api.ErrLong)
		// One byte fewer is no reason yet.
		wantNone(t, slices.Concat([]byte{1, 0}, varintByWords(n), varintByWords(most)), api.ErrShort)
		wantNone(t, slices.Concat([]byte{1, 0}, varintByWords(n), blockByWords(full), varintByWords(most)), api.ErrShort)
	}
	// Lengths that are not the shortest varints.
	wantNone(t, []byte{1, 0, 0, 129, 0, 0, 1, 0}, api.ErrForm)
	wantNone(t, []byte{1, 0, 0, 1, 0, 129, 0, 0}, api.ErrForm)
}

func TestBytesLeftBehind(t *testing.T) {
	zero := behind([]byte{0}, eight(7)...)
	for _, b := range [][]byte{
		whole("", 0, []byte{0}, []byte{0}),
		whole("a", 1, []byte{1, 10}, zero),
		whole("a", 1, []byte{0}, zero),          // times that are cut off: ErrShort, were nothing left
		whole("a", 1, []byte{1, 10}, []byte{0}), // patterns likewise
		whole("a", 1, nil, nil),
		whole("a", 1, []byte{9}, []byte{9}),
	} {
		wantNone(t, behind(b, 0), api.ErrForm)
		wantNone(t, behind(b, 1), api.ErrForm)
		wantNone(t, behind(b, 255, 255, 255), api.ErrForm)
		wantNone(t, behind(b, b...), api.ErrForm)
	}
}

func TestWrongTimes(t *testing.T) {
	zero := behind([]byte{0}, eight(7)...)
	for _, x := range []struct {
		n     int
		times []byte
		e     api.Errno
	}{
		{1, nil, api.ErrShort},
		{1, []byte{0}, api.ErrShort},
		{1, []byte{0, 0, 0, 0, 0, 0, 0, 0}, api.ErrShort},
		{1, []byte{1}, api.ErrShort},
		{1, []byte{1, 128}, api.ErrShort},
		{1, []byte{2, 10}, api.ErrShort},
		{1, []byte{5, 10}, api.ErrForm},
		{1, []byte{255}, api.ErrForm},
		{1, []byte{1, 138, 0}, api.ErrForm},
		{1, []byte{1, 10, 0}, api.ErrForm},
		{1, []byte{3, 10}, api.ErrForm}, // way 1 is as short
		{1, []byte{4, 10}, api.ErrForm},
		{1, behind([]byte{0}, eight(5)...), api.ErrForm}, // way 1 is shorter
		{0, nil, api.ErrShort},
		{0, []byte{1}, api.ErrForm},
		{0, []byte{2}, api.ErrForm},
		{0, []byte{5}, api.ErrForm},
	} {
		right := zero
		if x.n == 0 {
			right = []byte{0}
		}
		b := whole("a", x.n, x.times, right)
		if _, e := intcodec.Decode(x.times, x.n); e != x.e {
			t.Fatalf("intcodec.Decode(%v, %d): %v", x.times, x.n, e)
		}
		wantNone(t, b, x.e)
	}
}

func TestWrongPatterns(t *testing.T) {
	for _, x := range []struct {
		n        int
		patterns []byte
		e        api.Errno
	}{
		{1, nil, api.ErrShort},
		{1, []byte{0}, api.ErrShort},
		{1, []byte{0, 0, 0, 0, 0, 0, 0, 7}, api.ErrShort},
		{1, []byte{1, 0, 0, 0}, api.ErrShort},
		{1, []byte{2}, api.ErrShort},
		{1, []byte{3, 0}, api.ErrShort},
		{1, []byte{4}, api.ErrForm},
		{1, []byte{255, 0}, api.ErrForm},
		{1, behind([]byte{1}, eight(7)...), api.ErrForm}, // way 0 is as short
		{1, behind([]byte{3}, eight(7)...), api.ErrForm},
		{0, nil, api.ErrShort},
		{0, []byte{4}, api.ErrForm},
		{0, []byte{3}, api.ErrForm},
	} {
		right := []byte{1, 10}
		if x.n == 0 {
			right = []byte{0}
		}
		if _, e := valcodec.Decode(x.patterns, x.n); e != x.e {
			t.Fatalf("valcodec.Decode(%v, %d): %v", x.patterns, x.n, e)
		}
		wantNone(t, whole("a", x.n, right, x.patterns), x.e)
	}
}

func TestFirstOfSeveralReasons(t *testing.T) {
	for _, x := range []struct {
		b []byte
		e api.Errno
	}{
		{[]byte{0}, api.ErrForm},                                            // the first byte, ahead of a tenant that is not there
		{[]byte{2, 65}, api.ErrForm},                                        // and of one that is too long
		{[]byte{1, 65, 128, 0}, api.ErrLong},                                // the tenant, ahead of the count's form
		{[]byte{1, 129, 0, 129, 128, 4}, api.ErrForm},                       // the tenant's form, ahead of too great a count
		{[]byte{1, 0, 128, 0, 255, 1}, api.ErrForm},                         // the count's form, ahead of times that are too long
		{[]byte{1, 0, 129, 128, 4, 129, 0}, api.ErrLong},                    // too great a count, ahead of the times' form
		{[]byte{1, 0, 0, 2, 0, 0, 129, 0}, api.ErrLong},                     // times that are too long, ahead of the patterns' form
		{[]byte{1, 0, 0, 129, 0, 0, 2, 0, 0}, api.ErrForm},                  // the times' form, ahead of patterns that are too long
		{[]byte{1, 0, 0, 2, 0, 0}, api.ErrLong},                             // times that are too long, ahead of patterns that are not there
		{[]byte{1, 0, 1, 2, 5, 0, 10}, api.ErrLong},                         // patterns that are too long, ahead of times of no way
		{[]byte{1, 0, 1, 2, 5, 0, 9, 0}, api.ErrShort},                      // patterns that are cut off, ahead of times of no way
		{[]byte{1, 0, 1, 2, 5, 0}, api.ErrShort},                            // patterns that are not there, likewise
		{[]byte{1, 0, 0, 1, 0, 2, 0, 0, 9}, api.ErrLong},                    // patterns that are too long, ahead of a byte that is left
		{[]byte{1, 0, 1, 1, 0, 1, 0, 9}, api.ErrForm},                       // a byte that is left, ahead of times that are cut off
		{[]byte{1, 0, 1, 2, 1, 10, 1, 0, 9}, api.ErrForm},                   // and ahead of patterns that are
		{[]byte{1, 0, 1, 1, 0, 1, 4}, api.ErrShort},                         // times that are cut off, ahead of patterns of no way
		{[]byte{1, 0, 1, 1, 5, 1, 0}, api.ErrForm},                          // times of no way, ahead of patterns that are cut off
		{[]byte{1, 0, 1, 2, 1, 10, 1, 4}, api.ErrForm},                      // patterns of no way alone
		{[]byte{1, 0, 1, 2, 1, 10, 1, 0}, api.ErrShort},                     // patterns that are cut off alone
		{[]byte{1, 0, 1, 1, 0, 9, 0, 0, 0, 0, 0, 0, 0, 0, 7}, api.ErrShort}, // times that are cut off alone
	} {
		wantNone(t, x.b, x.e)
	}
}

func TestPartsThatAreRightAndWrong(t *testing.T) {
	var parts = [][][]byte{
		{{1}, {0}, {2}, {255}},
		{{0}, {1, 97}, blockByWords(make([]byte, 65)), {129, 0, 97}},
		{{0}, {1}, {2}, {128, 0}, {129, 128, 4}, behind(bytes.Repeat([]byte{255}, 9), 1)},
		{{0}, {1, 0}, {2, 1, 10}, {2, 1, 128}, {2, 5, 0}, {3, 1, 10, 10}, {3, 2, 10, 0}, blockByWords(make([]byte, 10)), {130, 0, 1, 10}},
		{{}, {0}, {1, 0}, {1, 4}, blockByWords(behind([]byte{0}, eight(7)...)), blockByWords(behind([]byte{1}, eight(7)...)), blockByWords(make([]byte, 17)), {129, 0, 0}},
		{{}, {0}, {1, 2, 3}},
	}
	var seen [9]int
	var try func(int, []byte)
	try = func(i int, ahead []byte) {
		if i == len(parts) {
			seen[wantAsByWords(t, ahead)]++
			return
		}
		for _, part := range parts[i] {
			try(i+1, behind(ahead, part...))
		}
	}
	try(0, nil)
	for _, e := range []api.Errno{api.OK, api.ErrShort, api.ErrForm, api.ErrLong} {
		if seen[e] == 0 {
			t.Errorf("nothing that was tried is answered by %v", e)
		}
	}
	if seen[api.ErrArg] > 0 {
		t.Error("ErrArg is no error of this layer")
	}
}

func TestAnotherCount(t *testing.T) {
	c := chunkOf("a", made(20, func(i int) int { return int(far(-i)) }, far)...)
	timeBytes, patternBytes := timesAndPatterns(t, c)
	for n := range 20 {
		few := chunkOf("a", c.S[:n]...)
		fewTimes, fewPatterns := timesAndPatterns(t, few)
		wantDecoded(t, whole("a", n, fewTimes, fewPatterns), few)
		wantNone(t, whole("a", n, timeBytes, fewPatterns), api.ErrLong) // each takes eight bytes: they pass n's Most
		wantNone(t, whole("a", n, fewTimes, patternBytes), api.ErrLong)
		wantNone(t, whole("a", 20, fewTimes, patternBytes), api.ErrShort)
		wantNone(t, whole("a", 20, timeBytes, fewPatterns), api.ErrShort)
		wantNone(t, whole("a", 20, fewTimes, fewPatterns), api.ErrShort)
	}
	// Where all are the same the patterns' bytes tell no number: only the times' do.
	c = chunkOf("a", made(5, func(i int) int { return i }, func(int) uint64 { return 9 })...)
	timeBytes, patternBytes = timesAndPatterns(t, c)
	fourTimes, fourPatterns := timesAndPatterns(t, chunkOf("a", c.S[:4]...))
	wantDecoded(t, whole("a", 5, timeBytes, fourPatterns), c)
	wantDecoded(t, whole("a", 4, fourTimes, patternBytes), chunkOf("a", c.S[:4]...))
	for n := range 40 {
		wantAsByWords(t, whole("a", n, timeBytes, patternBytes))
	}
}

// P12.3

func TestMost(t *testing.T) {
	for _, x := range []struct{ n, want int }{
		{0, 1}, {1, 9}, {2, 17}, {3, 25}, {127, 1017}, {128, 1025}, {65535, 524281},
		{65536, 524289}, {65537, 524289}, {1 << 20, 524289}, {1 << 62, 524289}, {1<<60 + 1, 524289}, {math.MaxInt, 524289},
		{-1, 1}, {-2, 1}, {-5, 1}, {-65536, 1}, {-65537, 1}, {-1 << 60, 1}, {math.MinInt + 1, 1}, {math.MinInt, 1},
	} {
		if got := Most(x.n); got != x.want {
			t.Errorf("Most(%d) = %d; want %d", x.n, got, x.want)
		}
	}
	for n := range api.MaxSamples + 1 {
		if Most(n) != 1+8*n {
			t.Fatalf("Most(%d) = %d", n, Most(n))
		}
	}
}

// P12.4

// someChunk has times and patterns of random kinds, and now and then a wild one among them.
func someChunk(random *rand.Rand) api.Chunk {
	timeAt := timeKinds()[random.Intn(len(timeKinds()))]
	patternAt := patternKinds()[random.Intn(len(patternKinds()))]
	c := chunkOf(edgeTenants()[random.Intn(len(edgeTenants()))], made(random.Intn(60), timeAt, patternAt)...)
	for i := range c.S {
		if random.Intn(30) == 0 {
			c.S[i] = api.Sample{T: int(random.Uint64()) >> random.Intn(64), V: random.Uint64() >> random.Intn(64)}
		}
	}
	return c
}

func TestThereAndBack(t *testing.T) {
	random := rand.New(rand.NewSource(12))
	for range 2000 {
		c := someChunk(random)
		wantPair(t, c, encodeByWords(t, c))
	}
}

// turned is b with a byte turned, put in, or taken out.
func turned(random *rand.Rand, b []byte) []byte {
	i := random.Intn(len(b))
	switch random.Intn(4) {
	case 0:
		return slices.Concat(b[:i], b[i+1:])
	case 1:
		return slices.Concat(b[:i], []byte{byte(random.Intn(256))}, b[i:])
	case 2:
		return slices.Concat(b[:i], []byte{b[i] ^ 1<<random.Intn(8)}, b[i+1:])
	default:
		return slices.Concat(b[:i], []byte{byte(random.Intn(4))}, b[i+1:])
	}
}

func TestOneWayAlone(t *testing.T) {
	random := rand.New(rand.NewSource(13))
	var seen [9]int
	for range 30000 {
		b, _ := Encode(someChunk(random))
		for range 1 + random.Intn(2) {
			b = turned(random, b)
		}
		e := wantAsByWords(t, b)
		seen[e]++
		if c, _ := Decode(b); e == api.OK {
			wantEncoded(t, c, b)
		}
	}
	if seen[api.OK] == 0 || seen[api.ErrShort] == 0 || seen[api.ErrForm] == 0 || seen[api.ErrLong] == 0 {
		t.Errorf("not every answer was tried: %v", seen)
	}
}

func TestAllFewBytes(t *testing.T) {
	// Whatever begins with these is decoded, or not, by its next two bytes.
	for _, ahead := range [][]byte{
		{}, {1}, {1, 0}, {1, 1, 97}, {1, 0, 0}, {1, 0, 0, 1}, {1, 0, 0, 1, 0}, {1, 0, 1, 2}, {1, 0, 1, 2, 1, 10},
		{1, 0, 2, 3, 1}, {1, 0, 1, 2, 1, 10, 9, 0, 0, 0, 0, 0, 0, 0},
	} {
		for first := range 256 {
			wantAsByWords(t, behind(ahead, byte(first)))
			for second := range 256 {
				wantAsByWords(t, behind(ahead, byte(first), byte(second)))
			}
		}
	}
}

func TestNoneTakeMoreThanMost(t *testing.T) {
	reached := 0
	for _, timeAt := range timeKinds() {
		for _, patternAt := range patternKinds() {
			for n := range 40 {
				timeBytes, patternBytes := timesAndPatterns(t, chunkOf("", made(n, timeAt, patternAt)...))
				if len(timeBytes) > Most(n) || len(patternBytes) > Most(n) {
					t.Errorf("%d samples: times of %d bytes, patterns of %d; Most is %d", n, len(timeBytes), len(patternBytes), Most(n))
				}
				if n > 0 && len(timeBytes) == Most(n) && len(patternBytes) == Most(n) {
					reached++
				}
			}
		}
	}
	if reached == 0 {
		t.Error("nothing that was tried takes as many bytes as Most")
	}
}

// The rules that hold everywhere: nothing that is handed in is changed or kept, and nothing panics.

func TestTheChunkIsNeitherChangedNorKept(t *testing.T) {
	random := rand.New(rand.NewSource(14))
	for range 200 {
		c := someChunk(random)
		before := chunkOf(c.Tenant, slices.Clone(c.S)...)
		room := append(slices.Clone(c.S), api.Sample{T: 99, V: 98})
		b, _ := Encode(api.Chunk{Tenant: c.Tenant, S: room[:len(c.S)]})
		if !slices.Equal(room[:len(c.S)], before.S) || room[len(c.S)] != (api.Sample{T: 99, V: 98}) {
			t.Errorf("Encode changes what it is handed: %s", briefChunk(before))
		}
		kept := slices.Clone(b)
		clear(room)
		if !bytes.Equal(b, kept) {
			t.Errorf("Encode keeps what it is handed: %s", briefChunk(before))
		}
		clear(b)
		wantEncoded(t, before, kept)
	}
	many := made(api.MaxSamples+1, func(i int) int { return i }, far)
	before := slices.Clone(many)
	if wantNoBytes(t, chunkOf("a", many...), api.ErrLong); !slices.Equal(many, before) {
		t.Error("Encode changes what it refuses")
	}
}

func TestTheBytesAreNeitherChangedNorKept(t *testing.T) {
	random := rand.New(rand.NewSource(15))
	for range 200 {
		want := someChunk(random)
		b := encodeByWords(t, want)
		room := behind(b, 99, 98)
		c, _ := Decode(room[:len(b)])
		if !bytes.Equal(room, behind(b, 99, 98)) {
			t.Errorf("Decode changes what it is handed: %s", brief(b))
		}
		clear(room)
		if !same(c, want) {
			t.Errorf("Decode keeps what it is handed: %s, %s", brief(b), briefChunk(c))
		}
		clear(c.S)
		wantDecoded(t, b, want)
		wrong := turned(random, b)
		before := slices.Clone(wrong)
		if Decode(wrong); !bytes.Equal(wrong, before) {
			t.Errorf("Decode changes what it is handed: %s", brief(before))
		}
	}
}

func TestNothingPanics(t *testing.T) {
	random := rand.New(rand.NewSource(16))
	kinds := []byte{0, 1, 1, 1, 2, 3, 4, 5, 8, 9, 10, 17, 64, 65, 127, 128, 129, 255}
	for range 100000 {
		b := make([]byte, random.Intn(40))
		for i := range b {
			b[i] = kinds[random.Intn(len(kinds))]
		}
		if len(b) > 0 && random.Intn(4) > 0 {
			b[0] = 1
		}
		wantAsByWords(t, b)
	}
	for _, n := range []int{1000, 100000, 3000000} {
		for _, each := range []byte{0, 1, 127, 128, 255} {
			wantAsByWords(t, bytes.Repeat([]byte{each}, n))
			wantAsByWords(t, behind([]byte{1, 0, 128, 128, 4}, bytes.Repeat([]byte{each}, n)...))
		}
	}
}

func FuzzDecode(f *testing.F) {
	f.Add([]byte{1, 1, 97, 1, 2, 1, 10, 9, 0, 0, 0, 0, 0, 0, 0, 0, 7})
	f.Add([]byte{1, 0, 0, 1, 0, 1, 0})
	f.Add([]byte{1, 2, 97, 98, 4, 4, 2, 20, 20, 0, 9, 1, 0, 0, 0, 0, 0, 0, 0, 5})
	f.Fuzz(func(t *testing.T, b []byte) {
		e := wantAsByWords(t, b)
		if c, _ := Decode(b); e == api.OK {
			wantEncoded(t, c, b)
		}
	})
}
