package valcodec

import (
	"bytes"
	"encoding/binary"
	"math"
	"math/rand"
	"slices"
	"strconv"
	"strings"
	"testing"

	"casket/api"
	"casket/dict"
	"casket/gorilla"
)

const (
	tags     = 4
	greatest = math.MaxUint64
)

// edges are patterns at which something turns, and some floats: 0, -0, 1, -1, no number, the infinite ones.
var edges = []uint64{
	0, 1, 255, 256, 1 << 31, 1 << 32, 1<<32 - 1, 1 << 33, 1 << 62, 1<<63 - 1, 1 << 63, 1<<63 + 1, greatest - 1, greatest,
	0x3FF0 << 48, 0xBFF0 << 48, 0x7FF8 << 48, 0x7FF0 << 48, 0xFFF0 << 48,
}

func wantWay(t *testing.T, l []uint64, tag int, want []byte) {
	t.Helper()
	if got, e := Way(l, tag); !bytes.Equal(got, want) || e != api.OK {
		t.Errorf("Way(%s, %d): %s, %v; want %s, OK", brief(l), tag, brief(got), e, brief(want))
	}
}

func wantNoWay(t *testing.T, l []uint64, tag int, want api.Errno) {
	t.Helper()
	if got, e := Way(l, tag); got != nil || e != want {
		t.Errorf("Way(%s, %d): %s, %v; want nil, %v", brief(l), tag, brief(got), e, want)
	}
}

func wantEncoded(t *testing.T, l []uint64, want []byte) {
	t.Helper()
	if got, e := Encode(l); !bytes.Equal(got, want) || e != api.OK {
		t.Errorf("Encode(%s): %s, %v; want %s, OK", brief(l), brief(got), e, brief(want))
	}
}

func wantDecoded(t *testing.T, b []byte, n int, want []uint64) {
	t.Helper()
	if got, e := Decode(b, n); !slices.Equal(got, want) || e != api.OK {
		t.Errorf("Decode(%s, %d): %s, %v; want %s, OK", brief(b), n, brief(got), e, brief(want))
	}
}

// wantPair says that b is l's Encode, and l is b's Decode.
func wantPair(t *testing.T, l []uint64, b []byte) {
	t.Helper()
	wantEncoded(t, l, b)
	wantDecoded(t, b, len(l), l)
}

func wantNone(t *testing.T, b []byte, n int, want api.Errno) {
	t.Helper()
	if got, e := Decode(b, n); got != nil || e != want {
		t.Errorf("Decode(%s, %d): %s, %v; want nil, %v", brief(b), n, brief(got), e, want)
	}
}

// brief is a list's beginning, since some lists are long.
func brief[T byte | uint64](l []T) string {
	var out strings.Builder
	out.WriteString(strconv.Itoa(len(l)) + " of")
	for _, v := range l[:min(len(l), 60)] {
		out.WriteString(" " + strconv.FormatUint(uint64(v), 10))
	}
	return out.String()
}

func behind(b []byte, more ...byte) []byte { return slices.Concat(b, more) }

func tagged(tag int, b ...byte) []byte { return slices.Concat([]byte{byte(tag)}, b) }

// eights are patterns in eight bytes each.
func eights(l ...uint64) []byte {
	var out []byte
	for _, v := range l {
		out = binary.BigEndian.AppendUint64(out, v)
	}
	return out
}

func repeated(v uint64, n int) []uint64 { return slices.Repeat([]uint64{v}, n) }

// counted are n different patterns, each far from the one ahead.
func counted(n int) []uint64 {
	l := make([]uint64, n)
	for i := range l {
		l[i] = uint64(i) * 0x9E3779B97F4A7C15 // odd, so that no two are the same
	}
	return l
}

// wayByWords are the chapter's words for one way of at most MaxSamples patterns.
func wayByWords(l []uint64, tag int) ([]byte, api.Errno) {
	switch tag {
	case 0:
		return eights(l...), api.OK
	case 1:
		if len(l) == 0 || len(slices.Compact(slices.Clone(l))) != 1 {
			return nil, api.ErrArg
		}
		return eights(l[0]), api.OK
	case 2:
		return dict.Encode(l)
	default:
		return gorilla.Encode(l)
	}
}

// encodeByWords is P11.2 word for word, of at most MaxSamples patterns.
func encodeByWords(l []uint64) []byte {
	var all [][]byte
	for tag := range tags {
		if b, e := wayByWords(l, tag); e == api.OK {
			all = append(all, tagged(tag, b...))
		}
	}
	return slices.MinFunc(all, func(a, b []byte) int { return len(a) - len(b) }) // of several the first
}

// readByWords are the patterns of a way's bytes, or its error.
func readByWords(b []byte, n, tag int) ([]uint64, api.Errno) {
	switch tag {
	case 2:
		return dict.Decode(b, n)
	case 3:
		return gorilla.Decode(b, n)
	}
	size := 8
	if tag == 0 {
		size = 8 * n
	}
	if len(b) < size {
		return nil, api.ErrShort
	}
	if len(b) > size {
		return nil, api.ErrForm
	}
	var l []uint64
	for i := range n {
		l = append(l, binary.BigEndian.Uint64(b[i*8%size:])) // of 1 the same one again
	}
	return l, api.OK
}

// decodeByWords is P11.3 word for word, one reason behind the other.
func decodeByWords(b []byte, n int) ([]uint64, api.Errno) {
	if n < 0 || n > 65536 {
		return nil, api.ErrArg
	}
	if len(b) == 0 {
		return nil, api.ErrShort
	}
	if b[0] > 3 {
		return nil, api.ErrForm
	}
	l, e := readByWords(b[1:], n, int(b[0]))
	if e != api.OK {
		return nil, e
	}
	if !bytes.Equal(encodeByWords(l), b) {
		return nil, api.ErrForm
	}
	return l, api.OK
}

func wantAsByWords(t *testing.T, b []byte, n int) (decoded bool) {
	t.Helper()
	want, wantError := decodeByWords(b, n)
	got, e := Decode(b, n)
	if !slices.Equal(got, want) || e != wantError || e != api.OK && got != nil {
		t.Errorf("Decode(%s, %d): %s, %v; want %s, %v", brief(b), n, brief(got), e, brief(want), wantError)
	}
	return e == api.OK
}

func wantWaysAsByWords(t *testing.T, l []uint64) {
	t.Helper()
	for tag := range tags {
		want, wantError := wayByWords(l, tag)
		if got, e := Way(l, tag); !bytes.Equal(got, want) || e != wantError || e != api.OK && got != nil {
			t.Errorf("Way(%s, %d): %s, %v; want %s, %v", brief(l), tag, brief(got), e, brief(want), wantError)
		}
	}
	wantPair(t, l, encodeByWords(l))
}

// somePatterns are all the same, a few different ones, near to the one ahead, or each for itself.
func somePatterns(r *rand.Rand, n int) []uint64 {
	l := make([]uint64, n)
	few := make([]uint64, 1+r.Intn(20))
	for i := range few {
		few[i] = r.Uint64() >> r.Intn(64)
		if r.Intn(4) == 0 {
			few[i] = edges[r.Intn(len(edges))]
		}
	}
	v, kind, shift, again := few[0], r.Intn(5), r.Intn(64), r.Intn(4)
	for i := range l {
		l[i] = v
		switch {
		case kind == 0: // always the same
		case r.Intn(4) < again: // the same once more
		case kind == 1:
			v = few[r.Intn(len(few))]
		case kind == 2: // what differs stands in a few bits
			v ^= uint64(r.Intn(1<<10)) << shift
		case kind == 3: // floats that grow by a half
			v = math.Float64bits(float64(i) / 2)
		default:
			v = r.Uint64()
		}
	}
	return l
}

type pair struct {
	l []uint64
	b []byte
}

// each is, for each way, a list for which Encode takes it, and what Encode writes.
func each() [tags]pair {
	return [tags]pair{
		{[]uint64{7, greatest, 1 << 20}, tagged(0, eights(7, greatest, 1<<20)...)},
		{[]uint64{5, 5, 5}, []byte{1, 0, 0, 0, 0, 0, 0, 0, 5}},
		// 1<<63 + 1 differs from 0 in the first bit and in the last
		{[]uint64{0, 1<<63 + 1, 0, 1<<63 + 1}, tagged(2, slices.Concat([]byte{2}, eights(0, 1<<63+1), []byte{0b01010000})...)},
		// the bits 11 11111 000000 1, and 10 1
		{[]uint64{0, 1 << 32, 0}, tagged(3, behind(eights(0), 0b11_11111_0, 0b00000_1_10, 0b1_0000000)...)},
	}
}

// P11.1

func TestWayOfThreePatterns(t *testing.T) {
	l := []uint64{9, 9, 7}
	wantWay(t, l, 0, []byte{0, 0, 0, 0, 0, 0, 0, 9, 0, 0, 0, 0, 0, 0, 0, 9, 0, 0, 0, 0, 0, 0, 0, 7})
	wantNoWay(t, l, 1, api.ErrArg)
	wantWay(t, l, 2, []byte{2, 0, 0, 0, 0, 0, 0, 0, 9, 0, 0, 0, 0, 0, 0, 0, 7, 32})
	// 0, and of 9 and 7 differ 14: 1 1 11111 011111 and 32 bits, 14 without its lowest 0
	wantWay(t, l, 3, []byte{0, 0, 0, 0, 0, 0, 0, 9, 0b0_11_11111, 0b011111_00, 0, 0, 0, 0b000111_00})
}

func TestWayOfTheHighestByteFirst(t *testing.T) {
	l := []uint64{0x0102030405060708, 0xFFFEFDFCFBFAF9F8}
	wantWay(t, l, 0, []byte{1, 2, 3, 4, 5, 6, 7, 8, 255, 254, 253, 252, 251, 250, 249, 248})
	wantWay(t, l[:1], 1, []byte{1, 2, 3, 4, 5, 6, 7, 8})
	wantWay(t, repeated(l[1], 5), 1, []byte{255, 254, 253, 252, 251, 250, 249, 248})
	wantWay(t, l, 2, []byte{2, 1, 2, 3, 4, 5, 6, 7, 8, 255, 254, 253, 252, 251, 250, 249, 248, 0b01000000})
}

func TestWayOfNoPatterns(t *testing.T) {
	for _, none := range [][]uint64{nil, {}} {
		wantWay(t, none, 0, nil)
		wantNoWay(t, none, 1, api.ErrArg)
		wantWay(t, none, 2, []byte{0})
		wantWay(t, none, 3, nil)
	}
}

func TestWayOfOnePattern(t *testing.T) {
	for _, v := range edges {
		wantWay(t, []uint64{v}, 0, eights(v))
		wantWay(t, []uint64{v}, 1, eights(v))
		wantWay(t, []uint64{v}, 2, tagged(1, eights(v)...))
		wantWay(t, []uint64{v}, 3, eights(v))
	}
}

func TestWayOfTheSamePattern(t *testing.T) {
	for _, v := range edges {
		for _, n := range []int{2, 3, 8, 9, 10, 1000, api.MaxSamples} {
			l := repeated(v, n)
			wantWay(t, l, 0, bytes.Repeat(eights(v), n))
			wantWay(t, l, 1, eights(v))
			wantWay(t, l, 2, tagged(1, eights(v)...))
			wantWay(t, l, 3, behind(eights(v), make([]byte, (n-1+7)/8)...))
		}
	}
}

func TestWayOneOfPatternsThatDiffer(t *testing.T) {
	wantNoWay(t, []uint64{1, 2}, 1, api.ErrArg)
	wantNoWay(t, []uint64{1 << 63, 0}, 1, api.ErrArg) // the same number as floats, not the same pattern
	for _, v := range edges {
		for bit := range 64 {
			wantNoWay(t, []uint64{v, v ^ 1<<bit}, 1, api.ErrArg)
			wantNoWay(t, []uint64{v ^ 1<<bit, v, v}, 1, api.ErrArg)
			wantNoWay(t, []uint64{v, v ^ 1<<bit, v}, 1, api.ErrArg)
			wantNoWay(t, []uint64{v, v, v ^ 1<<bit}, 1, api.ErrArg)
		}
		wantNoWay(t, append(repeated(v, api.MaxSamples-1), v^1), 1, api.ErrArg)
		wantNoWay(t, append([]uint64{v ^ 1}, repeated(v, api.MaxSamples-1)...), 1, api.ErrArg)
	}
}

func TestWayByWrongTags(t *testing.T) {
	lists := [][]uint64{nil, {}, {5}, {5, 5}, {1, 2, 3}, make([]uint64, api.MaxSamples), make([]uint64, api.MaxSamples+1), counted(api.MaxSamples + 1)}
	for _, tag := range []int{-1, -2, math.MinInt, 4, 5, 255, 256, 257, 258, 1 << 32, 1<<32 + 1, math.MaxInt} {
		for _, l := range lists {
			wantNoWay(t, l, tag, api.ErrArg)
		}
	}
}

func TestWayOfMoreThanTheMost(t *testing.T) {
	for tag := range tags {
		for _, n := range []int{api.MaxSamples + 1, api.MaxSamples + 2, 2 * api.MaxSamples} {
			wantNoWay(t, make([]uint64, n), tag, api.ErrLong)
			wantNoWay(t, counted(n), tag, api.ErrLong) // ahead of way 1's error
		}
	}
}

func TestWayOfTheMost(t *testing.T) {
	wantWaysAsByWords(t, counted(api.MaxSamples))
	wantWaysAsByWords(t, repeated(greatest, api.MaxSamples))
	wantWaysAsByWords(t, append(repeated(7, api.MaxSamples-1), 8))
	wantWaysAsByWords(t, slices.Repeat([]uint64{3, 1 << 63, 9, 4}, api.MaxSamples/4))
}

func TestWayOfTwoPatterns(t *testing.T) {
	for _, a := range edges {
		for _, b := range edges {
			wantWaysAsByWords(t, []uint64{a, b})
			wantWaysAsByWords(t, []uint64{a, b, a})
			wantWaysAsByWords(t, []uint64{a, a, b, b})
			wantWaysAsByWords(t, []uint64{0, a, b, 7, a})
		}
	}
}

func TestWayOfSomePatterns(t *testing.T) {
	r := rand.New(rand.NewSource(111))
	for range 3000 {
		wantWaysAsByWords(t, somePatterns(r, r.Intn(200)))
	}
}

// P11.2

func TestEncodeTheExamples(t *testing.T) {
	wantPair(t, []uint64{5, 5, 5}, []byte{1, 0, 0, 0, 0, 0, 0, 0, 5})
	wantPair(t, nil, []byte{0})
	wantPair(t, []uint64{}, []byte{0})
}

func TestEncodeTakesEachWay(t *testing.T) {
	for tag, x := range each() {
		if int(x.b[0]) != tag {
			t.Fatalf("the list of way %d is of another way", tag)
		}
		wantPair(t, x.l, x.b)
		wantWay(t, x.l, tag, x.b[1:])
		for other := range tags {
			if b, e := Way(x.l, other); e == api.OK && other != tag && len(b) <= len(x.b)-1 {
				t.Errorf("way %d is not alone the shortest: way %d takes %d bytes", tag, other, len(b))
			}
		}
	}
}

func TestEncodeOnePattern(t *testing.T) {
	for _, v := range edges {
		wantPair(t, []uint64{v}, tagged(0, eights(v)...)) // ways 1 and 3 are as short
		for _, n := range []int{2, 3, 9, 10, api.MaxSamples} {
			wantPair(t, repeated(v, n), tagged(1, eights(v)...))
		}
	}
}

func TestEncodeTwoThatDifferInTheLastPlace(t *testing.T) {
	for _, v := range edges {
		// 1 1 11111 100000 and 33 bits behind the first one
		x := behind(eights(v), 0b11_11111_1, 0b00000_000, 0, 0, 0, 0b000001_00)
		wantPair(t, []uint64{v, v ^ 1}, tagged(3, x...))
		wantNoWay(t, []uint64{v, v ^ 1}, 1, api.ErrArg)
	}
}

func TestEncodeOfWaysAsShortTheLeast(t *testing.T) {
	// ends has the first bit and the one ahead of so many that are 0: what differs from 0 takes all between.
	ends := func(trail int) uint64 { return 1<<63 | 1<<trail }
	few := counted(12)
	for _, x := range []struct {
		l    []uint64
		both [2]int // none takes fewer bytes than these
	}{
		{[]uint64{5}, [2]int{0, 1}},
		{[]uint64{5}, [2]int{0, 3}},
		{[]uint64{0, ends(20)}, [2]int{0, 3}}, // 64 and 13 and 44 bits
		{[]uint64{0, ends(13)}, [2]int{0, 3}}, // 64 and 13 and 51
		{append(slices.Clone(few), few[5]), [2]int{0, 2}},
		{append(counted(13), few[5]), [2]int{0, 2}},
		{[]uint64{0, ends(0), ends(0)}, [2]int{2, 3}}, // 78 and 64 bits
		{[]uint64{0, 0, ends(5)}, [2]int{2, 3}},
		{append(repeated(0, 60), repeated(ends(3), 20)...), [2]int{2, 3}}, // 64 and 13 and 61 and 78
	} {
		first, _ := wayByWords(x.l, x.both[0])
		second, _ := wayByWords(x.l, x.both[1])
		if len(first) != len(second) || len(encodeByWords(x.l)) != 1+len(first) {
			t.Fatalf("the ways %v of %v are not the shortest: %d and %d bytes", x.both, x.l, len(first), len(second))
		}
		wantPair(t, x.l, tagged(x.both[0], first...))
		wantNone(t, tagged(x.both[1], second...), len(x.l), api.ErrForm)
	}
	// and where one more bit, or one less, turns it
	wantPair(t, []uint64{0, ends(21)}, tagged(3, written(gorilla.Encode([]uint64{0, ends(21)}))...))
	wantPair(t, []uint64{0, ends(12)}, tagged(0, eights(0, ends(12))...))
	wantPair(t, []uint64{0, ends(6), ends(6)}, tagged(3, written(gorilla.Encode([]uint64{0, ends(6), ends(6)}))...))
}

// written is for ways that have no error.
func written(b []byte, _ api.Errno) []byte { return b }

func TestEncodeWhereTheShortestTurns(t *testing.T) {
	// so many patterns, one of them twice: by their places it takes a byte and some bits a pattern
	for n, tag := range map[int]byte{2: 1, 3: 2, 11: 2, 12: 2, 13: 0, 14: 0, 15: 0, 16: 0, 40: 0} {
		l := append(counted(n-1), counted(n - 1)[0])
		if b, e := Encode(l); b[0] != tag || e != api.OK {
			t.Errorf("%d patterns, one of them twice: way %d, %v; want %d", n, b[0], e, tag)
		}
	}
	for n, tag := range map[int]byte{1: 0, 2: 0, 3: 2, 4: 2, 100: 2} {
		l := repeated(0, n)
		for i := range n / 2 {
			l[2*i+1] = 1<<63 + 1
		}
		if b, e := Encode(l); b[0] != tag || e != api.OK {
			t.Errorf("%d patterns, two by turns: way %d, %v; want %d", n, b[0], e, tag)
		}
	}
}

func TestEncodeMoreThanTheMost(t *testing.T) {
	for _, n := range []int{api.MaxSamples + 1, api.MaxSamples + 2, 2 * api.MaxSamples, 1 << 20} {
		for _, l := range [][]uint64{repeated(0, n), repeated(greatest, n), counted(n)} {
			if b, e := Encode(l); b != nil || e != api.ErrLong {
				t.Errorf("Encode of %d patterns: %s, %v; want nil, ErrLong", n, brief(b), e)
			}
		}
	}
}

func TestEncodeTheMost(t *testing.T) {
	n := api.MaxSamples
	wantPair(t, repeated(9, n), tagged(1, eights(9)...))
	wantPair(t, counted(n), tagged(0, eights(counted(n)...)...))
	turns := slices.Repeat([]uint64{0, 1<<63 + 1}, n/2)
	wantPair(t, turns, tagged(2, slices.Concat([]byte{2}, eights(0, 1<<63+1), bytes.Repeat([]byte{0b01010101}, n/8))...))
	last := append(repeated(9, n-1), 8)
	wantPair(t, last, tagged(3, written(gorilla.Encode(last))...))
}

func TestEncodeSomePatterns(t *testing.T) {
	r := rand.New(rand.NewSource(112))
	for range 3000 {
		l := somePatterns(r, r.Intn(60))
		wantPair(t, l, encodeByWords(l))
	}
}

// P11.3

func TestDecodeByWrongNumbers(t *testing.T) {
	for _, n := range []int{-1, -2, math.MinInt, api.MaxSamples + 1, api.MaxSamples + 2, math.MaxInt} {
		for _, b := range [][]byte{nil, {}, {0}, {1}, {2}, {3}, {4}, {255}, tagged(1, eights(5)...), each()[2].b} {
			wantNone(t, b, n, api.ErrArg)
		}
	}
}

func TestDecodeNoBytes(t *testing.T) {
	for _, n := range []int{0, 1, 2, api.MaxSamples} {
		wantNone(t, nil, n, api.ErrShort)
		wantNone(t, []byte{}, n, api.ErrShort)
	}
}

func TestDecodeByWrongTags(t *testing.T) {
	for tag := tags; tag < 256; tag++ {
		for _, n := range []int{0, 1, 2, api.MaxSamples} {
			wantNone(t, []byte{byte(tag)}, n, api.ErrForm)
			wantNone(t, tagged(tag, eights(5)...), n, api.ErrForm)
			wantNone(t, tagged(tag, eights(5, 6)...), n, api.ErrForm)
		}
	}
}

func TestDecodeNoPatterns(t *testing.T) {
	wantDecoded(t, []byte{0}, 0, nil)
	wantNone(t, []byte{1}, 0, api.ErrShort)
	wantNone(t, []byte{2}, 0, api.ErrShort)
	wantNone(t, []byte{2, 0}, 0, api.ErrForm) // dict's none, but longer than way 0's
	wantNone(t, []byte{3}, 0, api.ErrForm)    // gorilla's none, as short as way 0's
	for last := range 256 {
		wantNone(t, []byte{0, byte(last)}, 0, api.ErrForm)
		wantNone(t, []byte{3, byte(last)}, 0, api.ErrForm)
	}
}

func TestDecodeTheSameOfNoPatterns(t *testing.T) {
	for _, v := range edges {
		b := tagged(1, eights(v)...)
		for size := 1; size < len(b); size++ {
			wantNone(t, b[:size], 0, api.ErrShort)
		}
		wantNone(t, b, 0, api.ErrForm)
		wantNone(t, behind(b, 0), 0, api.ErrForm)
		wantNone(t, b, 1, api.ErrForm) // way 0 is as short
		for _, n := range []int{2, 3, 100, api.MaxSamples} {
			wantDecoded(t, b, n, repeated(v, n))
		}
	}
}

func TestDecodeAByteTooFewAndOneLeft(t *testing.T) {
	for _, x := range []pair{each()[0], {[]uint64{5}, tagged(0, eights(5)...)}, each()[1], {repeated(5, 2), tagged(1, eights(5)...)}} {
		n := len(x.l)
		wantNone(t, x.b[:len(x.b)-1], n, api.ErrShort)
		for last := range 256 {
			wantNone(t, behind(x.b, byte(last)), n, api.ErrForm)
		}
		wantNone(t, behind(x.b, x.b[1:]...), n, api.ErrForm)
	}
	// of way 0 by a number that its bytes are not for
	b := tagged(0, eights(counted(3)...)...)
	wantDecoded(t, b, 3, counted(3))
	for n := range 3 {
		wantNone(t, b, n, api.ErrForm)
	}
	wantNone(t, b, 4, api.ErrShort)
	wantNone(t, b, api.MaxSamples, api.ErrShort)
	// too few and too many for the most
	most := tagged(0, eights(counted(api.MaxSamples)...)...)
	wantNone(t, most[:len(most)-1], api.MaxSamples, api.ErrShort)
	wantNone(t, behind(most, 0), api.MaxSamples, api.ErrForm)
}

func TestDecodeEveryBeginning(t *testing.T) {
	for _, x := range each() {
		for size := range len(x.b) {
			wantNone(t, x.b[:size], len(x.l), api.ErrShort)
		}
	}
	r := rand.New(rand.NewSource(113))
	for range 200 {
		l := somePatterns(r, 1+r.Intn(40))
		b := encodeByWords(l)
		for size := range len(b) {
			wantNone(t, b[:size], len(l), api.ErrShort)
		}
	}
}

func TestDecodeWhatTheOtherLayerRefuses(t *testing.T) {
	b := each()[2].b
	wantNone(t, []byte{2}, 1, api.ErrShort)
	wantNone(t, []byte{2, 128}, 1, api.ErrShort)
	wantNone(t, []byte{2, 128, 0}, 1, api.ErrForm)
	wantNone(t, []byte{2, 2}, 1, api.ErrForm)                                                                // more than n
	wantNone(t, []byte{2, 2}, 2, api.ErrShort)                                                               // no patterns
	wantNone(t, b[:len(b)-1], 4, api.ErrShort)                                                               // no bits
	wantNone(t, b, 9, api.ErrShort)                                                                          // too few bits
	wantNone(t, tagged(2, slices.Concat([]byte{2}, eights(9, 9), []byte{0b01010000})...), 4, api.ErrForm)    // twice the same
	wantNone(t, tagged(2, slices.Concat([]byte{3}, eights(0, 1, 9), []byte{0b00011011})...), 4, api.ErrForm) // no such place
	wantNone(t, tagged(2, slices.Concat([]byte{2}, eights(0, 9), []byte{0b01010001})...), 4, api.ErrForm)    // the filling is not 0
	wantNone(t, tagged(2, slices.Concat([]byte{2}, eights(0, 9), []byte{0b10100000})...), 4, api.ErrForm)    // not in the order of the firsts
	wantNone(t, behind(b, 0), 4, api.ErrForm)                                                                // a byte is left
	b = each()[3].b
	wantNone(t, []byte{3}, 1, api.ErrShort)
	wantNone(t, []byte{3, 0, 0, 0, 0, 0, 0, 0}, 1, api.ErrShort)
	wantNone(t, tagged(3, eights(0)...), 2, api.ErrShort)
	wantNone(t, tagged(3, behind(eights(0), 0b10_000000)...), 2, api.ErrForm)               // no window by now
	wantNone(t, tagged(3, behind(eights(0), 0b11_11111_1, 0b11111_000)...), 2, api.ErrForm) // more than 64 bits
	wantNone(t, tagged(3, behind(eights(0), 0b11_11111_0, 0b00000_1_10, 0b1_0000001)...), 3, api.ErrForm)
	wantNone(t, behind(b, 0), 3, api.ErrForm)
	wantNone(t, b, 1, api.ErrForm)
	wantNone(t, b, 11, api.ErrShort)
}

func TestDecodeTheBytesOfAnotherWay(t *testing.T) {
	lists := [][]uint64{nil, {5}, {0}, {greatest}, {5, 5}, {5, 4}, {9, 9, 7}, repeated(7, 1000), counted(20), make([]uint64, api.MaxSamples)}
	for _, x := range each() {
		lists = append(lists, x.l)
	}
	for _, l := range lists {
		taken := encodeByWords(l)
		for tag := range tags {
			b, e := wayByWords(l, tag)
			if e != api.OK {
				continue
			}
			b = tagged(tag, b...)
			if tag == int(taken[0]) {
				wantDecoded(t, b, len(l), l)
			} else {
				wantNone(t, b, len(l), api.ErrForm)
			}
		}
	}
	for _, v := range edges {
		for tag := 1; tag < tags; tag++ {
			b, _ := wayByWords([]uint64{v}, tag)
			wantNone(t, tagged(tag, b...), 1, api.ErrForm)
		}
		wantNone(t, tagged(0, eights(v, v)...), 2, api.ErrForm)
		wantNone(t, tagged(2, behind([]byte{1}, eights(v)...)...), 2, api.ErrForm)
		wantNone(t, tagged(3, behind(eights(v), 0)...), 2, api.ErrForm)
	}
}

func TestDecodeByAnotherNumber(t *testing.T) {
	b := each()[2].b // places of a bit each, four of which fill the last byte up
	wantNone(t, b, 3, api.ErrForm)
	wantNone(t, b, 2, api.ErrForm)
	wantNone(t, b, 1, api.ErrForm)
	wantDecoded(t, b, 5, []uint64{0, 1<<63 + 1, 0, 1<<63 + 1, 0})
	wantDecoded(t, b, 8, []uint64{0, 1<<63 + 1, 0, 1<<63 + 1, 0, 0, 0, 0})
	wantNone(t, b, 9, api.ErrShort)
	b = each()[3].b // the bits that fill the last byte up are more of the same
	for n := 4; n <= 10; n++ {
		wantDecoded(t, b, n, append([]uint64{0, 1 << 32, 0}, repeated(0, n-3)...))
	}
	wantNone(t, b, 11, api.ErrShort)
	wantNone(t, b, 2, api.ErrForm)
	b = each()[1].b
	wantDecoded(t, b, 2, repeated(5, 2))
	wantDecoded(t, b, api.MaxSamples, repeated(5, api.MaxSamples))
}

func TestDecodeFewBytesAsTheWordsSay(t *testing.T) {
	decoded := 0
	try := func(b []byte) {
		for _, n := range []int{-1, 0, 1, 2, 3, 4, 5, 9, 17} {
			if wantAsByWords(t, b, n) {
				decoded++
			}
		}
	}
	for _, v := range []uint64{0, 5, 1 << 31, greatest} {
		for _, ahead := range [][]byte{{0}, {1}, {2}, {3}, {4}, {2, 0}, {2, 1}, {2, 2}, {2, 3}, {2, 128}} {
			for count := range 4 {
				start := slices.Concat(ahead, eights(0, v, 1<<63+1)[:8*count])
				try(start)
				for last := range 256 {
					try(behind(start, byte(last)))
					try(behind(start, byte(last), byte(last)))
					try(behind(start, 0b11_11111_0, byte(last))) // gorilla's window of few bits
					try(behind(start, 0b11_00000_0, byte(last), 0b10000000))
				}
			}
		}
	}
	if decoded < 200 {
		t.Errorf("only %d were decoded", decoded)
	}
}

func TestDecodeTurnedBytesAsTheWordsSay(t *testing.T) {
	r := rand.New(rand.NewSource(114))
	for range 3000 {
		l := somePatterns(r, 1+r.Intn(40))
		b := encodeByWords(l)
		for n := len(l) - 2; n <= len(l)+2; n++ {
			wantAsByWords(t, b, n)
			turned := slices.Clone(b)
			turned[r.Intn(len(b))] ^= 1 << r.Intn(8)
			wantAsByWords(t, turned, n)
			turned[len(b)-1] = byte(r.Intn(256))
			wantAsByWords(t, turned, n)
			turned[0] = byte(r.Intn(tags + 1))
			wantAsByWords(t, turned, n)
			wantAsByWords(t, b[:r.Intn(len(b)+1)], n)
			wantAsByWords(t, behind(b, byte(r.Intn(2))), n)
		}
	}
}

// P11.4

func TestThereAndBack(t *testing.T) {
	r := rand.New(rand.NewSource(115))
	for _, n := range []int{0, 1, 2, 3, 4, 31, 127, 128, 129, 5000, api.MaxSamples - 1, api.MaxSamples} {
		for range 8 {
			l := somePatterns(r, n)
			b, e := Encode(l)
			if e != api.OK {
				t.Fatalf("Encode of %d patterns: %v", n, e)
			}
			wantDecoded(t, b, n, l)
		}
	}
}

func TestNoWayTakesFewerBytes(t *testing.T) {
	r := rand.New(rand.NewSource(116))
	var taken [tags]int
	for range 3000 {
		l := somePatterns(r, r.Intn(150))
		b, _ := Encode(l)
		taken[b[0]]++
		for tag := range tags {
			one, e := Way(l, tag)
			if e == api.OK && (len(one) < len(b)-1 || len(one) == len(b)-1 && tag < int(b[0])) {
				t.Errorf("Encode(%s): %d bytes by way %d; way %d takes %d", brief(l), len(b)-1, b[0], tag, len(one))
			}
		}
	}
	for tag, count := range taken {
		if count < 100 {
			t.Errorf("way %d was taken %d times only", tag, count)
		}
	}
}

func TestBytesThatAreDecodedAreThoseEncoded(t *testing.T) {
	r := rand.New(rand.NewSource(117))
	var decoded [tags]int
	for range 200000 {
		b := someBytes(r)
		tag, n := b[0], r.Intn(9)
		l, e := Decode(b, n)
		if e != api.OK {
			continue
		}
		decoded[tag]++
		if len(l) != n {
			t.Errorf("Decode(%v, %d): %d patterns", b, n, len(l))
		}
		wantEncoded(t, l, b)
	}
	for tag, count := range decoded {
		if count < 100 {
			t.Errorf("of way %d only %d were decoded", tag, count)
		}
	}
}

// someBytes are such that some of them are decoded.
func someBytes(r *rand.Rand) []byte {
	tag, count := r.Intn(tags), r.Intn(4)
	b := []byte{byte(tag)}
	if tag == 2 {
		b = append(b, byte(1+r.Intn(3)))
	}
	if tag == 3 {
		count = 1
	}
	for range count {
		b = append(b, eights(r.Uint64()>>r.Intn(64)<<r.Intn(64))...)
	}
	if tag == 3 { // a window of few bits
		b = append(b, 0b11_00000_0|byte(r.Intn(32))<<1, byte(r.Intn(64)))
	}
	for range r.Intn(3) * (tag / 2) {
		b = append(b, byte(r.Intn(256))>>r.Intn(8)<<r.Intn(8))
	}
	return b
}

func TestTheSameListIsTheSameBytes(t *testing.T) {
	l := slices.Concat(counted(300), counted(300))
	first, _ := Encode(l)
	if first[0] != 2 {
		t.Fatalf("way %d; want 2, which has a map in it", first[0])
	}
	for range 50 {
		wantPair(t, l, first)
	}
}

// R3

func TestTheListIsNeitherChangedNorKept(t *testing.T) {
	for tag, x := range each() {
		for name, write := range map[string]func([]uint64) ([]byte, api.Errno){
			"Way":    func(l []uint64) ([]byte, api.Errno) { return Way(l, tag) },
			"Encode": Encode,
		} {
			room := append(slices.Clone(x.l), 99, 98)
			before := slices.Clone(room)
			b, _ := write(room[:len(x.l)])
			if !slices.Equal(room, before) {
				t.Errorf("%s by way %d changes what it is handed: %v", name, tag, room)
			}
			want := slices.Clone(b)
			clear(room)
			if !bytes.Equal(b, want) {
				t.Errorf("%s by way %d keeps what it is handed: %v", name, tag, b)
			}
			clear(b)
			if again, _ := write(x.l); !bytes.Equal(again, want) {
				t.Errorf("%s by way %d keeps what it has answered: %v", name, tag, again)
			}
		}
	}
	wrong := counted(api.MaxSamples + 1)
	Encode(wrong)
	for tag := -1; tag <= tags; tag++ {
		Way(wrong, tag)
	}
	if !slices.Equal(wrong, counted(api.MaxSamples+1)) {
		t.Error("a list that is refused is changed")
	}
	differ := []uint64{3, 4}
	if Way(differ, 1); !slices.Equal(differ, []uint64{3, 4}) {
		t.Errorf("a list that is none of its way is changed: %v", differ)
	}
}

func TestTheBytesAreNeitherChangedNorKept(t *testing.T) {
	for tag, x := range each() {
		room := append(slices.Clone(x.b), 99, 98)
		before := slices.Clone(room)
		l, _ := Decode(room[:len(x.b)], len(x.l))
		if !bytes.Equal(room, before) {
			t.Errorf("Decode of way %d changes what it is handed: %v", tag, room)
		}
		clear(room)
		if !slices.Equal(l, x.l) {
			t.Errorf("Decode of way %d keeps what it is handed: %v", tag, l)
		}
		clear(l)
		wantDecoded(t, x.b, len(x.l), x.l)
		wrong := append(slices.Clone(x.b), 99)
		for _, n := range []int{-1, 0, 1, len(x.l), len(x.l) + 1, api.MaxSamples} {
			if Decode(wrong, n); !bytes.Equal(wrong[:len(x.b)], x.b) || wrong[len(x.b)] != 99 {
				t.Errorf("Decode of way %d changes what it refuses: %v", tag, wrong)
			}
		}
	}
}
