package runs

import (
	"bytes"
	"math"
	"math/big"
	"math/rand"
	"slices"
	"testing"

	"casket/api"
)

const greatest = math.MaxUint64

// greatestVarint is the greatest number as a varint.
var greatestVarint = []byte{255, 255, 255, 255, 255, 255, 255, 255, 255, 1}

// edges are numbers at which something turns: a varint's size, a limit, the end of all.
var edges = []uint64{
	0, 1, 126, 127, 128, 129, 300, 16383, 16384, 65534, 65535, 65536,
	1<<63 - 1, 1 << 63, greatest - 1, greatest,
}

func wantEncoded(t *testing.T, l []uint64, want []byte) {
	t.Helper()
	if got, e := Encode(l); !bytes.Equal(got, want) || e != api.OK {
		t.Errorf("Encode(%v): %v, %v; want %v, OK", l, got, e, want)
	}
}

func wantDecoded(t *testing.T, b []byte, n int, want []uint64) {
	t.Helper()
	if got, e := Decode(b, n); !slices.Equal(got, want) || e != api.OK {
		t.Errorf("Decode(%v, %d): %v, %v; want %v, OK", b, n, got, e, want)
	}
}

// wantPair says that b is l's Encode, and l is b's Decode.
func wantPair(t *testing.T, l []uint64, b []byte) {
	t.Helper()
	wantEncoded(t, l, b)
	wantDecoded(t, b, len(l), l)
}

func wantNotEncoded(t *testing.T, l []uint64, want api.Errno) {
	t.Helper()
	if got, e := Encode(l); got != nil || e != want {
		t.Errorf("Encode of %d numbers: %d bytes, %v; want nil, %v", len(l), len(got), e, want)
	}
}

func wantNone(t *testing.T, b []byte, n int, want api.Errno) {
	t.Helper()
	if got, e := Decode(b, n); got != nil || e != want {
		t.Errorf("Decode(%v, %d): %v, %v; want nil, %v", b, n, got, e, want)
	}
}

func repeated(v uint64, n int) []uint64 { return slices.Repeat([]uint64{v}, n) }

func behind(b []byte, more ...byte) []byte { return slices.Concat(b, more) }

// varintByWords is chapter 2's varint: groups of seven bits, the lowest first.
func varintByWords(v uint64) []byte {
	if v < 128 {
		return []byte{byte(v)}
	}
	return behind([]byte{byte(v%128) + 128}, varintByWords(v/128)...)
}

// runOf is a run as the chapter writes it.
func runOf(v uint64, count int) []byte {
	return behind(varintByWords(v), varintByWords(uint64(count-1))...)
}

// encodeByWords is P7.1 word for word, of at most MaxSamples numbers: a run is found by where it begins.
func encodeByWords(l []uint64) []byte {
	var edge []int // where runs begin, and where the last one ends
	for i := range l {
		if i == 0 || l[i] != l[i-1] {
			edge = append(edge, i)
		}
	}
	edge = append(edge, len(l))
	var out []byte
	for i, end := range edge[1:] {
		out = append(out, runOf(l[edge[i]], end-edge[i])...)
	}
	return out
}

// varintReadByWords are a varint's number, what stands behind it, and its error.
func varintReadByWords(b []byte) (*big.Int, []byte, api.Errno) {
	v := new(big.Int)
	for i, each := range b {
		if i == 9 && each > 1 {
			return nil, nil, api.ErrForm
		}
		v.Add(v, new(big.Int).Lsh(big.NewInt(int64(each%128)), uint(7*i)))
		if each == 0 && i > 0 {
			return nil, nil, api.ErrForm
		}
		if each < 128 {
			return v, b[i+1:], api.OK
		}
	}
	return nil, nil, api.ErrShort
}

// decodeByWords is P7.2 word for word, one reason behind the other.
func decodeByWords(b []byte, n int) ([]uint64, api.Errno) {
	if n < 0 || n > 65536 {
		return nil, api.ErrArg
	}
	var l []uint64
	for len(l) < n {
		v, rest, e := varintReadByWords(b)
		if e != api.OK {
			return nil, e
		}
		more, rest, e := varintReadByWords(rest)
		if e != api.OK {
			return nil, e
		}
		all := new(big.Int).Add(more, big.NewInt(int64(len(l)+1)))
		if all.Cmp(big.NewInt(int64(n))) > 0 {
			return nil, api.ErrForm
		}
		if len(l) > 0 && l[len(l)-1] == v.Uint64() {
			return nil, api.ErrForm
		}
		l = append(l, repeated(v.Uint64(), int(more.Int64())+1)...)
		b = rest
	}
	if len(b) > 0 {
		return nil, api.ErrForm
	}
	return l, api.OK
}

func wantAsByWords(t *testing.T, b []byte, n int) {
	t.Helper()
	want, wantError := decodeByWords(b, n)
	got, e := Decode(b, n)
	if !slices.Equal(got, want) || e != wantError || e != api.OK && got != nil {
		t.Errorf("Decode(%v, %d): %v, %v; want %v, %v", b, n, got, e, want, wantError)
	}
}

// someNumbers are runs of one number, of a few, of many, of numbers small and great.
func someNumbers(r *rand.Rand, n int) []uint64 {
	longest := 1 << r.Intn(10)
	var l []uint64
	for len(l) < n {
		v := r.Uint64() >> r.Intn(64)
		if r.Intn(2) == 0 {
			v = edges[r.Intn(len(edges))]
		}
		l = append(l, repeated(v, 1+r.Intn(longest))...)
	}
	return l[:n]
}

// P7.1

func TestEncodeOrdinaryNumbers(t *testing.T) {
	wantPair(t, []uint64{5, 5, 5, 9}, []byte{5, 2, 9, 0})
	wantPair(t, []uint64{9, 5, 5, 5}, []byte{9, 0, 5, 2})
	wantPair(t, []uint64{300, 300, 7, 7, 7, 128}, []byte{172, 2, 1, 7, 2, 128, 1, 0})
	wantPair(t, []uint64{0, 0, 1, 1}, []byte{0, 1, 1, 1})
}

func TestEncodeNoNumbers(t *testing.T) {
	wantPair(t, nil, nil)
	wantPair(t, []uint64{}, nil)
	wantDecoded(t, []byte{}, 0, nil)
}

func TestEncodeOneNumber(t *testing.T) {
	wantPair(t, []uint64{0}, []byte{0, 0})
	wantPair(t, []uint64{5}, []byte{5, 0})
	wantPair(t, []uint64{300}, []byte{172, 2, 0})
	for _, v := range edges {
		wantPair(t, []uint64{v}, runOf(v, 1))
	}
}

func TestEncodeOneRunOfAll(t *testing.T) {
	wantPair(t, make([]uint64, 128), []byte{0, 127})
	wantPair(t, make([]uint64, 129), []byte{0, 128, 1})
	wantPair(t, repeated(7, 16384), []byte{7, 255, 127})
	wantPair(t, repeated(7, 16385), []byte{7, 128, 128, 1})
	for _, v := range edges {
		for n := 1; n < 300; n += 1 + n/9 {
			wantPair(t, repeated(v, n), runOf(v, n))
		}
	}
}

func TestEncodeRunsOfOneNumberEach(t *testing.T) {
	wantPair(t, []uint64{1, 2, 3}, []byte{1, 0, 2, 0, 3, 0})
	wantPair(t, []uint64{3, 2, 1, 0}, []byte{3, 0, 2, 0, 1, 0, 0, 0})
	wantPair(t, []uint64{0, 1, 0, 1}, []byte{0, 0, 1, 0, 0, 0, 1, 0})
	var b []byte
	for _, v := range edges {
		b = append(b, runOf(v, 1)...)
	}
	wantPair(t, edges, b)
}

func TestEncodeTheSameNumberInTwoRuns(t *testing.T) {
	wantPair(t, []uint64{5, 9, 5}, []byte{5, 0, 9, 0, 5, 0})
	wantPair(t, []uint64{5, 5, 9, 5, 5, 5}, []byte{5, 1, 9, 0, 5, 2})
	wantPair(t, []uint64{0, 9, 9, 0}, []byte{0, 0, 9, 1, 0, 0})
	wantPair(t, []uint64{greatest, 0, greatest}, slices.Concat(greatestVarint, []byte{0, 0, 0}, greatestVarint, []byte{0}))
}

func TestEncodeTheGreatestNumber(t *testing.T) {
	wantPair(t, []uint64{greatest}, behind(greatestVarint, 0))
	wantPair(t, []uint64{greatest, greatest, greatest}, behind(greatestVarint, 2))
	wantPair(t, []uint64{0, greatest}, slices.Concat([]byte{0, 0}, greatestVarint, []byte{0}))
	wantPair(t, []uint64{greatest, greatest - 1}, slices.Concat(greatestVarint, []byte{0, 254}, greatestVarint[1:], []byte{0}))
}

func TestEncodeTheMostNumbers(t *testing.T) {
	n := api.MaxSamples
	wantPair(t, make([]uint64, n), []byte{0, 255, 255, 3})
	wantPair(t, repeated(5, n), []byte{5, 255, 255, 3})
	wantPair(t, repeated(5, n-1), []byte{5, 254, 255, 3})
	wantPair(t, repeated(greatest, n), behind(greatestVarint, 255, 255, 3))
	l := repeated(5, n)
	l[n-1] = 6
	wantPair(t, l, []byte{5, 254, 255, 3, 6, 0})
	l = repeated(6, n)
	l[0] = 5
	wantPair(t, l, []byte{5, 0, 6, 254, 255, 3})
}

func TestEncodeTheMostRuns(t *testing.T) {
	n := api.MaxSamples
	var l []uint64
	for i := range n {
		l = append(l, uint64(i%2))
	}
	wantPair(t, l, slices.Repeat([]byte{0, 0, 1, 0}, n/2))
	var b []byte
	for i := range l {
		l[i] = greatest - uint64(i)
		b = append(b, runOf(l[i], 1)...)
	}
	wantPair(t, l, b)
}

func TestEncodeMoreThanTheMost(t *testing.T) {
	for _, n := range []int{api.MaxSamples + 1, api.MaxSamples + 2, 2 * api.MaxSamples, 1 << 20} {
		for _, v := range []uint64{0, 7, greatest} {
			wantNotEncoded(t, repeated(v, n), api.ErrLong)
		}
		l := make([]uint64, n)
		for i := range l {
			l[i] = uint64(i)
		}
		wantNotEncoded(t, l, api.ErrLong)
	}
}

func TestEncodeSomeNumbers(t *testing.T) {
	r := rand.New(rand.NewSource(71))
	for range 2000 {
		l := someNumbers(r, r.Intn(300))
		wantPair(t, l, encodeByWords(l))
	}
}

// P7.2

func TestDecodeByWrongNumbers(t *testing.T) {
	for _, b := range [][]byte{nil, {}, {5}, {128, 0}, {5, 0}, {5, 1}, {5, 0, 5, 0}, {0, 128, 128, 4}, {0, 255, 255, 3}} {
		for _, n := range []int{-1, -2, math.MinInt, api.MaxSamples + 1, api.MaxSamples + 2, 1 << 32, math.MaxInt} {
			wantNone(t, b, n, api.ErrArg)
		}
	}
}

func TestDecodeBytesThatEndTooEarly(t *testing.T) {
	for _, n := range []int{1, 2, 7, api.MaxSamples} {
		wantNone(t, nil, n, api.ErrShort)
		wantNone(t, []byte{}, n, api.ErrShort)
		wantNone(t, []byte{5}, n, api.ErrShort)      // between the number and its count
		wantNone(t, []byte{172}, n, api.ErrShort)    // within the number
		wantNone(t, []byte{172, 2}, n, api.ErrShort) // 300, and no count
		wantNone(t, []byte{5, 128}, n, api.ErrShort) // within the count
		for size := 1; size <= 10; size++ {
			wantNone(t, greatestVarint[:size], n, api.ErrShort)
			wantNone(t, behind([]byte{5}, greatestVarint[:size-1]...), n, api.ErrShort)
		}
	}
	wantNone(t, []byte{5, 2}, 4, api.ErrShort)
	wantNone(t, []byte{5, 2, 9}, 4, api.ErrShort)
	wantNone(t, []byte{5, 2, 9, 0}, 5, api.ErrShort)
	wantNone(t, []byte{5, 254, 255, 3}, api.MaxSamples, api.ErrShort)
}

func TestDecodeEveryBeginning(t *testing.T) {
	r := rand.New(rand.NewSource(72))
	for range 300 {
		l := someNumbers(r, 1+r.Intn(40))
		b := encodeByWords(l)
		for size := range b {
			wantNone(t, b[:size], len(l), api.ErrShort)
		}
	}
}

func TestDecodeVarintsThatNobodyWrites(t *testing.T) {
	long := slices.Repeat([]byte{255}, 9)
	for _, n := range []int{1, 2, api.MaxSamples} {
		for _, wrong := range [][]byte{{128, 0}, {133, 0}, {128, 128, 0}, behind(long, 2), behind(long, 255), behind(long, 128, 1)} {
			wantNone(t, wrong, n, api.ErrForm)
			wantNone(t, behind(wrong, 0), n, api.ErrForm)
			wantNone(t, behind([]byte{5}, wrong...), n, api.ErrForm)
			wantNone(t, behind([]byte{5}, behind(wrong, 9, 0)...), n, api.ErrForm)
		}
	}
	wantNone(t, []byte{5, 0, 137, 0, 0}, 2, api.ErrForm)
	wantNone(t, []byte{5, 0, 9, 128, 0}, 2, api.ErrForm)
}

func TestDecodeARunThatMakesMore(t *testing.T) {
	wantNone(t, []byte{5, 1}, 1, api.ErrForm)
	wantNone(t, []byte{5, 2, 9, 1}, 4, api.ErrForm)
	wantNone(t, []byte{5, 2, 9, 0}, 2, api.ErrForm)
	wantNone(t, []byte{0, 128, 128, 4}, api.MaxSamples, api.ErrForm) // one more than the most
	wantNone(t, []byte{9, 0, 0, 255, 255, 3}, api.MaxSamples, api.ErrForm)
	for _, n := range []int{2, 3, 128, 129, 1000, api.MaxSamples} {
		wantDecoded(t, runOf(5, n), n, repeated(5, n))
		wantNone(t, runOf(5, n), n-1, api.ErrForm)
		wantNone(t, runOf(5, n+1), n, api.ErrForm)
		wantNone(t, behind([]byte{9, 0}, runOf(5, n)...), n, api.ErrForm)
	}
}

func TestDecodeCountsThatGoRound(t *testing.T) {
	for _, n := range []int{1, 2, 9, api.MaxSamples} {
		for _, more := range []uint64{greatest, greatest - 1, greatest - 65535, greatest - 65536, 1 << 63, 1<<63 - 1, 1 << 32, 1<<32 - 1} {
			wantNone(t, behind([]byte{5}, varintByWords(more)...), n, api.ErrForm)
			wantNone(t, behind([]byte{5}, behind(varintByWords(more), 9, 0)...), n, api.ErrForm)
			if n > 1 { // with what has been had, a sum that goes round is small too
				wantNone(t, behind([]byte{5, 0, 9}, varintByWords(more)...), n, api.ErrForm)
			}
		}
	}
	wantNone(t, slices.Concat([]byte{5, 3, 9}, greatestVarint), 5, api.ErrForm)
	wantNone(t, slices.Concat(greatestVarint, greatestVarint), 1, api.ErrForm)
}

func TestDecodeTheNumberOfTheRunAhead(t *testing.T) {
	wantNone(t, []byte{5, 0, 5, 0}, 2, api.ErrForm)
	wantNone(t, []byte{0, 0, 0, 0}, 2, api.ErrForm)
	wantNone(t, []byte{5, 2, 5, 3}, 7, api.ErrForm)
	wantNone(t, []byte{9, 0, 5, 0, 5, 0}, 3, api.ErrForm)
	for _, v := range edges {
		wantNone(t, slices.Concat(runOf(v, 3), runOf(v, 2)), 5, api.ErrForm)
		wantNone(t, slices.Concat(runOf(v, 3), runOf(v, 2)), api.MaxSamples, api.ErrForm) // though more are needed
		wantDecoded(t, slices.Concat(runOf(v, 3), runOf(v^1, 1), runOf(v, 2)), 6,
			slices.Concat(repeated(v, 3), []uint64{v ^ 1}, repeated(v, 2)))
	}
	wantDecoded(t, []byte{0, 0}, 1, []uint64{0}) // ahead of the first run there is none, not one of 0
}

func TestDecodeACountIsReadAheadOfTheNumbersFault(t *testing.T) {
	wantNone(t, []byte{5, 0, 5}, 2, api.ErrShort)
	wantNone(t, []byte{5, 0, 5, 128}, 2, api.ErrShort)
	wantNone(t, []byte{5, 0, 5, 128, 0}, 2, api.ErrForm)
	wantNone(t, []byte{5, 0, 5, 0}, 3, api.ErrForm) // the second run's fault is met ahead of the end
}

func TestDecodeAByteThatIsLeft(t *testing.T) {
	for each := range 256 {
		wantNone(t, []byte{byte(each)}, 0, api.ErrForm)
		wantNone(t, []byte{5, 0, byte(each)}, 1, api.ErrForm)
		wantNone(t, []byte{5, 2, 9, 0, byte(each)}, 4, api.ErrForm)
	}
	wantNone(t, []byte{5, 0}, 0, api.ErrForm)
	wantNone(t, []byte{5, 0, 9, 0}, 1, api.ErrForm)
	wantNone(t, []byte{0, 255, 255, 3, 0}, api.MaxSamples, api.ErrForm)
	wantNone(t, []byte{0, 255, 255, 3, 1, 0}, api.MaxSamples, api.ErrForm)
}

func TestDecodeFewBytesAsTheWordsSay(t *testing.T) {
	kinds := []byte{0, 1, 2, 5, 127, 128, 129, 255}
	var all func(b []byte, room int)
	all = func(b []byte, room int) {
		for _, n := range []int{-1, 0, 1, 2, 3, 4, 128, 129, 65536, 65537} {
			wantAsByWords(t, b, n)
		}
		if room == 0 {
			return
		}
		for _, each := range kinds {
			all(behind(b, each), room-1)
		}
	}
	all(nil, 5)
}

func TestDecodeTurnedBytesAsTheWordsSay(t *testing.T) {
	r := rand.New(rand.NewSource(73))
	for range 4000 {
		l := someNumbers(r, 1+r.Intn(60))
		b := encodeByWords(l)
		for n := len(l) - 2; n <= len(l)+2; n++ {
			wantAsByWords(t, b, n)
			turned := slices.Clone(b)
			turned[r.Intn(len(b))] ^= 1 << r.Intn(8)
			wantAsByWords(t, turned, n)
			wantAsByWords(t, b[:r.Intn(len(b)+1)], n)
			wantAsByWords(t, behind(b, byte(r.Intn(2))), n)
		}
	}
}

// P7.3

func TestThereAndBack(t *testing.T) {
	r := rand.New(rand.NewSource(74))
	for _, n := range []int{0, 1, 2, 3, 127, 128, 129, 5000, api.MaxSamples - 1, api.MaxSamples} {
		for range 5 {
			l := someNumbers(r, n)
			b, e := Encode(l)
			if e != api.OK {
				t.Fatalf("Encode of %d numbers: %v", n, e)
			}
			if back, e := Decode(b, n); !slices.Equal(back, l) || e != api.OK {
				t.Errorf("%d numbers are not themselves again: %v", n, e)
			}
		}
	}
}

func TestBytesThatAreDecodedAreThoseEncoded(t *testing.T) {
	r := rand.New(rand.NewSource(75))
	decoded := 0
	for range 200000 {
		b := make([]byte, 2*(1+r.Intn(3)))
		n := 0
		for i := range b {
			b[i] = byte(r.Intn(4))
			if r.Intn(8) == 0 {
				b[i] = byte(r.Intn(256))
			}
			if i%2 == 1 {
				n += int(b[i]) + 1
			}
		}
		l, e := Decode(b, n)
		if e != api.OK {
			continue
		}
		decoded++
		if len(l) != n {
			t.Errorf("Decode(%v, %d): %d numbers", b, n, len(l))
		}
		wantEncoded(t, l, b)
	}
	if decoded < 10000 {
		t.Errorf("only %d were decoded", decoded)
	}
}

// R3

func TestTheEncodedListIsNeitherChangedNorKept(t *testing.T) {
	room := []uint64{5, 5, 9, 99, 98}
	b, _ := Encode(room[:3])
	if !slices.Equal(room, []uint64{5, 5, 9, 99, 98}) {
		t.Errorf("Encode changes what it is handed: %v", room)
	}
	want := slices.Clone(b)
	clear(room)
	if !bytes.Equal(b, want) {
		t.Errorf("Encode keeps what it is handed: %v", b)
	}
	clear(b)
	wantEncoded(t, []uint64{5, 5, 9}, want)
	wrong := repeated(5, api.MaxSamples+1)
	Encode(wrong)
	if !slices.Equal(wrong, repeated(5, api.MaxSamples+1)) {
		t.Error("Encode changes what it refuses")
	}
}

func TestTheDecodedBytesAreNeitherChangedNorKept(t *testing.T) {
	room := []byte{5, 1, 9, 0, 99, 98}
	l, _ := Decode(room[:4], 3)
	if !bytes.Equal(room, []byte{5, 1, 9, 0, 99, 98}) {
		t.Errorf("Decode changes what it is handed: %v", room)
	}
	clear(room)
	if !slices.Equal(l, []uint64{5, 5, 9}) {
		t.Errorf("Decode keeps what it is handed: %v", l)
	}
	clear(l)
	wantDecoded(t, []byte{5, 1, 9, 0}, 3, []uint64{5, 5, 9})
	wrong := []byte{5, 1, 9, 0, 99}
	for _, n := range []int{-1, 0, 1, 2, 3, 4} {
		if Decode(wrong, n); !bytes.Equal(wrong, []byte{5, 1, 9, 0, 99}) {
			t.Errorf("Decode changes what it refuses: %v", wrong)
		}
	}
}
