package pad

import (
	"bytes"
	"math"
	"math/rand"
	"slices"
	"strconv"
	"testing"

	"casket/api"
)

// allSizes are the chapter's: 64 times 4 to the k, for k from 0 to 8.
func allSizes() []int {
	return []int{64, 256, 1024, 4096, 16384, 65536, 262144, 1048576, 4194304}
}

// mixed are n bytes that tell their places apart; none of them is 0.
func mixed(n int, from byte) []byte {
	out := make([]byte, n)
	for i := range out {
		out[i] = 1 + byte((i*7+i/251+int(from))%255)
	}
	return out
}

func repeated(v byte, n int) []byte { return bytes.Repeat([]byte{v}, n) }

// endingIn0 are n bytes of which the last ones, up to three, are 0, as what fills a bucket is.
func endingIn0(n int) []byte {
	out := mixed(n, 9)
	clear(out[max(0, n-3):])
	return out
}

// texts are bytes of so many, with and without bytes 0.
func texts(n int) [][]byte {
	return [][]byte{mixed(n, 3), mixed(n, 200), repeated(0, n), repeated(255, n), endingIn0(n)}
}

// edges are for every bucket the last number that it holds and those about it; the greatest bucket has no next one.
func edges() []int {
	var out []int
	for _, size := range allSizes() {
		out = append(out, size-6, size-5, size-4, size-3, size-2, size-1, size, size+1)
	}
	return slices.DeleteFunc(out, func(n int) bool { return n > 4194300 })
}

// lengths are those of bytes that have a bucket; a few of the edges have many bytes.
func lengths() []int {
	out := edges()
	for n := range 300 {
		out = append(out, n)
	}
	return append(out, 500, 1000, 1100, 5000, 65535, 100000, 0x010203, 0x3ffffb)
}

// fewLengths are for tests that go through much at each of them.
func fewLengths() []int { return []int{0, 1, 2, 59, 60, 61, 100, 251, 252, 253, 300, 1019, 1020} }

// bucketAsSaid is P19.1's Bucket, word by word.
func bucketAsSaid(n int) (int, api.Errno) {
	if n < 0 {
		return 0, api.ErrArg
	}
	if uint64(n)+4 > 4194304 {
		return 0, api.ErrLong
	}
	k := 0
	for allSizes()[k] < n+4 {
		k++
	}
	return k, api.OK
}

// padAsSaid is P19.2, word by word, of bytes that have a bucket.
func padAsSaid(t *testing.T, b []byte) []byte {
	t.Helper()
	k, e := bucketAsSaid(len(b))
	if e != api.OK {
		t.Fatalf("%d bytes have no bucket", len(b))
	}
	n := len(b)
	out := append([]byte{byte(n >> 24), byte(n >> 16), byte(n >> 8), byte(n)}, b...)
	return append(out, repeated(0, allSizes()[k]-len(out))...)
}

// unpadAsSaid is P19.3 without a Pad: the length, the bucket and what fills it are asked one by one.
func unpadAsSaid(b []byte) ([]byte, bool) {
	k := slices.Index(allSizes(), len(b))
	if k < 0 {
		return nil, false
	}
	n := int64(b[0])<<24 | int64(b[1])<<16 | int64(b[2])<<8 | int64(b[3])
	if n+4 > int64(len(b)) {
		return nil, false
	}
	if k > 0 && n+4 <= int64(allSizes()[k-1]) {
		return nil, false
	}
	for _, each := range b[n+4:] {
		if each != 0 {
			return nil, false
		}
	}
	return b[4 : n+4], true
}

// wantBytes tells the first place alone where bytes differ: a bucket has many.
func wantBytes(t *testing.T, what string, got, want []byte) {
	t.Helper()
	if len(got) != len(want) {
		t.Errorf("%s: %d bytes; want %d", what, len(got), len(want))
		return
	}
	if bytes.Equal(got, want) {
		return
	}
	for i := range got {
		if got[i] != want[i] {
			t.Errorf("%s: %d at %d; want %d", what, got[i], i, want[i])
			return
		}
	}
}

func wantBucket(t *testing.T, n, k int, e api.Errno) {
	t.Helper()
	if gotK, gotE := Bucket(n); gotK != k || gotE != e {
		t.Errorf("Bucket(%d): %d, error %d; want %d, %d", n, gotK, int(gotE), k, int(e))
	}
}

// made are the bytes that a call answers where there is no error.
func made(t *testing.T, what string) func([]byte, api.Errno) []byte {
	return func(b []byte, e api.Errno) []byte {
		t.Helper()
		if e != api.OK {
			t.Errorf("%s: error %d", what, int(e))
		}
		return b
	}
}

func padded(t *testing.T, b []byte) []byte {
	t.Helper()
	return made(t, "Pad of "+strconv.Itoa(len(b))+" bytes")(Pad(b))
}

func unpadded(t *testing.T, b []byte) []byte {
	t.Helper()
	return made(t, "Unpad of "+strconv.Itoa(len(b))+" bytes")(Unpad(b))
}

// wantNone holds a call's answer against an error, beside which there are no bytes.
func wantNone(t *testing.T, what string, want api.Errno) func([]byte, api.Errno) {
	return func(b []byte, e api.Errno) {
		t.Helper()
		if e != want || len(b) != 0 {
			t.Errorf("%s: %d bytes, error %d; want none, and %d", what, len(b), int(e), int(want))
		}
	}
}

// wantForm: nobody's Pad is b.
func wantForm(t *testing.T, what string, b []byte) {
	t.Helper()
	wantNone(t, what+", "+strconv.Itoa(len(b))+" bytes in all", api.ErrForm)(Unpad(b))
}

// wantAsSaid holds Unpad against the chapter's words, whatever is handed in.
func wantAsSaid(t *testing.T, what string, b []byte) {
	t.Helper()
	want, ok := unpadAsSaid(b)
	if !ok {
		wantForm(t, what, b)
		return
	}
	wantBytes(t, what, unpadded(t, b), want)
}

// saying are the bytes of a bucket with another length ahead of them.
func saying(n uint32, b []byte) []byte {
	out := slices.Clone(b)
	out[0], out[1], out[2], out[3] = byte(n>>24), byte(n>>16), byte(n>>8), byte(n)
	return out
}

// P19.1

func TestTheChaptersExamples(t *testing.T) {
	want := append([]byte{0, 0, 0, 2, 7, 8}, repeated(0, 58)...)
	wantBytes(t, "Pad of 7, 8", padded(t, []byte{7, 8}), want)
	wantBytes(t, "Unpad of it", unpadded(t, want), []byte{7, 8})
	wantBucket(t, 60, 0, api.OK)
	wantBucket(t, 61, 1, api.OK)
}

func TestEverySize(t *testing.T) {
	want := 64
	for k := range 9 {
		if Size(k) != want || Size(k) != allSizes()[k] {
			t.Errorf("Size(%d): %d; want %d", k, Size(k), want)
		}
		want *= 4
	}
	if Size(8) != api.MaxBucket {
		t.Errorf("the greatest size is %d; want %d", Size(8), api.MaxBucket)
	}
}

// The lowest bits of many of these are those of buckets.
func TestSizeOfNoBucket(t *testing.T) {
	for _, k := range []int{-1, -2, -3, -8, -9, -64, 9, 10, 11, 28, 29, 30, 31, 32, 63, 64, 65, 256, math.MinInt32, math.MaxInt32, 1 << 32, 1<<32 + 1, -1 << 32, math.MinInt, math.MinInt + 1, math.MaxInt - 1, math.MaxInt} {
		if Size(k) != 0 {
			t.Errorf("Size(%d): %d; want 0", k, Size(k))
		}
	}
	for k := -1000; k < 1000; k++ {
		if (k < 0 || k > 8) && Size(k) != 0 {
			t.Errorf("Size(%d): %d; want 0", k, Size(k))
		}
	}
}

func TestBucketsOfNamedNumbers(t *testing.T) {
	for _, x := range []struct{ n, k int }{
		{0, 0}, {1, 0}, {2, 0}, {56, 0}, {59, 0}, {60, 0},
		{61, 1}, {64, 1}, {100, 1}, {251, 1}, {252, 1},
		{253, 2}, {256, 2}, {1019, 2}, {1020, 2},
		{1021, 3}, {1024, 3}, {4092, 3},
		{4093, 4}, {16380, 4},
		{16381, 5}, {65532, 5},
		{65533, 6}, {65536, 6}, {262140, 6},
		{262141, 7}, {1048572, 7},
		{1048573, 8}, {1048576, 8}, {4194299, 8}, {4194300, 8},
	} {
		wantBucket(t, x.n, x.k, api.OK)
	}
}

func TestBucketsLastNumberAndTheNext(t *testing.T) {
	for k, size := range allSizes() {
		wantBucket(t, size-5, k, api.OK)
		wantBucket(t, size-4, k, api.OK)
		if k < 8 {
			for n := size - 3; n <= size; n++ {
				wantBucket(t, n, k+1, api.OK)
			}
		}
	}
}

func TestBucketOfEveryNumber(t *testing.T) {
	for n := -10; n < 4194320; n++ {
		k, e := bucketAsSaid(n)
		if gotK, gotE := Bucket(n); gotK != k || gotE != e {
			t.Fatalf("Bucket(%d): %d, error %d; want %d, %d", n, gotK, int(gotE), k, int(e))
		}
	}
}

// Among these are numbers that are below 0, or small, with 4 added to them, or in their lowest bits.
func TestBucketOfWrongNumbers(t *testing.T) {
	for _, n := range []int{-1, -2, -3, -4, -5, -60, -64, -4194300, -4194304, math.MinInt32, -1 << 32, math.MinInt, math.MinInt + 1, math.MinInt + 4} {
		wantBucket(t, n, 0, api.ErrArg)
	}
	for _, n := range []int{4194301, 4194302, 4194303, 4194304, 4194305, 1 << 23, 1 << 24, math.MaxInt32, math.MaxUint32, 1 << 32, 1<<32 + 5, 1<<40 + 60, math.MaxInt - 4, math.MaxInt - 3, math.MaxInt - 2, math.MaxInt - 1, math.MaxInt} {
		wantBucket(t, n, 0, api.ErrLong)
	}
}

// P19.2

func TestPadOfManyLengths(t *testing.T) {
	for _, n := range lengths() {
		for _, b := range texts(n) {
			wantBytes(t, "Pad of "+strconv.Itoa(n)+" bytes", padded(t, b), padAsSaid(t, b))
		}
	}
}

func TestPadByHand(t *testing.T) {
	for _, x := range []struct {
		n, size int
		ahead   [4]byte
	}{
		{0, 64, [4]byte{0, 0, 0, 0}},
		{60, 64, [4]byte{0, 0, 0, 60}},
		{61, 256, [4]byte{0, 0, 0, 61}},
		{252, 256, [4]byte{0, 0, 0, 252}},
		{253, 1024, [4]byte{0, 0, 0, 253}},
		{256, 1024, [4]byte{0, 0, 1, 0}},
		{258, 1024, [4]byte{0, 0, 1, 2}},
		{66051, 262144, [4]byte{0, 1, 2, 3}},
		{4194300, 4194304, [4]byte{0, 63, 255, 252}},
	} {
		b := mixed(x.n, 5)
		got := padded(t, b)
		what := "Pad of " + strconv.Itoa(x.n) + " bytes"
		if len(got) != x.size {
			t.Errorf("%s: %d bytes; want %d", what, len(got), x.size)
			continue
		}
		wantBytes(t, what+", the length", got[:4], x.ahead[:])
		wantBytes(t, what+", the bytes", got[4:4+x.n], b)
		wantBytes(t, what+", what fills it", got[4+x.n:], repeated(0, x.size-x.n-4))
	}
}

func TestPadOfNoBytes(t *testing.T) {
	for _, none := range [][]byte{nil, {}, []byte{1, 2, 3}[1:1]} {
		wantBytes(t, "Pad of nothing", padded(t, none), repeated(0, 64))
	}
}

func TestPadIsAsLongAsItsBucket(t *testing.T) {
	for _, n := range lengths() {
		k, e := Bucket(n)
		if got := padded(t, make([]byte, n)); e != api.OK || len(got) != Size(k) {
			t.Errorf("Pad of %d bytes: %d bytes; its bucket %d has %d", n, len(got), k, Size(k))
		}
	}
}

func TestPadBeyondTheGreatestBucket(t *testing.T) {
	for _, n := range []int{4194301, 4194302, 4194303, 4194304, 4194305, 5000000, 1 << 23, 1<<24 - 4, 1 << 24, 1<<24 + 2} {
		wantNone(t, "Pad of "+strconv.Itoa(n)+" bytes", api.ErrLong)(Pad(make([]byte, n)))
		wantNone(t, "Pad of "+strconv.Itoa(n)+" bytes", api.ErrLong)(Pad(mixed(n, 1)))
	}
}

// P19.3

func TestUnpadOfManyLengths(t *testing.T) {
	for _, n := range lengths() {
		for _, b := range texts(n) {
			wantBytes(t, "Unpad of "+strconv.Itoa(n)+" bytes in their bucket", unpadded(t, padAsSaid(t, b)), b)
		}
	}
}

func TestUnpadOfFewBytes(t *testing.T) {
	wantForm(t, "nil", nil)
	wantForm(t, "no bytes", []byte{})
	for n := range 64 {
		wantForm(t, "bytes 0", make([]byte, n))
		wantForm(t, "the beginning of a bucket", padAsSaid(t, nil)[:n])
		wantForm(t, "the beginning of a full bucket", padAsSaid(t, mixed(60, 1))[:n])
		wantForm(t, "bytes that are no bucket", mixed(n, 1))
		if n >= 4 {
			wantForm(t, "bytes with no more than a length", saying(uint32(n-4), mixed(n, 1)))
		}
	}
}

// A length that fits the bytes is not enough: nobody writes a bucket of that size.
func TestUnpadOfSizesThatNoBucketHas(t *testing.T) {
	sizes := []int{2048, 8192, 32768, 131072, 524288, 2097152, 8388608, 16777216}
	for n := 4; n < 1100; n++ {
		sizes = append(sizes, n)
	}
	for _, n := range sizes {
		if slices.Contains(allSizes(), n) {
			continue
		}
		wantForm(t, "a length of 0", make([]byte, n))
		wantForm(t, "a length of all that is there", saying(uint32(n-4), mixed(n, 1)))
		wantForm(t, "a length of all but one", saying(uint32(max(0, n-5)), make([]byte, n)))
		wantForm(t, "a length of half", saying(uint32((n-4)/2), make([]byte, n)))
	}
}

func TestUnpadOfOneByteMoreOrLess(t *testing.T) {
	for _, n := range lengths() {
		b := padAsSaid(t, mixed(n, 3))
		wantForm(t, "one byte less", b[:len(b)-1])
		wantForm(t, "the first byte less", b[1:])
		wantForm(t, "one byte 0 more", append(slices.Clone(b), 0))
		wantForm(t, "one byte 9 more", append(slices.Clone(b), 9))
		wantForm(t, "one byte 0 more ahead", append([]byte{0}, b...))
	}
}

func TestUnpadOfAGreaterBucket(t *testing.T) {
	for k, size := range allSizes() {
		for _, n := range []int{0, 2, size/4 - 4, size/4 - 3, size - 5, size - 4} {
			b := padAsSaid(t, mixed(n, 3))
			for _, greater := range append(allSizes()[k:], 16777216) {
				if greater > len(b) {
					wantForm(t, strconv.Itoa(n)+" bytes", append(slices.Clone(b), make([]byte, greater-len(b))...))
				}
			}
		}
	}
}

func TestUnpadOfALesserBucket(t *testing.T) {
	for k, size := range allSizes() {
		b := padAsSaid(t, mixed(size-4, 3))
		zeros := padAsSaid(t, make([]byte, size-4))
		for _, lesser := range allSizes()[:k] {
			wantForm(t, "the beginning of "+strconv.Itoa(size), b[:lesser])
			wantForm(t, "the beginning of "+strconv.Itoa(size)+" with bytes 0", zeros[:lesser])
		}
	}
}

func TestUnpadOfALengthThatSaysMore(t *testing.T) {
	for _, size := range allSizes() {
		for _, b := range [][]byte{make([]byte, size), mixed(size, 3)} {
			wantBytes(t, "all that there is room for", unpadded(t, saying(uint32(size-4), b)), b[4:])
			for _, n := range []uint32{uint32(size - 3), uint32(size - 2), uint32(size - 1), uint32(size), uint32(size + 1), uint32(size * 4), 4194301, 4194304, 1 << 24, 1 << 31, 1<<31 + 60, math.MaxInt32, math.MaxUint32 - 4, math.MaxUint32 - 3, math.MaxUint32} {
				wantForm(t, "a length of "+strconv.Itoa(int(n)), saying(n, b))
			}
		}
	}
}

func TestUnpadOfALengthThatALesserBucketHolds(t *testing.T) {
	for _, size := range allSizes()[1:] {
		b := make([]byte, size)
		wantBytes(t, "the first length of "+strconv.Itoa(size), unpadded(t, saying(uint32(size/4-3), b)), make([]byte, size/4-3))
		for _, n := range []int{0, 1, 2, 59, 60, size/16 - 4, size/4 - 5, size/4 - 4} {
			if n >= 0 {
				wantForm(t, "a length of "+strconv.Itoa(n), saying(uint32(n), b))
			}
		}
	}
}

// In a bucket of 64 nothing but the lengths 0 to 60 is there, whatever the length's bytes are.
func TestUnpadOfLengthsOfTwoBytes(t *testing.T) {
	for n := range 65536 {
		for shift := range 3 {
			said := uint32(n) << (8 * shift)
			b := saying(said, make([]byte, 64))
			if said <= 60 {
				wantBytes(t, "a length of "+strconv.Itoa(int(said)), unpadded(t, b), make([]byte, said))
			} else {
				wantForm(t, "a length of "+strconv.Itoa(int(said)), b)
			}
		}
	}
}

// behind are places of those that fill a bucket: all of them, or in a great bucket the first, the last, and some between.
func behind(n, size int) []int {
	var out []int
	for i := n + 4; i < size; i++ {
		if size <= 1024 || i < n+8 || i >= size-3 || i&(i-1) == 0 {
			out = append(out, i)
		}
	}
	return out
}

func TestUnpadOfAByteBehindThatIsNot0(t *testing.T) {
	for _, n := range append(fewLengths(), 1021, 4091, 4093, 16379, 65531, 65533, 262141, 1048573, 4194298, 4194299) {
		b := padAsSaid(t, mixed(n, 3))
		for _, i := range behind(n, len(b)) {
			for _, v := range []byte{1, 128, 255} {
				b[i] = v
				wantForm(t, strconv.Itoa(n)+" bytes, with "+strconv.Itoa(int(v))+" at "+strconv.Itoa(i), b)
			}
			b[i] = 0
		}
		wantBytes(t, "with bytes 0 again", unpadded(t, b), mixed(n, 3))
	}
	for v := 1; v < 256; v++ {
		b := padAsSaid(t, []byte{7, 8})
		b[63] = byte(v)
		wantForm(t, "with "+strconv.Itoa(v)+" at the end", b)
	}
}

// wantTurned: a byte that is turned in the text is another text, one that is turned behind it is none; a length that is turned is another text only where nothing but bytes 0 stands between the two ends.
func wantTurned(t *testing.T, n int, b []byte, turns []byte) {
	t.Helper()
	all := padAsSaid(t, b)
	for i := range all {
		for _, turn := range turns {
			all[i] ^= turn
			what := strconv.Itoa(n) + " bytes, " + strconv.Itoa(i) + " turned by " + strconv.Itoa(int(turn))
			wantAsSaid(t, what, all)
			if got, e := Unpad(all); e == api.OK && bytes.Equal(got, b) {
				t.Errorf("%s: the same bytes", what)
			}
			all[i] ^= turn
		}
	}
}

func TestUnpadWithAnyByteTurned(t *testing.T) {
	var every []byte
	for v := 1; v < 256; v++ {
		every = append(every, byte(v))
	}
	for _, n := range fewLengths() {
		for _, b := range texts(n) {
			if n <= 60 {
				wantTurned(t, n, b, every)
			} else {
				wantTurned(t, n, b, []byte{1, 2, 4, 8, 16, 32, 64, 128, 255})
			}
		}
	}
}

func TestUnpadWithAByteOfAGreatBucketTurned(t *testing.T) {
	for _, n := range []int{1021, 4092, 4093, 16380, 65532, 262140, 1048572, 1048573, 2000000, 4194299, 4194300} {
		b := padAsSaid(t, mixed(n, 3))
		for _, i := range []int{0, 1, 2, 3, 4, 5, 255, n / 2, n, n + 3, min(n+4, len(b)-1), len(b) - 1} {
			for _, turn := range []byte{1, 64, 128, 255} {
				b[i] ^= turn
				wantAsSaid(t, strconv.Itoa(n)+" bytes, "+strconv.Itoa(i)+" turned", b)
				b[i] ^= turn
			}
		}
	}
}

// Not all that is turned is refused: these are other bytes' Pad.
func TestUnpadOfTurnedBytesThatAreOthers(t *testing.T) {
	b := padAsSaid(t, []byte{7, 8})
	wantBytes(t, "a length of one more", unpadded(t, saying(3, b)), []byte{7, 8, 0})
	wantBytes(t, "a length of all", unpadded(t, saying(60, b)), append([]byte{7, 8}, make([]byte, 58)...))
	wantForm(t, "a length of one less", saying(1, b))
	b[5] = 0
	wantBytes(t, "a length of one less, ahead of a byte 0", unpadded(t, saying(1, b)), []byte{7})
	b[5] = 9
	wantBytes(t, "another byte", unpadded(t, b), []byte{7, 9})
	b[4] = 0
	wantBytes(t, "a byte 0 at the beginning", unpadded(t, b), []byte{0, 9})
}

// P19.4

func TestThereAndBack(t *testing.T) {
	for _, n := range lengths() {
		for _, b := range texts(n) {
			wantBytes(t, "Unpad of Pad of "+strconv.Itoa(n)+" bytes", unpadded(t, padded(t, b)), b)
		}
	}
	for _, none := range [][]byte{nil, {}} {
		wantBytes(t, "Unpad of Pad of nothing", unpadded(t, padded(t, none)), nil)
	}
}

func TestABucketInABucket(t *testing.T) {
	b := mixed(20, 3)
	var inner [][]byte
	for _, size := range allSizes() {
		inner = append(inner, b)
		b = padded(t, b)
		if len(b) != size {
			t.Fatalf("a bucket of %d bytes; want %d", len(b), size)
		}
	}
	wantNone(t, "Pad of the greatest bucket", api.ErrLong)(Pad(b))
	for _, want := range slices.Backward(inner) {
		b = unpadded(t, b)
		wantBytes(t, "the bucket inside", b, want)
	}
}

// Bytes that differ only in how many bytes 0 stand at their end, or at their beginning, have buckets that differ.
func TestNoTwoHaveTheSamePad(t *testing.T) {
	all := map[string]string{}
	for n := range 300 {
		for _, b := range append(texts(n), append(make([]byte, n), 7), append([]byte{7}, make([]byte, n)...), append([]byte{0, 0, 0, byte(n)}, mixed(n, 3)...)) {
			p := string(padded(t, b))
			if other, ok := all[p]; ok && other != string(b) {
				t.Errorf("%x and %x have the same Pad", b, other)
			}
			all[p] = string(b)
		}
	}
}

// someBucket is a bucket as somebody may write one: a length that often fits, bytes that are often 0.
func someBucket(random *rand.Rand) []byte {
	size := allSizes()[random.Intn(4)]
	b := make([]byte, size)
	for i := range random.Intn(size) {
		if random.Intn(3) > 0 {
			b[i] = byte(random.Intn(256))
		}
	}
	if random.Intn(4) > 0 {
		b = saying(uint32(random.Intn(size+4)), b)
	}
	return b
}

func TestWhatIsUnpaddedIsWhatPadWrites(t *testing.T) {
	random := rand.New(rand.NewSource(19))
	taken := 0
	for range 50000 {
		b := someBucket(random)
		wantAsSaid(t, "some bucket", b)
		if inner, e := Unpad(b); e == api.OK {
			taken++
			wantBytes(t, "Pad of what is unpadded", padded(t, inner), b)
		}
	}
	if taken < 5000 {
		t.Errorf("only %d were taken: the test asks too little", taken)
	}
}

// R3

// withRoom are b's bytes with others behind them in the same memory, which are no call's either.
func withRoom(b []byte) []byte { return append(slices.Clone(b), repeated(99, 300)...) }

// overwrite changes an answer's bytes, and all the memory behind them that it reaches.
func overwrite(held []byte) { _ = append(held[:0:cap(held)], repeated(77, cap(held))...) }

// call is Pad or Unpad, with bytes that it takes.
type call struct {
	what  string
	ask   func([]byte) ([]byte, api.Errno)
	bytes []byte
}

func calls(t *testing.T) []call {
	var out []call
	for _, n := range append(fewLengths(), 4092, 4093, 70000, 4194300) {
		for _, b := range [][]byte{mixed(n, 3), endingIn0(n)} {
			name := " of " + strconv.Itoa(n) + " bytes"
			out = append(out, call{"Pad" + name, Pad, b}, call{"Unpad" + name, Unpad, padAsSaid(t, b)})
		}
	}
	return out
}

func TestWhatIsHandedInIsNotChanged(t *testing.T) {
	for _, x := range calls(t) {
		handed := withRoom(x.bytes)
		before := slices.Clone(handed)
		made(t, x.what)(x.ask(handed[:len(x.bytes)]))
		wantBytes(t, x.what+": what was handed in", handed, before)
	}
}

func TestWhatIsRefusedIsNotChanged(t *testing.T) {
	long, wrong := mixed(4194301, 3), mixed(64, 3)
	for _, b := range [][]byte{long, wrong, wrong[:63], wrong[:3], saying(61, wrong), make([]byte, 256)} {
		handed := withRoom(b)
		before := slices.Clone(handed)
		Pad(handed[:len(b)])
		wantForm(t, "what is refused", handed[:len(b)])
		wantBytes(t, "what was refused", handed, before)
	}
	wantNone(t, "what is too long", api.ErrLong)(Pad(long))
}

func TestWhatIsHandedInIsNotKept(t *testing.T) {
	for _, x := range calls(t) {
		handed := withRoom(x.bytes)
		want := slices.Clone(made(t, x.what)(x.ask(x.bytes)))
		answer := made(t, x.what)(x.ask(handed[:len(x.bytes)]))
		for i := range handed {
			handed[i] ^= 255
		}
		wantBytes(t, x.what+", which are changed behind the call", answer, want)
		wantBytes(t, x.what+", asked once more", made(t, x.what)(x.ask(x.bytes)), want)
	}
}

func TestBytesAsTheyAreNow(t *testing.T) {
	b := mixed(30, 3)
	padded(t, b)
	b[5] = 200
	wantBytes(t, "Pad of bytes that have changed", padded(t, b), padAsSaid(t, b))
	p := padAsSaid(t, b)
	unpadded(t, p)
	p[4+7] = 201
	wantBytes(t, "Unpad of bytes that have changed", unpadded(t, p), p[4:34])
	p[63] = 1
	wantForm(t, "Unpad of bytes that have changed", p)
}

func TestAnAnswerIsItsHoldersOwn(t *testing.T) {
	for _, x := range calls(t) {
		handed := withRoom(x.bytes)
		ask := func() []byte { return made(t, x.what)(x.ask(handed[:len(x.bytes)])) }
		want := slices.Clone(ask())
		held, another := ask(), ask()
		overwrite(held)
		wantBytes(t, x.what+": another answer", another, want)
		wantBytes(t, x.what+": what was handed in", handed, withRoom(x.bytes))
		wantBytes(t, x.what+": one that is asked later", ask(), want)
	}
}

func TestNothingOfTheBucketStandsBehindAnAnswer(t *testing.T) {
	for _, n := range fewLengths() {
		p := withRoom(padAsSaid(t, repeated(5, n)))
		held := unpadded(t, p[:len(p)-300])
		_ = append(held, 66)
		wantBytes(t, "the bucket, whose bytes are appended to", p, withRoom(padAsSaid(t, repeated(5, n))))
	}
}

func TestNothingIsKeptBetweenCalls(t *testing.T) {
	for _, x := range calls(t) {
		want := slices.Clone(made(t, x.what)(x.ask(x.bytes)))
		Pad(mixed(100, 8))
		Unpad(padAsSaid(t, mixed(100, 8)))
		wantForm(t, "no bucket", mixed(64, 1))
		wantBucket(t, math.MaxInt, 0, api.ErrLong)
		Size(3)
		wantBytes(t, x.what+" once more", made(t, x.what)(x.ask(x.bytes)), want)
	}
}

// R1

// holdAll holds what all calls answer against the chapter's words, whatever is handed in.
func holdAll(t *testing.T, b []byte, n int) {
	t.Helper()
	want := 0
	if n >= 0 && n <= 8 {
		want = allSizes()[n]
	}
	if Size(n) != want {
		t.Errorf("Size(%d): %d; want %d", n, Size(n), want)
	}
	k, e := bucketAsSaid(n)
	wantBucket(t, n, k, e)
	wantAsSaid(t, "Unpad", b)
	if _, e := bucketAsSaid(len(b)); e != api.OK {
		wantNone(t, "Pad", e)(Pad(b))
		return
	}
	p := padded(t, b)
	wantBytes(t, "Pad", p, padAsSaid(t, b))
	wantBytes(t, "Unpad of Pad", unpadded(t, p), b)
}

func TestNothingPanics(t *testing.T) {
	random := rand.New(rand.NewSource(1900))
	for range 20000 {
		b := make([]byte, random.Intn(1<<random.Intn(12)))
		random.Read(b)
		if random.Intn(3) == 0 {
			b = someBucket(random)
		}
		if len(b) == 0 && random.Intn(2) == 0 {
			b = nil
		}
		n := int(random.Uint64()) >> random.Intn(64)
		holdAll(t, b, n)
	}
}

func FuzzAll(f *testing.F) {
	f.Add([]byte(nil), 0)
	f.Add([]byte{0, 0, 0, 2, 7, 8}, 8)
	f.Add(append([]byte{0, 0, 0, 2, 7, 8}, make([]byte, 58)...), 60)
	f.Add(append([]byte{255, 255, 255, 255}, make([]byte, 60)...), 4194301)
	f.Add(append([]byte{0, 0, 0, 61}, make([]byte, 252)...), math.MaxInt)
	f.Add(make([]byte, 256), math.MinInt)
	f.Add(make([]byte, 1024), -1)
	f.Add(make([]byte, 1021), 9)
	f.Fuzz(holdAll)
}
