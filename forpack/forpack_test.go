package forpack

import (
	"bytes"
	"math"
	"math/big"
	"math/rand"
	"slices"
	"strconv"
	"strings"
	"testing"

	"casket/api"
)

const greatest = math.MaxUint64

// greatestVarint is the greatest number as a varint.
var greatestVarint = []byte{255, 255, 255, 255, 255, 255, 255, 255, 255, 1}

func wantPacked(t *testing.T, l []uint64, want []byte) {
	t.Helper()
	if got, e := Pack(l); !bytes.Equal(got, want) || e != api.OK {
		t.Errorf("Pack(%v): %v, %v; want %v, OK", l, got, e, want)
	}
}

func wantUnpacked(t *testing.T, b []byte, n int, want []uint64) {
	t.Helper()
	if got, e := Unpack(b, n); !slices.Equal(got, want) || e != api.OK {
		t.Errorf("Unpack(%v, %d): %v, %v; want %v, OK", b, n, got, e, want)
	}
}

// wantPair says that b is l's Pack, and l is b's Unpack.
func wantPair(t *testing.T, l []uint64, b []byte) {
	t.Helper()
	wantPacked(t, l, b)
	wantUnpacked(t, b, len(l), l)
}

func wantNone(t *testing.T, b []byte, n int, want api.Errno) {
	t.Helper()
	if got, e := Unpack(b, n); got != nil || e != want {
		t.Errorf("Unpack(%v, %d): %v, %v; want nil, %v", b, n, got, e, want)
	}
}

func behind(b []byte, more ...byte) []byte { return slices.Concat(b, more) }

func repeated(v uint64, n int) []uint64 { return slices.Repeat([]uint64{v}, n) }

// varintByWords is chapter 2's varint: groups of seven bits, the lowest first.
func varintByWords(v uint64) []byte {
	if v < 128 {
		return []byte{byte(v)}
	}
	return behind([]byte{byte(v%128) + 128}, varintByWords(v/128)...)
}

// binary is v's bits as a text, none for 0.
func binary(v *big.Int) string {
	if v.Sign() == 0 {
		return ""
	}
	return v.Text(2)
}

// bytesOf are the bytes of a text of bits, the last one filled up with 0.
func bytesOf(text string) []byte {
	for len(text)%8 != 0 {
		text += "0"
	}
	var out []byte
	for i := 0; i < len(text); i += 8 {
		v, _ := strconv.ParseUint(text[i:i+8], 2, 8)
		out = append(out, byte(v))
	}
	return out
}

func number(v uint64) *big.Int { return new(big.Int).SetUint64(v) }

// packByWords is P5.1 word for word, of at most MaxSamples numbers.
func packByWords(l []uint64) []byte {
	if len(l) == 0 {
		return []byte{0, 0}
	}
	sorted := slices.Sorted(slices.Values(l))
	least := sorted[0]
	width := len(binary(new(big.Int).Sub(number(sorted[len(l)-1]), number(least))))
	var all strings.Builder
	for _, v := range l {
		text := binary(new(big.Int).Sub(number(v), number(least)))
		all.WriteString(strings.Repeat("0", width-len(text)) + text)
	}
	return slices.Concat(varintByWords(least), []byte{byte(width)}, bytesOf(all.String()))
}

// varintReadByWords are a varint's number, what stands behind it, and its error.
func varintReadByWords(b []byte) (*big.Int, []byte, api.Errno) {
	v := new(big.Int)
	for i, each := range b {
		if i == 9 && each > 1 {
			return nil, nil, api.ErrForm
		}
		v.Add(v, new(big.Int).Lsh(big.NewInt(int64(each%128)), uint(7*i)))
		if each < 128 && each == 0 && i > 0 {
			return nil, nil, api.ErrForm
		}
		if each < 128 {
			return v, b[i+1:], api.OK
		}
	}
	return nil, nil, api.ErrShort
}

// unpackByWords is P5.2 word for word, one reason behind the other.
func unpackByWords(b []byte, n int) ([]uint64, api.Errno) {
	if n < 0 || n > 65536 {
		return nil, api.ErrArg
	}
	least, rest, e := varintReadByWords(b)
	if e != api.OK {
		return nil, e
	}
	if len(rest) == 0 {
		return nil, api.ErrShort
	}
	width := int(rest[0])
	if width > 64 {
		return nil, api.ErrForm
	}
	var all strings.Builder
	for _, each := range rest[1:] {
		text := strconv.FormatUint(uint64(each), 2)
		all.WriteString(strings.Repeat("0", 8-len(text)) + text)
	}
	text := all.String()
	if len(text) < n*width {
		return nil, api.ErrShort
	}
	if left := text[n*width:]; len(left) >= 8 || strings.Contains(left, "1") {
		return nil, api.ErrForm
	}
	var l []uint64
	for i := range n {
		v := new(big.Int)
		if width > 0 {
			v.SetString(text[i*width:(i+1)*width], 2)
		}
		v.Add(v, least)
		if !v.IsUint64() {
			return nil, api.ErrForm
		}
		l = append(l, v.Uint64())
	}
	if !bytes.Equal(packByWords(l), b) {
		return nil, api.ErrForm
	}
	return l, api.OK
}

func wantAsByWords(t *testing.T, b []byte, n int) {
	t.Helper()
	want, wantError := unpackByWords(b, n)
	got, e := Unpack(b, n)
	if !slices.Equal(got, want) || e != wantError || e != api.OK && got != nil {
		t.Errorf("Unpack(%v, %d): %v, %v; want %v, %v", b, n, got, e, want, wantError)
	}
}

// someNumbers lie near each other, far from each other, or at the ends.
func someNumbers(r *rand.Rand, n int) []uint64 {
	base, spread := r.Uint64()>>r.Intn(64), uint64(1)<<r.Intn(64)
	edges := []uint64{0, 1, 127, 128, 1<<63 - 1, 1 << 63, greatest - 1, greatest}
	ofEdges := r.Intn(5) == 0
	out := make([]uint64, n)
	for i := range out {
		out[i] = edges[r.Intn(len(edges))]
		if above := r.Uint64() % spread; !ofEdges && above <= greatest-base {
			out[i] = base + above
		} else if !ofEdges {
			out[i] = base
		}
	}
	return out
}

// P5.1

func TestPackOrdinaryNumbers(t *testing.T) {
	wantPair(t, []uint64{7, 9, 8}, []byte{7, 2, 0b00100100})
	wantPair(t, []uint64{9, 8, 7}, []byte{7, 2, 0b10010000})
	wantPair(t, []uint64{0, 5, 1}, []byte{0, 3, 0b00010100, 0b10000000})
	wantPair(t, []uint64{300, 555, 300}, []byte{172, 2, 8, 0, 255, 0})
	wantPair(t, []uint64{300, 556}, []byte{172, 2, 9, 0b00000000, 0b01000000, 0b00000000})
}

func TestPackNoNumbers(t *testing.T) {
	wantPair(t, nil, []byte{0, 0})
	wantPair(t, []uint64{}, []byte{0, 0})
}

func TestPackOneNumber(t *testing.T) {
	wantPair(t, []uint64{0}, []byte{0, 0})
	wantPair(t, []uint64{1}, []byte{1, 0})
	wantPair(t, []uint64{127}, []byte{127, 0})
	wantPair(t, []uint64{128}, []byte{128, 1, 0})
	wantPair(t, []uint64{300}, []byte{172, 2, 0})
	wantPair(t, []uint64{greatest}, behind(greatestVarint, 0))
}

func TestPackNumbersAllTheSame(t *testing.T) {
	for _, n := range []int{2, 3, 8, 9, 1000, api.MaxSamples} {
		wantPair(t, repeated(0, n), []byte{0, 0})
		wantPair(t, repeated(300, n), []byte{172, 2, 0})
		wantPair(t, repeated(greatest, n), behind(greatestVarint, 0))
	}
}

func TestPackTheGreatestNumber(t *testing.T) {
	noughts, ones := make([]byte, 8), slices.Repeat([]byte{255}, 8)
	wantPair(t, []uint64{0, greatest}, slices.Concat([]byte{0, 64}, noughts, ones))
	wantPair(t, []uint64{greatest, 0}, slices.Concat([]byte{0, 64}, ones, noughts))
	wantPair(t, []uint64{1, greatest}, slices.Concat([]byte{1, 64}, noughts, ones[:7], []byte{254}))
	wantPair(t, []uint64{greatest, greatest - 1}, slices.Concat([]byte{254}, greatestVarint[1:], []byte{1, 128}))
	half := slices.Concat(slices.Repeat([]byte{128}, 9), []byte{1}) // 2^63 as a varint
	wantPair(t, []uint64{1 << 63, greatest}, slices.Concat(half, []byte{63}, noughts[:7], []byte{1}, ones[:7], []byte{252}))
}

func TestPackByEveryWidth(t *testing.T) {
	for width := 1; width <= 64; width++ {
		most := uint64(greatest) >> (64 - width)
		text := strings.Repeat("0", width) + strings.Repeat("1", width)
		wantPair(t, []uint64{0, most}, behind([]byte{0, byte(width)}, bytesOf(text)...))
		text = "1" + strings.Repeat("0", 2*width-1)
		wantPair(t, []uint64{most/2 + 1, 0}, behind([]byte{0, byte(width)}, bytesOf(text)...))
	}
}

func TestPackTheMostNumbers(t *testing.T) {
	l := repeated(5, api.MaxSamples)
	l[api.MaxSamples-1] = 6
	want := make([]byte, 2+api.MaxSamples/8)
	want[0], want[1], want[len(want)-1] = 5, 1, 1
	wantPair(t, l, want)
	wantPair(t, l[1:], behind(behind([]byte{5, 1}, make([]byte, 8191)...), 2))
	r := rand.New(rand.NewSource(51))
	for range 3 {
		l := someNumbers(r, api.MaxSamples)
		wantPair(t, l, packByWords(l))
	}
}

func TestPackMoreThanTheMost(t *testing.T) {
	for _, n := range []int{api.MaxSamples + 1, api.MaxSamples + 2, 2 * api.MaxSamples, 1 << 20} {
		for _, v := range []uint64{0, 7, greatest} {
			if b, e := Pack(repeated(v, n)); b != nil || e != api.ErrLong {
				t.Errorf("Pack of %d numbers: %v, %v; want nil, ErrLong", n, b, e)
			}
		}
	}
}

func TestPackIsAsTheWordsSay(t *testing.T) {
	r := rand.New(rand.NewSource(52))
	for range 5000 {
		l := someNumbers(r, r.Intn(20))
		wantPair(t, l, packByWords(l))
	}
}

// P5.2

func TestUnpackByNumbersThatMayNotBe(t *testing.T) {
	for _, n := range []int{-1, -2, math.MinInt, api.MaxSamples + 1, 1 << 32, 1 << 58, math.MaxInt} {
		for _, b := range [][]byte{nil, {}, {128}, {128, 0}, {0}, {0, 0}, {0, 64}, {0, 65}, {7, 2, 36}} {
			wantNone(t, b, n, api.ErrArg)
		}
	}
}

func TestUnpackNoWholeVarint(t *testing.T) {
	for _, n := range []int{0, 1, 3, api.MaxSamples} {
		wantNone(t, nil, n, api.ErrShort)
		wantNone(t, []byte{}, n, api.ErrShort)
		wantNone(t, []byte{128}, n, api.ErrShort)
		wantNone(t, greatestVarint[:9], n, api.ErrShort)
	}
}

func TestUnpackAVarintThatNobodyWrites(t *testing.T) {
	for _, n := range []int{0, 1, 3, api.MaxSamples} {
		wantNone(t, []byte{128, 0}, n, api.ErrForm)
		wantNone(t, []byte{128, 0, 0}, n, api.ErrForm)
		wantNone(t, []byte{135, 0, 2, 36}, n, api.ErrForm)
		wantNone(t, []byte{135, 128, 0, 65}, n, api.ErrForm)
		wantNone(t, behind(greatestVarint[:9], 2, 0), n, api.ErrForm)
		wantNone(t, behind(greatestVarint[:9], 129, 0, 0), n, api.ErrForm)
	}
}

func TestUnpackNoByteBehindTheVarint(t *testing.T) {
	for _, n := range []int{0, 1, 3, api.MaxSamples} {
		for _, b := range [][]byte{{0}, {7}, {172, 2}, greatestVarint} {
			wantNone(t, b, n, api.ErrShort)
		}
	}
}

func TestUnpackAWidthAboveTheGreatest(t *testing.T) {
	for width := 65; width <= 255; width++ {
		for _, n := range []int{0, 1, api.MaxSamples} { // also where bits are too few
			wantNone(t, []byte{0, byte(width)}, n, api.ErrForm)
			wantNone(t, behind([]byte{0, byte(width)}, make([]byte, 32)...), n, api.ErrForm)
		}
	}
}

func TestUnpackTooFewBits(t *testing.T) {
	wantNone(t, []byte{7, 2, 36}, 5, api.ErrShort)
	wantNone(t, []byte{7, 2}, 1, api.ErrShort)
	wantNone(t, []byte{0, 64}, api.MaxSamples, api.ErrShort)
	wantNone(t, []byte{0, 1}, 1, api.ErrShort)
	wantNone(t, behind([]byte{0, 1}, make([]byte, 8191)...), api.MaxSamples, api.ErrShort)
	for width := 1; width <= 64; width++ {
		b := behind([]byte{0, byte(width)}, bytesOf(strings.Repeat("0", width)+strings.Repeat("1", width))...)
		wantNone(t, b[:len(b)-1], 2, api.ErrShort)
	}
}

func TestTooFewBitsAreToldAheadOfWhatTheyAre(t *testing.T) {
	wantNone(t, behind(greatestVarint, 8, 255), 2, api.ErrShort) // the first one passes the greatest number
	wantNone(t, []byte{6, 2, 0b01100101}, 5, api.ErrShort)       // none is the least one
	wantNone(t, []byte{7, 3, 0b00000100}, 3, api.ErrShort)       // the width is not the least
}

func TestUnpackTooManyBits(t *testing.T) {
	wantNone(t, []byte{7, 2, 36, 0}, 3, api.ErrForm)
	wantNone(t, []byte{7, 2, 36, 0}, 4, api.ErrForm)
	wantNone(t, []byte{0, 0, 0}, 0, api.ErrForm)
	wantNone(t, []byte{7, 0, 0}, 3, api.ErrForm)
	wantNone(t, behind([]byte{7, 2, 36}, make([]byte, 1000)...), 3, api.ErrForm)
	wantNone(t, []byte{5, 8, 0, 255, 0}, 2, api.ErrForm)
}

func TestUnpackAFillingThatIsNot0(t *testing.T) {
	for _, filling := range []byte{1, 2, 3} {
		wantNone(t, []byte{7, 2, 36 + filling}, 3, api.ErrForm)
	}
	for place := range 6 {
		wantNone(t, []byte{7, 1, 0b01000000 | 1<<place}, 2, api.ErrForm)
		wantNone(t, []byte{7, 9, 0, 0b01111111, 0b11000000 | 1<<place}, 2, api.ErrForm)
	}
}

func TestUnpackFillingAsNumbers(t *testing.T) {
	b := []byte{7, 2, 36}
	wantUnpacked(t, b, 3, []uint64{7, 9, 8})
	wantUnpacked(t, b, 4, []uint64{7, 9, 8, 7})
	wantPacked(t, []uint64{7, 9, 8, 7}, b)
	wantNone(t, b, 5, api.ErrShort)
	for n := 2; n <= 8; n++ {
		wantUnpacked(t, []byte{3, 1, 0b01000000}, n, slices.Concat([]uint64{3, 4}, repeated(3, n-2)))
	}
	wantNone(t, []byte{3, 1, 0b01000000}, 9, api.ErrShort)
	wantNone(t, []byte{3, 1, 0b01000000}, 1, api.ErrForm)
}

func TestUnpackByAnyNumberWhereTheWidthIs0(t *testing.T) {
	for _, n := range []int{1, 2, 7, 100, api.MaxSamples - 1, api.MaxSamples} {
		wantUnpacked(t, []byte{7, 0}, n, repeated(7, n))
		wantUnpacked(t, []byte{0, 0}, n, repeated(0, n))
	}
}

func TestUnpackNumbersThatPassTheGreatest(t *testing.T) {
	wantNone(t, behind(greatestVarint, 1, 64), 2, api.ErrForm)
	wantNone(t, behind(greatestVarint, 1, 128), 1, api.ErrForm)
	all := behind(make([]byte, 8), slices.Repeat([]byte{255}, 8)...)
	wantUnpacked(t, slices.Concat([]byte{0, 64}, all), 2, []uint64{0, greatest})
	for _, least := range []uint64{1, 2, 300, 1 << 63, greatest} {
		wantNone(t, slices.Concat(varintByWords(least), []byte{64}, all), 2, api.ErrForm)
	}
	wantUnpacked(t, slices.Concat(varintByWords(greatest-3), []byte{2, 0b00110000}), 2, []uint64{greatest - 3, greatest})
	wantNone(t, slices.Concat(varintByWords(greatest-2), []byte{2, 0b00110000}), 2, api.ErrForm)
}

func TestUnpackBytesThatPackWritesOtherwise(t *testing.T) {
	wantNone(t, []byte{6, 2, 0b01111000}, 3, api.ErrForm)             // none is the least one
	wantNone(t, []byte{7, 3, 0b00001000, 0b10000000}, 3, api.ErrForm) // two bits are enough
	wantNone(t, []byte{7, 1, 0}, 3, api.ErrForm)                      // all the same need none
	wantNone(t, []byte{7, 1, 0b11100000}, 3, api.ErrForm)             // all the same, and none the least one
	wantNone(t, behind([]byte{7, 64}, make([]byte, 8)...), 1, api.ErrForm)
	wantNone(t, []byte{1, 0}, 0, api.ErrForm) // of no numbers the least is 0
	wantNone(t, behind(greatestVarint, 0), 0, api.ErrForm)
	for width := 1; width <= 64; width++ { // and so is the width
		wantNone(t, []byte{0, byte(width)}, 0, api.ErrForm)
	}
}

func TestUnpackFewBytesAsTheWordsSay(t *testing.T) {
	for first := range 256 {
		wantAsByWords(t, []byte{byte(first)}, 1)
		for second := range 256 {
			for _, n := range []int{-1, 0, 1, 2, 65536, 65537} {
				if n == 65536 && first%50 > 0 {
					continue // the list is long, and all the same
				}
				wantAsByWords(t, []byte{byte(first), byte(second)}, n)
			}
		}
	}
	for _, least := range []byte{0, 1, 127, 128, 255} {
		for _, width := range []byte{0, 1, 2, 3, 4, 7, 8, 9, 64, 65} {
			for bits := range 256 {
				for n := range 10 {
					wantAsByWords(t, []byte{least, width, byte(bits)}, n)
				}
			}
		}
	}
}

func TestUnpackTurnedBytesAsTheWordsSay(t *testing.T) {
	r := rand.New(rand.NewSource(53))
	for range 4000 {
		l := someNumbers(r, r.Intn(12))
		b, _ := Pack(l)
		for n := len(l) - 2; n <= len(l)+2; n++ {
			wantAsByWords(t, b, n)
			turned := slices.Clone(b)
			turned[r.Intn(len(b))] ^= 1 << r.Intn(8)
			wantAsByWords(t, turned, n)
			wantAsByWords(t, b[:r.Intn(len(b)+1)], n)
			wantAsByWords(t, behind(b, byte(r.Intn(2))), n)
		}
	}
}

// P5.3

func TestThereAndBack(t *testing.T) {
	r := rand.New(rand.NewSource(54))
	for _, n := range []int{0, 1, 2, 3, 7, 8, 9, 100, api.MaxSamples - 1, api.MaxSamples} {
		for range 5 {
			l := someNumbers(r, n)
			b, e := Pack(l)
			if e != api.OK {
				t.Fatalf("Pack of %d numbers: %v", n, e)
			}
			if back, e := Unpack(b, n); !slices.Equal(back, l) || e != api.OK {
				t.Errorf("%d numbers are not themselves again: %v", n, e)
			}
		}
	}
}

func TestBytesThatAreUnpackedAreThosePacked(t *testing.T) {
	r := rand.New(rand.NewSource(55))
	unpacked := 0
	for range 200000 {
		b := make([]byte, 2+r.Intn(3))
		r.Read(b)
		b[0] %= 130
		b[1] %= 10
		n := r.Intn(10)
		l, e := Unpack(b, n)
		if e != api.OK {
			continue
		}
		unpacked++
		if len(l) != n {
			t.Errorf("Unpack(%v, %d): %d numbers", b, n, len(l))
		}
		wantPacked(t, l, b)
	}
	if unpacked < 1000 {
		t.Errorf("only %d were unpacked", unpacked)
	}
}

// R3

func TestThePackedListIsNeitherChangedNorKept(t *testing.T) {
	room := []uint64{9, 7, 8, 99, 98}
	b, _ := Pack(room[:3])
	if !slices.Equal(room, []uint64{9, 7, 8, 99, 98}) {
		t.Errorf("Pack changes what it is handed: %v", room)
	}
	want := slices.Clone(b)
	clear(room)
	if !bytes.Equal(b, want) {
		t.Errorf("Pack keeps what it is handed: %v", b)
	}
	clear(b)
	wantPacked(t, []uint64{9, 7, 8}, want)
}

func TestTheUnpackedBytesAreNeitherChangedNorKept(t *testing.T) {
	room := []byte{7, 2, 36, 99, 98}
	l, _ := Unpack(room[:3], 3)
	if !bytes.Equal(room, []byte{7, 2, 36, 99, 98}) {
		t.Errorf("Unpack changes what it is handed: %v", room)
	}
	clear(room)
	if !slices.Equal(l, []uint64{7, 9, 8}) {
		t.Errorf("Unpack keeps what it is handed: %v", l)
	}
	clear(l)
	wantUnpacked(t, []byte{7, 2, 36}, 3, []uint64{7, 9, 8})
	wrong := []byte{7, 2, 37, 99}
	Unpack(wrong[:3], 3)
	if !bytes.Equal(wrong, []byte{7, 2, 37, 99}) {
		t.Errorf("Unpack changes what it refuses: %v", wrong)
	}
}
