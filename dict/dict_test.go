package dict

import (
	"bytes"
	"encoding/binary"
	"math"
	"math/rand"
	"slices"
	"strconv"
	"strings"
	"testing"

	"casket/api"
)

const greatest = math.MaxUint64

// turns are how many different patterns there are where a place's width, or the varint's size, turns.
var turns = []int{
	0, 1, 2, 3, 4, 5, 7, 8, 9, 15, 16, 17, 31, 32, 33, 63, 64, 65, 126, 127, 128, 129, 255, 256, 257, 1024, 1025,
	16383, 16384, 16385, 32768, 32769, api.MaxSamples - 1, api.MaxSamples,
}

func wantEncoded(t *testing.T, l []uint64, want []byte) {
	t.Helper()
	if got, e := Encode(l); !bytes.Equal(got, want) || e != api.OK {
		t.Errorf("Encode(%s): %s, %v; want %s, OK", brief(l), brief(got), e, brief(want))
	}
}

func wantDecoded(t *testing.T, b []byte, n int, want []uint64) {
	t.Helper()
	if got, e := Decode(b, n); !slices.Equal(got, want) || e != api.OK {
		t.Errorf("Decode(%s, %d): %s, %v; want %s, OK", brief(b), n, brief(got), e, brief(want))
	}
}

// wantPair says that b is l's Encode, and l is b's Decode.
func wantPair(t *testing.T, l []uint64, b []byte) {
	t.Helper()
	wantEncoded(t, l, b)
	wantDecoded(t, b, len(l), l)
}

func wantNone(t *testing.T, b []byte, n int, want api.Errno) {
	t.Helper()
	if got, e := Decode(b, n); got != nil || e != want {
		t.Errorf("Decode(%s, %d): %s, %v; want nil, %v", brief(b), n, brief(got), e, want)
	}
}

// brief is a list's beginning, since some lists are long.
func brief[T byte | uint64](l []T) string {
	var out strings.Builder
	out.WriteString(strconv.Itoa(len(l)) + " of")
	for _, v := range l[:min(len(l), 60)] {
		out.WriteString(" " + strconv.FormatUint(uint64(v), 10))
	}
	return out.String()
}

func behind(b []byte, more ...byte) []byte { return slices.Concat(b, more) }

func repeated(v uint64, n int) []uint64 { return slices.Repeat([]uint64{v}, n) }

// counted are n different patterns.
func counted(n int) []uint64 {
	l := make([]uint64, n)
	for i := range l {
		l[i] = uint64(i) * 0x9E3779B97F4A7C15 // odd, so that no two are the same
	}
	return l
}

// packed are texts of 0 and 1, eight a byte; spaces part what belongs together.
func packed(text ...string) []byte {
	s := strings.ReplaceAll(strings.Join(text, ""), " ", "")
	s += strings.Repeat("0", (8-len(s)%8)%8)
	out := make([]byte, 0, len(s)/8)
	for i := 0; i < len(s); i += 8 {
		v, err := strconv.ParseUint(s[i:i+8], 2, 8)
		if err != nil {
			panic(err)
		}
		out = append(out, byte(v))
	}
	return out
}

// written is a dictionary and, as texts of 0 and 1, places.
func written(dictionary []uint64, places ...string) []byte {
	out := binary.AppendUvarint(nil, uint64(len(dictionary)))
	for _, v := range dictionary {
		out = binary.BigEndian.AppendUint64(out, v)
	}
	return append(out, packed(places...)...)
}

// widthByWords is how many bits the greatest place of a dictionary takes, by the numbers that have so many.
func widthByWords(count int) int {
	width := 0
	for count > 1<<width {
		width++
	}
	return width
}

// digits is v as a text of 0 and 1 of that length.
func digits(v, width int) string {
	if width == 0 {
		return ""
	}
	s := strings.Repeat("0", 64) + strconv.FormatUint(uint64(v), 2)
	return s[len(s)-width:]
}

// encodeByWords is P10.1 word for word, of a few patterns: a place is sought by going through the list.
func encodeByWords(l []uint64) []byte {
	var dictionary []uint64
	for _, v := range l {
		if !slices.Contains(dictionary, v) {
			dictionary = append(dictionary, v)
		}
	}
	var places strings.Builder
	for _, v := range l {
		places.WriteString(digits(slices.Index(dictionary, v), widthByWords(len(dictionary))))
	}
	return written(dictionary, places.String())
}

// decodeByWords is P10.2 word for word, one reason behind the other.
func decodeByWords(b []byte, n int) ([]uint64, api.Errno) {
	if n < 0 || n > 65536 {
		return nil, api.ErrArg
	}
	count, size := binary.Uvarint(b)
	if size == 0 {
		return nil, api.ErrShort
	}
	if size < 0 || size > 1 && b[size-1] == 0 || count > uint64(n) {
		return nil, api.ErrForm
	}
	rest := b[size:]
	if uint64(len(rest)) < 8*count {
		return nil, api.ErrShort
	}
	var bitsLeft strings.Builder
	for _, one := range rest[8*count:] {
		bitsLeft.WriteString(digits(int(one), 8))
	}
	width := widthByWords(int(count))
	if bitsLeft.Len() < n*width {
		return nil, api.ErrShort
	}
	var l []uint64
	for i := range n {
		place := uint64(0)
		if width > 0 {
			place, _ = strconv.ParseUint(bitsLeft.String()[i*width:][:width], 2, 64)
		}
		if place >= count {
			return nil, api.ErrForm
		}
		l = append(l, binary.BigEndian.Uint64(rest[8*place:]))
	}
	if !bytes.Equal(encodeByWords(l), b) {
		return nil, api.ErrForm
	}
	return l, api.OK
}

func wantAsByWords(t *testing.T, b []byte, n int) (decoded bool) {
	t.Helper()
	want, wantError := decodeByWords(b, n)
	got, e := Decode(b, n)
	if !slices.Equal(got, want) || e != wantError || e != api.OK && got != nil {
		t.Errorf("Decode(%s, %d): %s, %v; want %s, %v", brief(b), n, brief(got), e, brief(want), wantError)
	}
	return e == api.OK
}

// somePatterns are of at most that many different ones, side by side or far apart.
func somePatterns(r *rand.Rand, n, different int) []uint64 {
	from := make([]uint64, max(different, 1))
	for i := range from {
		from[i] = r.Uint64() >> r.Intn(64)
	}
	l := make([]uint64, n)
	again := r.Intn(3)
	for i := range l {
		l[i] = from[r.Intn(len(from))]
		if i > 0 && r.Intn(4) < again {
			l[i] = l[i-1]
		}
	}
	return l
}

// each are lists and what Encode writes of them, told bit by bit.
func each() []struct {
	l []uint64
	b []byte
} {
	return []struct {
		l []uint64
		b []byte
	}{
		{nil, []byte{0}},
		{[]uint64{0}, []byte{1, 0, 0, 0, 0, 0, 0, 0, 0}},
		{[]uint64{greatest}, []byte{1, 255, 255, 255, 255, 255, 255, 255, 255}},
		{[]uint64{5, 5, 5}, []byte{1, 0, 0, 0, 0, 0, 0, 0, 5}},
		{[]uint64{9, 9, 7}, []byte{2, 0, 0, 0, 0, 0, 0, 0, 9, 0, 0, 0, 0, 0, 0, 0, 7, 32}},
		{[]uint64{9, 7, 9, 9, 7, 7, 7, 9}, written([]uint64{9, 7}, "01001110")},
		{[]uint64{9, 7, 9, 9, 7, 7, 7, 9, 7}, written([]uint64{9, 7}, "01001110 1")},
		{[]uint64{9, 7, 9, 8, 8, 7, 9}, written([]uint64{9, 7, 8}, "00 01 00 10 10 01 00")},
		{[]uint64{greatest, 0, 1, 1 << 63, 0, greatest}, written([]uint64{greatest, 0, 1, 1 << 63}, "00 01 10 11 01 00")},
		{[]uint64{5, 4, 3, 2, 1, 5, 1}, written([]uint64{5, 4, 3, 2, 1}, "000 001 010 011 100 000 100")},
	}
}

// P10.1

func TestEncodeTheExample(t *testing.T) {
	wantPair(t, []uint64{9, 9, 7}, []byte{2, 0, 0, 0, 0, 0, 0, 0, 9, 0, 0, 0, 0, 0, 0, 0, 7, 32})
}

func TestEncodeOrdinaryPatterns(t *testing.T) {
	for _, x := range each() {
		wantPair(t, x.l, x.b)
	}
	wantPair(t, []uint64{0x0102030405060708, 0xFFFEFDFCFBFAF9F8, 0x0102030405060708},
		[]byte{2, 1, 2, 3, 4, 5, 6, 7, 8, 255, 254, 253, 252, 251, 250, 249, 248, 0b01000000})
}

func TestEncodeNoPatterns(t *testing.T) {
	wantPair(t, nil, []byte{0})
	wantPair(t, []uint64{}, []byte{0})
}

func TestEncodeOnePattern(t *testing.T) {
	for _, v := range []uint64{0, 1, 255, 256, 1 << 62, 1<<63 - 1, 1 << 63, greatest - 1, greatest} {
		b := binary.BigEndian.AppendUint64([]byte{1}, v)
		for _, n := range []int{1, 2, 3, 8, 9, 1000, api.MaxSamples} {
			wantPair(t, repeated(v, n), b)
		}
	}
}

func TestEncodeInTheOrderOfTheFirsts(t *testing.T) {
	wantPair(t, []uint64{3, 1, 2}, written([]uint64{3, 1, 2}, "00 01 10"))
	wantPair(t, []uint64{1, 2, 3}, written([]uint64{1, 2, 3}, "00 01 10"))
	wantPair(t, []uint64{2, 2, 3, 2, 1, 3}, written([]uint64{2, 3, 1}, "00 00 01 00 10 01"))
	// patterns that differ in the highest bit alone, or in the lowest
	wantPair(t, []uint64{1 << 63, 0, 1, 1<<63 | 1}, written([]uint64{1 << 63, 0, 1, 1<<63 | 1}, "00 01 10 11"))
	// two that are the same number as floats, and one that is none, are told by their bits
	wantPair(t, []uint64{1 << 63, 0, 0x7FF8 << 48, 0x7FF8 << 48}, written([]uint64{1 << 63, 0, 0x7FF8 << 48}, "00 01 10 10"))
}

func TestEncodeWhereTheWidthTurns(t *testing.T) {
	widths := map[int]int{0: 0, 1: 0, 2: 1, 3: 2, 4: 2, 5: 3, 8: 3, 9: 4, 127: 7, 128: 7, 129: 8, 256: 8, 257: 9, 32768: 15, 32769: 16, 65536: 16}
	for count, width := range widths {
		b, _ := Encode(counted(count))
		size := len(binary.AppendUvarint(nil, uint64(count)))
		if want := size + 8*count + (count*width+7)/8; len(b) != want {
			t.Errorf("%d different patterns: %d bytes; want %d", count, len(b), want)
		}
	}
	for _, count := range turns {
		var places strings.Builder
		for i := range count {
			places.WriteString(digits(i, widthByWords(count)))
		}
		wantPair(t, counted(count), written(counted(count), places.String()))
	}
}

func TestEncodeWhereTheVarintGrows(t *testing.T) {
	for count, want := range map[int][]byte{127: {127}, 128: {128, 1}, 129: {129, 1}, 16383: {255, 127}, 16384: {128, 128, 1}, 65536: {128, 128, 4}} {
		b, e := Encode(counted(count))
		if !bytes.HasPrefix(b, want) || e != api.OK {
			t.Errorf("%d different patterns: %s, %v; want %v", count, brief(b), e, want)
		}
	}
}

func TestEncodePatternsThatComeBack(t *testing.T) {
	for _, count := range turns {
		if count > api.MaxSamples/2 {
			continue
		}
		var places, twice strings.Builder
		for i := range count {
			text := digits(i, widthByWords(count))
			places.WriteString(text)
			twice.WriteString(text + text)
		}
		// each far apart, and each side by side
		l := counted(count)
		wantPair(t, slices.Concat(l, l), written(l, places.String(), places.String()))
		var pairs []uint64
		for _, v := range l {
			pairs = append(pairs, v, v)
		}
		wantPair(t, pairs, written(l, twice.String()))
	}
}

func TestEncodeTheMost(t *testing.T) {
	l := repeated(7, api.MaxSamples)
	l[api.MaxSamples-1] = 8
	wantPair(t, l, written([]uint64{7, 8}, strings.Repeat("0", api.MaxSamples-1), "1"))
	l[0] = 9
	wantPair(t, l, written([]uint64{9, 7, 8}, "00", strings.Repeat("01", api.MaxSamples-2), "10"))
}

func TestEncodeMoreThanTheMost(t *testing.T) {
	for _, n := range []int{api.MaxSamples + 1, api.MaxSamples + 2, 2 * api.MaxSamples} {
		for _, l := range [][]uint64{repeated(0, n), repeated(greatest, n), counted(n)} {
			if b, e := Encode(l); b != nil || e != api.ErrLong {
				t.Errorf("Encode of %d patterns: %s, %v; want nil, ErrLong", n, brief(b), e)
			}
		}
	}
}

func TestEncodeSomePatterns(t *testing.T) {
	r := rand.New(rand.NewSource(101))
	for range 2000 {
		l := somePatterns(r, r.Intn(60), 1+r.Intn(40))
		wantPair(t, l, encodeByWords(l))
	}
	for _, different := range []int{127, 128, 129, 200, 300} {
		l := slices.Concat(counted(different), somePatterns(r, 1000, 5), counted(different))
		wantPair(t, l, encodeByWords(l))
	}
}

// P10.2

func TestDecodeByWrongNumbers(t *testing.T) {
	for _, n := range []int{-1, -2, math.MinInt, api.MaxSamples + 1, api.MaxSamples + 2, math.MaxInt} {
		for _, b := range [][]byte{nil, {0}, {1}, {128}, {128, 0}, {1, 0, 0, 0, 0, 0, 0, 0, 5}, each()[4].b} {
			wantNone(t, b, n, api.ErrArg)
		}
	}
}

func TestDecodeNoPatterns(t *testing.T) {
	wantDecoded(t, []byte{0}, 0, nil)
	for first := 1; first < 128; first++ {
		wantNone(t, []byte{byte(first)}, 0, api.ErrForm)
	}
	for last := range 256 {
		wantNone(t, []byte{0, byte(last)}, 0, api.ErrForm)
	}
	wantNone(t, []byte{1, 0, 0, 0, 0, 0, 0, 0, 5}, 0, api.ErrForm)
	wantNone(t, nil, 0, api.ErrShort)
}

func TestDecodeNoDictionaryForPatterns(t *testing.T) {
	for _, n := range []int{1, 2, 8, api.MaxSamples} {
		wantNone(t, []byte{0}, n, api.ErrForm)
		wantNone(t, []byte{0, 0}, n, api.ErrForm)
		wantNone(t, []byte{0, 0, 0, 0, 0, 0, 0, 0, 5}, n, api.ErrForm)
		wantNone(t, bytes.Repeat([]byte{0}, 9*api.MaxSamples), n, api.ErrForm)
	}
}

func TestDecodeTheVarintsErrors(t *testing.T) {
	pattern := []byte{0, 0, 0, 0, 0, 0, 0, 5}
	for _, n := range []int{0, 1, 2, 128, api.MaxSamples} {
		for size := range 10 {
			wantNone(t, bytes.Repeat([]byte{128}, size), n, api.ErrShort)
			wantNone(t, bytes.Repeat([]byte{255}, size), n, api.ErrShort)
		}
		wantNone(t, behind([]byte{128, 0}, pattern...), n, api.ErrForm)
		wantNone(t, behind([]byte{129, 0}, pattern...), n, api.ErrForm)
		wantNone(t, behind([]byte{129, 128, 0}, pattern...), n, api.ErrForm)
		wantNone(t, []byte{129, 0}, n, api.ErrForm)
		wantNone(t, behind(bytes.Repeat([]byte{128}, 9), 2), n, api.ErrForm)
		wantNone(t, behind(bytes.Repeat([]byte{128}, 9), 128), n, api.ErrForm)
	}
}

func TestDecodeMoreThanN(t *testing.T) {
	for _, count := range turns[1:] {
		wantNone(t, binary.AppendUvarint(nil, uint64(count)), count-1, api.ErrForm)
		wantNone(t, binary.AppendUvarint(nil, uint64(count)), count, api.ErrShort)
		wantNone(t, written(counted(count)), count-1, api.ErrForm)
	}
	for _, count := range []uint64{api.MaxSamples + 1, 1 << 31, 1 << 32, 1<<32 + 1, 1 << 61, 1<<61 + 1, 1 << 63, 1<<63 + 1, greatest} {
		for _, n := range []int{0, 1, 2, api.MaxSamples} {
			wantNone(t, binary.AppendUvarint(nil, count), n, api.ErrForm)
			wantNone(t, behind(binary.AppendUvarint(nil, count), 0, 0, 0, 0, 0, 0, 0, 5), n, api.ErrForm)
		}
	}
}

func TestDecodeEveryBeginning(t *testing.T) {
	for _, x := range each() {
		for size := range len(x.b) {
			wantNone(t, x.b[:size], len(x.l), api.ErrShort)
		}
	}
	l := slices.Concat(counted(130), counted(130))
	b := encodeByWords(l)
	for size := range len(b) {
		wantNone(t, b[:size], len(l), api.ErrShort)
	}
}

func TestDecodeShortAheadOfWrong(t *testing.T) {
	// bits are missing, and what is there names places that the dictionary has not
	wantNone(t, written([]uint64{9, 7, 8}, "11 11 11 11"), 5, api.ErrShort)
	wantNone(t, written([]uint64{9, 7, 8}, "11 11 11 11"), 4, api.ErrForm)
	wantNone(t, written([]uint64{9, 7, 8}), 3, api.ErrShort)
	// bits are missing, and a pattern stands in the dictionary twice
	wantNone(t, written([]uint64{9, 9}), 2, api.ErrShort)
	wantNone(t, written([]uint64{9, 9}, "00000000"), 9, api.ErrShort)
	// a pattern is missing, and the one that is there stands there twice
	wantNone(t, behind([]byte{3}, written([]uint64{9, 9})[1:]...), 3, api.ErrShort)
}

func TestDecodeAPatternThatStandsThereTwice(t *testing.T) {
	wantNone(t, written([]uint64{9, 9}, "01"), 2, api.ErrForm)
	wantNone(t, written([]uint64{9, 9}, "00"), 2, api.ErrForm)
	wantNone(t, written([]uint64{0, 0}, "01"), 2, api.ErrForm)
	wantNone(t, written([]uint64{9, 7, 9}, "00 01 10"), 3, api.ErrForm)
	wantNone(t, written([]uint64{9, 7, 7}, "00 01 10"), 3, api.ErrForm)
	wantNone(t, written([]uint64{9, 7, 8, 9}, "00 01 10 11"), 4, api.ErrForm)
	wantNone(t, written([]uint64{9, 7, 8, 9}, "00 01 10 00"), 4, api.ErrForm)
	wantPair(t, []uint64{9, 7, 8, 6}, written([]uint64{9, 7, 8, 6}, "00 01 10 11"))
}

func TestDecodeAPlaceThatTheDictionaryHasNot(t *testing.T) {
	wantNone(t, written([]uint64{9, 7, 8}, "00 01 11"), 3, api.ErrForm)
	wantNone(t, written([]uint64{9, 7, 8}, "00 01 10 11"), 4, api.ErrForm)
	wantNone(t, written([]uint64{9, 7, 8}, "11 00 01 10"), 4, api.ErrForm)
	wantNone(t, written([]uint64{5, 4, 3, 2, 1}, "000 001 010 011 101"), 5, api.ErrForm)
	wantNone(t, written([]uint64{5, 4, 3, 2, 1}, "000 001 010 011 100 111"), 6, api.ErrForm)
	for _, count := range []int{3, 5, 6, 7, 9, 100, 127, 129} {
		width := widthByWords(count)
		var places strings.Builder
		for i := range count {
			places.WriteString(digits(i, width))
		}
		for wrong := count; wrong < 1<<width; wrong++ {
			wantNone(t, written(counted(count), places.String(), digits(wrong, width)), count+1, api.ErrForm)
		}
		wantDecoded(t, written(counted(count), places.String(), digits(count-1, width)), count+1,
			append(counted(count), counted(count)[count-1]))
	}
}

func TestDecodeFirstsInAnotherOrder(t *testing.T) {
	wantNone(t, written([]uint64{9, 7}, "10"), 2, api.ErrForm)
	wantNone(t, written([]uint64{9, 7}, "11 0"), 3, api.ErrForm)
	wantNone(t, written([]uint64{9, 7, 8}, "00 10 01"), 3, api.ErrForm)
	wantNone(t, written([]uint64{9, 7, 8}, "01 00 10"), 3, api.ErrForm)
	wantNone(t, written([]uint64{9, 7, 8}, "10 01 00"), 3, api.ErrForm)
	wantNone(t, written([]uint64{9, 7, 8}, "00 00 10 01"), 4, api.ErrForm)
	wantPair(t, []uint64{9, 9, 7, 8}, written([]uint64{9, 7, 8}, "00 00 01 10"))
}

func TestDecodeAPatternThatNoPlaceNames(t *testing.T) {
	wantNone(t, written([]uint64{9, 7}, "00"), 2, api.ErrForm)
	wantNone(t, written([]uint64{9, 7}, "11"), 2, api.ErrForm)
	wantNone(t, written([]uint64{9, 7, 8}, "00 01 01"), 3, api.ErrForm)
	wantNone(t, written([]uint64{9, 7, 8}, "00 10 10"), 3, api.ErrForm)
	wantNone(t, written([]uint64{9, 7, 8}, "00 01 00 01 00"), 5, api.ErrForm)
	wantNone(t, written([]uint64{5, 4, 3, 2, 1}, "000 001 010 011 011"), 5, api.ErrForm)
}

func TestDecodeAByteThatIsLeft(t *testing.T) {
	for _, x := range each() {
		for last := range 256 {
			wantNone(t, behind(x.b, byte(last)), len(x.l), api.ErrForm)
		}
		wantNone(t, slices.Concat(x.b, x.b), len(x.l), api.ErrForm)
	}
}

func TestDecodeABitBehindThatIsNot0(t *testing.T) {
	for n := 2; n < 8; n++ {
		for place := range 8 - n {
			wantNone(t, behind(written([]uint64{9, 7}), 1<<6|1<<place), n, api.ErrForm)
		}
		wantDecoded(t, behind(written([]uint64{9, 7}), 1<<6), n, append([]uint64{9, 7}, repeated(9, n-2)...))
	}
	wantNone(t, written([]uint64{9, 7, 8}, "00 01 10 01"), 3, api.ErrForm)
	wantNone(t, written([]uint64{9, 7, 8}, "00 01 10 10"), 3, api.ErrForm)
}

func TestDecodeByAnotherNumber(t *testing.T) {
	// how many there are is not told: 0 fills a byte up, and is the first one's place
	b := written([]uint64{9, 7}, "001")
	for n := 3; n <= 8; n++ {
		wantDecoded(t, b, n, append([]uint64{9, 9, 7}, repeated(9, n-3)...))
	}
	for n := range 3 {
		wantNone(t, b, n, api.ErrForm)
	}
	for _, n := range []int{9, 10, 16, api.MaxSamples} {
		wantNone(t, b, n, api.ErrShort)
	}
	// a place takes no bits
	b = written([]uint64{5})
	wantNone(t, b, 0, api.ErrForm)
	for _, n := range []int{1, 2, 3, 100, api.MaxSamples} {
		wantDecoded(t, b, n, repeated(5, n))
	}
	// no bit fills these up
	b = written([]uint64{1, 2, 3, 4}, "00 01 10 11")
	for n := range 4 {
		wantNone(t, b, n, api.ErrForm)
	}
	wantDecoded(t, b, 4, []uint64{1, 2, 3, 4})
	for n := 5; n < 20; n++ {
		wantNone(t, b, n, api.ErrShort)
	}
	// a place is left that the smaller number does not read
	b = written([]uint64{1, 2}, "01 1")
	wantNone(t, b, 2, api.ErrForm)
	wantDecoded(t, b, 3, []uint64{1, 2, 2})
}

func TestDecodeEveryByteOfPlacesAsTheWordsSay(t *testing.T) {
	dictionaries := [][]uint64{
		{}, {0}, {1}, {1, 2}, {2, 1}, {1, 1}, {1, 2, 3}, {3, 2, 1}, {1, 2, 1}, {2, 2, 1}, {1, 2, 3, 4}, {1, 2, 3, 1},
		{1, 2, 3, 4, 5}, {1, 2, 3, 4, 4},
	}
	decoded := 0
	for _, dictionary := range dictionaries {
		for one := range 256 {
			b := behind(written(dictionary), byte(one))
			for _, n := range []int{1, 2, 3, 4, 5, 6, 8, 9, 16} {
				for _, next := range []byte{0, 1, 2, 8, 16, 64, 128, 192, 255} {
					if wantAsByWords(t, behind(b, next), n) {
						decoded++
					}
				}
				if wantAsByWords(t, b, n) {
					decoded++
				}
			}
			if t.Failed() {
				return
			}
		}
	}
	if decoded < 1000 {
		t.Errorf("only %d were decoded", decoded)
	}
}

func TestDecodeTurnedBytesAsTheWordsSay(t *testing.T) {
	r := rand.New(rand.NewSource(102))
	for range 2000 {
		l := somePatterns(r, 1+r.Intn(25), 1+r.Intn(9))
		b := encodeByWords(l)
		for n := len(l) - 2; n <= len(l)+2; n++ {
			wantAsByWords(t, b, n)
			turned := slices.Clone(b)
			turned[r.Intn(len(b))] ^= 1 << r.Intn(8)
			wantAsByWords(t, turned, n)
			turned[len(b)-1] = byte(r.Intn(256))
			wantAsByWords(t, turned, n)
			turned[0] = byte(r.Intn(6))
			wantAsByWords(t, turned, n)
			wantAsByWords(t, b[:r.Intn(len(b)+1)], n)
			wantAsByWords(t, behind(b, byte(r.Intn(2))), n)
		}
	}
}

// P10.3

func TestThereAndBack(t *testing.T) {
	r := rand.New(rand.NewSource(103))
	for _, n := range []int{0, 1, 2, 3, 8, 9, 10, 127, 5000, api.MaxSamples - 1, api.MaxSamples} {
		for _, different := range []int{1, 2, 3, 4, 5, 127, 128, 129, 1000, n} {
			l := somePatterns(r, n, different)
			b, e := Encode(l)
			if e != api.OK {
				t.Fatalf("Encode of %d patterns: %v", n, e)
			}
			wantDecoded(t, b, n, l)
		}
	}
}

func TestBytesThatAreDecodedAreThoseEncoded(t *testing.T) {
	r := rand.New(rand.NewSource(104))
	decoded := 0
	for range 200000 {
		count := r.Intn(5)
		dictionary := make([]uint64, count)
		for i := range dictionary {
			dictionary[i] = uint64(r.Intn(9))
		}
		b := written(dictionary)
		for range r.Intn(3) {
			b = append(b, byte(r.Intn(256))>>r.Intn(8))
		}
		n := count + r.Intn(6)
		l, e := Decode(b, n)
		if e != api.OK {
			continue
		}
		decoded++
		if len(l) != n {
			t.Errorf("Decode(%v, %d): %d patterns", b, n, len(l))
		}
		wantEncoded(t, l, b)
	}
	if decoded < 2000 {
		t.Errorf("only %d were decoded", decoded)
	}
}

func TestTheSameListIsTheSameBytes(t *testing.T) {
	l := slices.Concat(counted(300), counted(300))
	first, _ := Encode(l)
	for range 50 {
		wantPair(t, l, first)
	}
}

// R3

func TestTheListIsNeitherChangedNorKept(t *testing.T) {
	for _, x := range each() {
		room := append(slices.Clone(x.l), 99, 98)
		before := slices.Clone(room)
		b, _ := Encode(room[:len(x.l)])
		if !slices.Equal(room, before) {
			t.Errorf("Encode changes what it is handed: %v", room)
		}
		clear(room)
		if !bytes.Equal(b, x.b) {
			t.Errorf("Encode keeps what it is handed: %v", b)
		}
		clear(b)
		wantEncoded(t, x.l, x.b)
	}
	wrong := counted(api.MaxSamples + 1)
	if Encode(wrong); !slices.Equal(wrong, counted(api.MaxSamples+1)) {
		t.Error("a list that is refused is changed")
	}
}

func TestTheBytesAreNeitherChangedNorKept(t *testing.T) {
	for _, x := range each() {
		room := append(slices.Clone(x.b), 99, 98)
		before := slices.Clone(room)
		l, _ := Decode(room[:len(x.b)], len(x.l))
		if !bytes.Equal(room, before) {
			t.Errorf("Decode changes what it is handed: %v", room)
		}
		clear(room)
		if !slices.Equal(l, x.l) {
			t.Errorf("Decode keeps what it is handed: %v", l)
		}
		clear(l)
		wantDecoded(t, x.b, len(x.l), x.l)
		wrong := append(slices.Clone(x.b), 99)
		for _, n := range []int{-1, 0, 1, len(x.l), len(x.l) + 1, api.MaxSamples} {
			if Decode(wrong, n); !bytes.Equal(wrong[:len(x.b)], x.b) || wrong[len(x.b)] != 99 {
				t.Errorf("Decode changes what it refuses: %v", wrong)
			}
		}
	}
}
