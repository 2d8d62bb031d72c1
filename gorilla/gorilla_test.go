package gorilla

import (
	"bytes"
	"math"
	"math/rand"
	"slices"
	"strconv"
	"strings"
	"testing"

	"casket/api"
)

const greatest = math.MaxUint64

// edges are patterns at which something turns: one bit at an end, a lead of 31 and around it, all bits.
var edges = []uint64{
	0, 1, 2, 3, 1 << 31, 1<<31 | 1, 1 << 32, 1<<32 | 1, 1<<33 - 1, 1 << 33, 1<<33 | 1, 1 << 34,
	1 << 62, 1<<62 | 1, 1<<63 - 1, 1 << 63, 1<<63 | 1, 1<<63 | 2, greatest - 1, greatest,
}

func wantEncoded(t *testing.T, l []uint64, want []byte) {
	t.Helper()
	if got, e := Encode(l); !bytes.Equal(got, want) || e != api.OK {
		t.Errorf("Encode(%v): %v, %v; want %v, OK", l, got, e, want)
	}
}

func wantDecoded(t *testing.T, b []byte, n int, want []uint64) {
	t.Helper()
	if got, e := Decode(b, n); !slices.Equal(got, want) || e != api.OK {
		t.Errorf("Decode(%v, %d): %v, %v; want %v, OK", b, n, got, e, want)
	}
}

// wantPair says that b is l's Encode, and l is b's Decode.
func wantPair(t *testing.T, l []uint64, b []byte) {
	t.Helper()
	wantEncoded(t, l, b)
	wantDecoded(t, b, len(l), l)
}

func wantNone(t *testing.T, b []byte, n int, want api.Errno) {
	t.Helper()
	if got, e := Decode(b, n); got != nil || e != want {
		t.Errorf("Decode(%v, %d): %v, %v; want nil, %v", b, n, got, e, want)
	}
}

func behind(b []byte, more ...byte) []byte { return slices.Concat(b, more) }

func repeated(v uint64, n int) []uint64 { return slices.Repeat([]uint64{v}, n) }

// digits are the lowest bits of v as that many texts of 0 and 1.
func digits(v uint64, width int) string {
	if width == 0 {
		return ""
	}
	s := strings.Repeat("0", 64) + strconv.FormatUint(v, 2)
	return s[len(s)-width:]
}

// packed are texts of 0 and 1, eight a byte; spaces part what belongs together.
func packed(text ...string) []byte {
	s := strings.ReplaceAll(strings.Join(text, ""), " ", "")
	s += strings.Repeat("0", (8-len(s)%8)%8)
	out := make([]byte, 0, len(s)/8)
	for i := 0; i < len(s); i += 8 {
		v, err := strconv.ParseUint(s[i:i+8], 2, 8)
		if err != nil {
			panic(err)
		}
		out = append(out, byte(v))
	}
	return out
}

// first is a first pattern.
func first(v uint64) string { return digits(v, 64) }

// opened is a window that is told, and bits inside it.
func opened(lead, rest int, inside string) string {
	return "11" + digits(uint64(lead), 5) + digits(uint64(rest-1), 6) + inside
}

func zeros(n int) string { return strings.Repeat("0", n) }
func ones(n int) string  { return strings.Repeat("1", n) }

// encodeByWords is P9.1 word for word, of at most MaxSamples patterns, bits being texts.
func encodeByWords(l []uint64) []byte {
	if len(l) == 0 {
		return nil
	}
	var out strings.Builder
	out.WriteString(digits(l[0], 64))
	lead, trail, is := 0, 0, false
	for i := 1; i < len(l); i++ {
		x := digits(l[i]^l[i-1], 64)
		if !strings.Contains(x, "1") {
			out.WriteString("0")
			continue
		}
		if is && strings.HasPrefix(x, zeros(lead)) && strings.HasSuffix(x, zeros(trail)) {
			out.WriteString("10" + x[lead:64-trail])
			continue
		}
		lead, trail, is = min(strings.IndexByte(x, '1'), 31), 63-strings.LastIndexByte(x, '1'), true
		out.WriteString("11" + digits(uint64(lead), 5) + digits(uint64(63-lead-trail), 6) + x[lead:64-trail])
	}
	return packed(out.String())
}

// bitsByWords are texts of 0 and 1 that are read one behind the other.
type bitsByWords struct {
	text  string
	short bool
}

func (b *bitsByWords) next(n int) string {
	if b.short || len(b.text) < n {
		b.short = true
		return zeros(n)
	}
	s := b.text[:n]
	b.text = b.text[n:]
	return s
}

func (b *bitsByWords) number(n int) int {
	v, _ := strconv.ParseUint(b.next(n), 2, 64)
	return int(v)
}

// decodeByWords is P9.2 word for word, one reason behind the other.
func decodeByWords(b []byte, n int) ([]uint64, api.Errno) {
	if n < 0 || n > 65536 {
		return nil, api.ErrArg
	}
	var text strings.Builder
	for _, one := range b {
		text.WriteString(digits(uint64(one), 8))
	}
	in := &bitsByWords{text: text.String()}
	var l []uint64
	lead, rest := 0, 0
	for len(l) < n && !in.short {
		x := ""
		switch {
		case len(l) == 0:
			x = in.next(64)
		case in.next(1) == "0":
			x = "0"
		case in.next(1) == "1":
			lead, rest = in.number(5), in.number(6)+1
			if lead+rest > 64 {
				return nil, api.ErrForm
			}
			x = in.next(rest) + zeros(64-lead-rest)
		case rest == 0 && !in.short:
			return nil, api.ErrForm // no window by now
		default:
			x = in.next(rest) + zeros(64-lead-rest)
		}
		v, _ := strconv.ParseUint(x, 2, 64)
		if len(l) > 0 {
			v ^= l[len(l)-1]
		}
		l = append(l, v)
	}
	if in.short {
		return nil, api.ErrShort
	}
	if !bytes.Equal(encodeByWords(l), b) {
		return nil, api.ErrForm
	}
	return l, api.OK
}

func wantAsByWords(t *testing.T, b []byte, n int) (decoded bool) {
	t.Helper()
	want, wantError := decodeByWords(b, n)
	got, e := Decode(b, n)
	if !slices.Equal(got, want) || e != wantError || e != api.OK && got != nil {
		t.Errorf("Decode(%v, %d): %v, %v; want %v, %v", b, n, got, e, want, wantError)
	}
	return e == api.OK
}

// somePatterns are equal, differ in a few bits that stand near each other, or are each for itself.
func somePatterns(r *rand.Rand, n int) []uint64 {
	l := make([]uint64, n)
	v, kind, every := r.Uint64(), r.Intn(5), 1+r.Intn(20)
	shift, mask := r.Intn(64), uint64(1)<<r.Intn(64)-1
	for i := range l {
		l[i] = v
		switch {
		case r.Intn(4) == 0: // the same once more
		case kind == 0:
			v = r.Uint64() >> r.Intn(64) << r.Intn(64)
		case kind == 1 && r.Intn(every) == 0:
			shift, mask = r.Intn(64), uint64(1)<<r.Intn(64)-1
		case kind == 2:
			v = math.Float64bits(float64(i*every) / 8)
		case kind == 3 && r.Intn(every) == 0:
			v = edges[r.Intn(len(edges))]
		default:
			v ^= r.Uint64() & mask << shift
		}
	}
	return l
}

// each are lists and what Encode writes of them, told bit by bit.
func each() []struct {
	l []uint64
	b []byte
} {
	return []struct {
		l []uint64
		b []byte
	}{
		{[]uint64{5}, packed(first(5))},
		{[]uint64{5, 5}, packed(first(5), "0")},
		{[]uint64{0, 1}, packed(first(0), "11 11111 100000", zeros(32), "1")},
		// 12 and 8 differ in bit 2, 8 and 12 again, 12 and 4 in bit 3, which fits, 4 and 6 in bit 1, which does not
		{
			[]uint64{12, 8, 8, 12, 4, 6},
			packed(first(12), opened(31, 31, zeros(30)+"1"), "0", "10", zeros(30), "1", "10", zeros(29), "10",
				opened(31, 32, zeros(31)+"1")),
		},
		// a window of the bits 32 to 47: each of these two fits it alone, 48 and 31 do not
		{
			[]uint64{0, 0x800100 << 24, 0x800000 << 24, 0, 1 << 48, 1<<48 | 1<<31},
			packed(first(0), opened(16, 16, "1000000000000001"), "10 0000000000000001", "10 1000000000000000",
				opened(15, 1, "1"), opened(31, 2, "01")),
		},
	}
}

// P9.1

func TestEncodeTheExamples(t *testing.T) {
	wantPair(t, []uint64{5, 5}, []byte{0, 0, 0, 0, 0, 0, 0, 5, 0})
	wantPair(t, []uint64{0, 1}, []byte{0, 0, 0, 0, 0, 0, 0, 0, 0b11111111, 0b00000000, 0, 0, 0, 0b00000100})
}

func TestEncodeOrdinaryPatterns(t *testing.T) {
	for _, x := range each() {
		wantPair(t, x.l, x.b)
	}
	wantPair(t, []uint64{1, 9, 9, 1}, packed(first(1), opened(31, 30, zeros(29)+"1"), "0", "10", zeros(29), "1"))
	// 1.0, 1.5 and 2.0 as floats: bit 51, then bits 51 and 62 that do not fit, then nothing
	wantPair(t, []uint64{0x3FF0 << 48, 0x3FF8 << 48, 0x4000 << 48, 0x4000 << 48},
		packed(first(0x3FF0<<48), opened(12, 1, "1"), opened(1, 12, "111111111111"), "0"))
}

func TestEncodeNoPatterns(t *testing.T) {
	wantPair(t, nil, nil)
	wantPair(t, []uint64{}, []byte{})
}

func TestEncodeOnePattern(t *testing.T) {
	wantPair(t, []uint64{0}, make([]byte, 8))
	wantPair(t, []uint64{1}, []byte{0, 0, 0, 0, 0, 0, 0, 1})
	wantPair(t, []uint64{0x0102030405060708}, []byte{1, 2, 3, 4, 5, 6, 7, 8})
	wantPair(t, []uint64{greatest}, bytes.Repeat([]byte{255}, 8))
}

func TestEncodeEqualPatterns(t *testing.T) {
	for _, v := range edges {
		for n := 2; n < 20; n++ {
			wantPair(t, repeated(v, n), packed(first(v), zeros(n-1)))
		}
	}
}

func TestEncodeOneBitThatDiffers(t *testing.T) {
	for _, v := range edges {
		wantPair(t, []uint64{v, v ^ 1}, packed(first(v), "11 11111 100000", zeros(32), "1"))
		wantPair(t, []uint64{v, v ^ 1<<63}, packed(first(v), "11 00000 000000 1"))
		for place := range 64 {
			lead := min(63-place, 31)
			want := packed(first(v), opened(lead, 64-lead-place, zeros(63-place-lead)+"1"))
			wantPair(t, []uint64{v, v ^ 1<<place}, want)
		}
	}
}

func TestEncodeALeadOfAtMost31(t *testing.T) {
	wantPair(t, []uint64{0, 1 << 34}, packed(first(0), "11 11101 000000 1"))
	wantPair(t, []uint64{0, 1 << 33}, packed(first(0), "11 11110 000000 1"))
	wantPair(t, []uint64{0, 1 << 32}, packed(first(0), "11 11111 000000 1"))
	wantPair(t, []uint64{0, 1 << 31}, packed(first(0), "11 11111 000001 01"))
	wantPair(t, []uint64{0, 1 << 30}, packed(first(0), "11 11111 000010 001"))
	wantPair(t, []uint64{0, 1<<32 | 1}, packed(first(0), "11 11111 100000 1", zeros(31), "1"))
	wantPair(t, []uint64{0, 1<<33 | 1}, packed(first(0), "11 11110 100001 1", zeros(32), "1"))
	// the window that is told of 1<<31 begins at bit 32, so that 1<<32 fits it, and 1<<33 does not
	wantPair(t, []uint64{0, 1 << 31, 1<<31 | 1<<32}, packed(first(0), "11 11111 000001 01", "10 10"))
	wantPair(t, []uint64{0, 1 << 31, 1<<31 | 1<<33}, packed(first(0), "11 11111 000001 01", "11 11110 000000 1"))
}

func TestEncodeTheWholeWidth(t *testing.T) {
	wantPair(t, []uint64{0, greatest}, packed(first(0), "11 00000 111111", ones(64)))
	wantPair(t, []uint64{greatest, 0}, packed(first(greatest), "11 00000 111111", ones(64)))
	wantPair(t, []uint64{0, 1<<63 | 1}, packed(first(0), "11 00000 111111 1", zeros(62), "1"))
	// a lead and a trail of 0 are a window like others: all fit it
	for _, v := range edges[1:] {
		wantPair(t, []uint64{0, greatest, greatest ^ v}, packed(first(0), "11 00000 111111", ones(64), "10", digits(v, 64)))
	}
	wantPair(t, []uint64{0, greatest, 0, greatest, greatest},
		packed(first(0), "11 00000 111111", ones(64), "10", ones(64), "10", ones(64), "0"))
}

func TestEncodeInAWiderWindow(t *testing.T) {
	// the window stays as wide, however narrow the patterns that fit it
	start := packed(first(0), opened(31, 33, ones(33)))
	wantPair(t, []uint64{0, 1<<33 - 1}, start)
	wantPair(t, []uint64{0, 1<<33 - 1, 1<<33 - 2}, packed(first(0), opened(31, 33, ones(33)), "10", zeros(32), "1"))
	wantPair(t, []uint64{0, 1<<33 - 1, 1<<33 - 2, 1<<33 - 1 - 1<<32},
		packed(first(0), opened(31, 33, ones(33)), "10", zeros(32), "1", "10 1", zeros(31), "1"))
	wantPair(t, []uint64{0, 6 << 40, 2 << 40, 2<<40 | 1<<42},
		packed(first(0), opened(21, 2, "11"), "10 10", "10 10"))
}

func TestEncodeInTheNewestWindow(t *testing.T) {
	// what fits the window ahead of the newest one, and not the newest one, opens one more
	wantPair(t, []uint64{0, 1 << 63, 1<<63 | 1<<40, 1 << 40},
		packed(first(0), opened(0, 1, "1"), opened(23, 1, "1"), opened(0, 1, "1")))
	// equal ones let the window stay
	wantPair(t, []uint64{0, 1 << 50, 1 << 50, 0, 0, 1 << 50},
		packed(first(0), opened(13, 1, "1"), "0", "10 1", "0", "10 1"))
	// a lead that fits and a trail that does not, and the other way round
	wantPair(t, []uint64{0, 3 << 50, 3<<50 | 1<<49, 3 << 50},
		packed(first(0), opened(12, 2, "11"), opened(14, 1, "1"), "10 1"))
	wantPair(t, []uint64{0, 3 << 50, 3<<50 | 1<<52, 3 << 50},
		packed(first(0), opened(12, 2, "11"), opened(11, 1, "1"), "10 1"))
}

func TestEncodeEdgesSideBySide(t *testing.T) {
	for _, a := range edges {
		for _, b := range edges {
			for _, c := range edges {
				l := []uint64{a, b, c, a, a, b}
				wantPair(t, l, encodeByWords(l))
			}
		}
	}
}

func TestEncodeTheMost(t *testing.T) {
	n := api.MaxSamples
	wantPair(t, make([]uint64, n), make([]byte, 8+n/8))
	turning := make([]uint64, n)
	for i := range turning {
		turning[i] = -uint64(i % 2)
	}
	wantPair(t, turning, packed(first(0), "11 00000 111111", ones(64), strings.Repeat("10"+ones(64), n-2)))
	r := rand.New(rand.NewSource(91))
	for range 5 {
		l := somePatterns(r, n)
		wantPair(t, l, encodeByWords(l))
	}
}

func TestEncodeMoreThanTheMost(t *testing.T) {
	for _, n := range []int{api.MaxSamples + 1, api.MaxSamples + 2, 2 * api.MaxSamples, 1 << 20} {
		for _, v := range []uint64{0, 7, greatest} {
			if got, e := Encode(repeated(v, n)); got != nil || e != api.ErrLong {
				t.Errorf("Encode of %d patterns: %d bytes, %v; want nil, ErrLong", n, len(got), e)
			}
		}
	}
}

func TestEncodeSomePatterns(t *testing.T) {
	r := rand.New(rand.NewSource(92))
	for range 3000 {
		l := somePatterns(r, r.Intn(100))
		wantPair(t, l, encodeByWords(l))
	}
}

// P9.2

func TestDecodeByWrongNumbers(t *testing.T) {
	for _, b := range [][]byte{nil, {}, {0}, make([]byte, 8), make([]byte, 9), packed(first(0), opened(31, 64, ""))} {
		for _, n := range []int{-1, -2, math.MinInt, api.MaxSamples + 1, api.MaxSamples + 2, 1 << 32, math.MaxInt} {
			wantNone(t, b, n, api.ErrArg)
		}
	}
}

func TestDecodeNoPatterns(t *testing.T) {
	wantDecoded(t, nil, 0, nil)
	wantDecoded(t, []byte{}, 0, nil)
	for one := range 256 {
		wantNone(t, []byte{byte(one)}, 0, api.ErrForm)
	}
	wantNone(t, make([]byte, 8), 0, api.ErrForm)
	wantNone(t, make([]byte, 9), 0, api.ErrForm)
}

func TestDecodeBytesThatEndTooEarly(t *testing.T) {
	for _, n := range []int{1, 2, 100, api.MaxSamples} {
		for size := range 8 {
			wantNone(t, make([]byte, size), n, api.ErrShort)
			wantNone(t, bytes.Repeat([]byte{255}, size), n, api.ErrShort)
		}
	}
	wantNone(t, make([]byte, 8), 2, api.ErrShort)
	wantNone(t, make([]byte, 9), 10, api.ErrShort)
	wantNone(t, make([]byte, 9), api.MaxSamples, api.ErrShort)
	for _, x := range each() {
		for size := range x.b {
			wantNone(t, x.b[:size], len(x.l), api.ErrShort)
		}
	}
}

func TestDecodeThatEndsAheadOfEachBit(t *testing.T) {
	// as many equal ones as push each bit of a new window, and of one that is taken again, to a byte's end
	for equal := range 16 {
		for _, again := range []bool{false, true} {
			l := append(repeated(0, 1+equal), 1<<20|1<<60)
			if again {
				l = append(l, 1<<20)
			}
			b := encodeByWords(l)
			for size := range b {
				wantNone(t, b[:size], len(l), api.ErrShort)
			}
			wantDecoded(t, b, len(l), l)
		}
	}
}

func TestDecodeEveryBeginning(t *testing.T) {
	r := rand.New(rand.NewSource(93))
	for range 300 {
		l := somePatterns(r, 1+r.Intn(30))
		b := encodeByWords(l)
		for size := range b {
			wantNone(t, b[:size], len(l), api.ErrShort)
		}
	}
}

func TestDecodeMoreThan64BitsTogether(t *testing.T) {
	for lead := range 32 {
		for rest := 1; rest <= 64; rest++ {
			told := first(7) + opened(lead, rest, "")
			if lead+rest <= 64 {
				b := packed(told, "1", zeros(64), zeros(64))
				if _, e := Decode(b[:8+(13+rest-1)/8], 2); e != api.ErrShort { // one bit less, at least
					t.Errorf("a lead of %d and a rest of %d that is cut off: %v; want ErrShort", lead, rest, e)
				}
				continue
			}
			for _, n := range []int{2, 3, api.MaxSamples} {
				wantNone(t, packed(told), n, api.ErrForm) // none of the rest's bits is needed for that
				wantNone(t, packed(told, ones(64)), n, api.ErrForm)
				wantNone(t, packed(told, zeros(640)), n, api.ErrForm)
			}
		}
	}
	// behind a window that may be, too
	wantNone(t, packed(first(0), opened(0, 1, "1"), opened(31, 34, "")), 3, api.ErrForm)
	wantNone(t, packed(first(0), opened(0, 1, "1"), opened(1, 64, "")), 3, api.ErrForm)
	// the 11 bits themselves are needed
	wantNone(t, packed(first(0), ones(8)), 2, api.ErrShort)
}

func TestDecodeAsMuchAs64BitsTogether(t *testing.T) {
	for lead := range 31 {
		x := uint64(1)<<(63-lead) | 1
		wantPair(t, []uint64{9, 9 ^ x}, packed(first(9), opened(lead, 64-lead, "1"+zeros(62-lead)+"1")))
	}
	wantPair(t, []uint64{9, 8}, packed(first(9), opened(31, 33, zeros(32)+"1")))
}

func TestDecodeAWindowAheadOfTheFirst(t *testing.T) {
	for _, n := range []int{2, 3, 9, api.MaxSamples} {
		wantNone(t, packed(first(0), "10"), n, api.ErrForm)
		wantNone(t, packed(first(0), "10", zeros(64)), n, api.ErrForm)
		wantNone(t, packed(first(0), "10", ones(64)), n, api.ErrForm)
	}
	wantNone(t, packed(first(0), "000 10"), 5, api.ErrForm)
	wantNone(t, packed(first(0), "000000 10"), 8, api.ErrForm)
	wantNone(t, packed(first(0), "0000000 1"), 9, api.ErrShort) // whether it is a new one is not told
}

func TestDecodeANewWindowWhereTheOldOneDoes(t *testing.T) {
	old := first(0) + opened(12, 4, "1111")
	wantNone(t, packed(old, opened(12, 4, "1111")), 3, api.ErrForm)
	wantNone(t, packed(old, opened(12, 1, "1")), 3, api.ErrForm)
	wantNone(t, packed(old, opened(15, 1, "1")), 3, api.ErrForm)
	wantNone(t, packed(old, opened(13, 2, "11")), 3, api.ErrForm)
	wantNone(t, packed(old, "0", opened(13, 2, "11")), 4, api.ErrForm)
	wantPair(t, []uint64{0, 15 << 48, 12 << 48}, packed(old, "10 0011"))
	wantPair(t, []uint64{0, 15 << 48, 31 << 48}, packed(old, opened(11, 1, "1")))
	wantPair(t, []uint64{0, 15 << 48, 15<<48 | 1<<47}, packed(old, opened(16, 1, "1")))
}

func TestDecodeALeadOrATrailThatIsNotItsOwn(t *testing.T) {
	wantDecoded(t, packed(first(0), opened(12, 3, "101")), 2, []uint64{0, 5 << 49})
	wantNone(t, packed(first(0), opened(11, 4, "0101")), 2, api.ErrForm)
	wantNone(t, packed(first(0), opened(12, 4, "1010")), 2, api.ErrForm)
	wantNone(t, packed(first(0), opened(11, 5, "01010")), 2, api.ErrForm)
	wantNone(t, packed(first(0), opened(0, 64, digits(5<<49, 64))), 2, api.ErrForm)
	wantNone(t, packed(first(0), opened(30, 34, zeros(33)+"1")), 2, api.ErrForm)
	wantDecoded(t, packed(first(0), opened(31, 33, zeros(32)+"1")), 2, []uint64{0, 1})
	wantNone(t, packed(first(0), opened(31, 33, zeros(31)+"10")), 2, api.ErrForm)
	wantDecoded(t, packed(first(0), opened(31, 32, zeros(31)+"1")), 2, []uint64{0, 2})
	// it is the window for what is behind, as it is told: bits that are needed are asked for first
	wantNone(t, packed(first(0), opened(11, 4, "0101"), "10 0101", "11"), 4, api.ErrShort)
	wantNone(t, packed(first(0), opened(11, 4, "0101"), "10 0101"), 3, api.ErrForm)
	wantNone(t, packed(first(0), opened(0, 64, digits(1, 64)), "10 1"), 3, api.ErrShort)
	wantNone(t, packed(first(0), opened(0, 64, digits(1, 64)), "10", digits(1, 64)), 3, api.ErrForm)
}

func TestDecodeAOneWhereNothingDiffers(t *testing.T) {
	for _, rest := range []int{1, 2, 33} {
		wantNone(t, packed(first(5), opened(31, rest, zeros(rest))), 2, api.ErrForm)
		wantNone(t, packed(first(5), opened(0, rest, zeros(rest))), 2, api.ErrForm)
	}
	wantNone(t, packed(first(5), opened(0, 64, zeros(64))), 2, api.ErrForm)
	wantNone(t, packed(first(5), opened(12, 3, "101"), "10 000"), 3, api.ErrForm)
	wantPair(t, []uint64{5, 5 ^ 5<<49, 5 ^ 5<<49}, packed(first(5), opened(12, 3, "101"), "0"))
	wantNone(t, packed(first(5), opened(31, 1, "0"), "11"), 3, api.ErrShort)
}

func TestDecodeAByteThatIsLeft(t *testing.T) {
	for _, x := range each() {
		for last := range 256 {
			wantNone(t, behind(x.b, byte(last)), len(x.l), api.ErrForm)
		}
		wantNone(t, slices.Concat(x.b, x.b), len(x.l), api.ErrForm)
	}
	wantNone(t, make([]byte, 9), 1, api.ErrForm)
	wantNone(t, make([]byte, 10), 9, api.ErrForm)
}

func TestDecodeABitBehindThatIsNot0(t *testing.T) {
	for place := range 7 {
		wantNone(t, behind(make([]byte, 8), 1<<place), 2, api.ErrForm)
	}
	for equal := range 7 {
		for place := range 7 - equal {
			wantNone(t, behind(make([]byte, 8), 1<<place), 2+equal, api.ErrForm)
		}
	}
	wantNone(t, packed(first(0), opened(0, 1, "1"), "1"), 2, api.ErrForm)
	wantNone(t, packed(first(0), opened(0, 1, "1"), "01"), 2, api.ErrForm)
}

func TestDecodeByAnotherNumber(t *testing.T) {
	// how many there are is not told: 0 fills a byte up, and is an equal one
	b := []byte{0, 0, 0, 0, 0, 0, 0, 5, 0}
	for n := 2; n <= 9; n++ {
		wantDecoded(t, b, n, repeated(5, n))
	}
	wantNone(t, b, 0, api.ErrForm)
	wantNone(t, b, 1, api.ErrForm)
	for _, n := range []int{10, 11, 17, 18, api.MaxSamples} {
		wantNone(t, b, n, api.ErrShort)
	}
	l := []uint64{0, 1 << 63, 0} // 14 and 3 bits, and 7 to fill up
	b = packed(first(0), opened(0, 1, "1"), "10 1")
	for n := 3; n <= 10; n++ {
		wantDecoded(t, b, n, slices.Concat(l, make([]uint64, n-3)))
	}
	for n := range 3 {
		wantNone(t, b, n, api.ErrForm)
	}
	for n := 11; n < 30; n++ {
		wantNone(t, b, n, api.ErrShort)
	}
	// no bit fills these up
	b = packed(first(3), opened(29, 3, "111"))
	wantNone(t, b, 1, api.ErrForm)
	wantDecoded(t, b, 2, []uint64{3, 3 | 7<<32})
	wantNone(t, b, 3, api.ErrShort)
}

func TestDecodeFewBytesAsTheWordsSay(t *testing.T) {
	decoded := 0
	for one := range 256 {
		for next := range 256 {
			b := behind(make([]byte, 8), byte(one), byte(next))
			for _, n := range []int{1, 2, 3, 4, 9, 12, 17, 18} {
				if wantAsByWords(t, b, n) {
					decoded++
				}
			}
		}
		if t.Failed() {
			return
		}
	}
	if decoded < 150 {
		t.Errorf("only %d were decoded", decoded)
	}
}

func TestDecodeTurnedBytesAsTheWordsSay(t *testing.T) {
	r := rand.New(rand.NewSource(94))
	for range 2000 {
		l := somePatterns(r, 1+r.Intn(25))
		b := encodeByWords(l)
		for n := len(l) - 2; n <= len(l)+2; n++ {
			wantAsByWords(t, b, n)
			turned := slices.Clone(b)
			turned[r.Intn(len(b))] ^= 1 << r.Intn(8)
			wantAsByWords(t, turned, n)
			turned[min(8, len(b)-1)] = byte(r.Intn(256))
			wantAsByWords(t, turned, n)
			wantAsByWords(t, b[:r.Intn(len(b)+1)], n)
			wantAsByWords(t, behind(b, byte(r.Intn(2))), n)
		}
	}
}

// P9.3

func TestThereAndBack(t *testing.T) {
	r := rand.New(rand.NewSource(95))
	for _, n := range []int{0, 1, 2, 3, 8, 9, 10, 127, 5000, api.MaxSamples - 1, api.MaxSamples} {
		for range 8 {
			l := somePatterns(r, n)
			b, e := Encode(l)
			if e != api.OK {
				t.Fatalf("Encode of %d patterns: %v", n, e)
			}
			if back, e := Decode(b, n); !slices.Equal(back, l) || e != api.OK {
				t.Errorf("%d patterns are not themselves again: %v", n, e)
			}
		}
	}
}

func TestBytesThatAreDecodedAreThoseEncoded(t *testing.T) {
	r := rand.New(rand.NewSource(96))
	decoded := 0
	for range 200000 {
		b := make([]byte, 8+r.Intn(5))
		for i := range b {
			b[i] = byte(r.Intn(256)) >> r.Intn(8)
		}
		if len(b) > 8 && r.Intn(2) == 0 {
			b[8] |= 0b11000000
		}
		n := 1 + r.Intn(20)
		l, e := Decode(b, n)
		if e != api.OK {
			continue
		}
		decoded++
		if len(l) != n {
			t.Errorf("Decode(%v, %d): %d patterns", b, n, len(l))
		}
		wantEncoded(t, l, b)
	}
	if decoded < 2000 {
		t.Errorf("only %d were decoded", decoded)
	}
}

// R3

func TestTheListIsNeitherChangedNorKept(t *testing.T) {
	for _, x := range each() {
		room := append(slices.Clone(x.l), 99, 98)
		before := slices.Clone(room)
		b, _ := Encode(room[:len(x.l)])
		if !slices.Equal(room, before) {
			t.Errorf("Encode changes what it is handed: %v", room)
		}
		clear(room)
		if !bytes.Equal(b, x.b) {
			t.Errorf("Encode keeps what it is handed: %v", b)
		}
		clear(b)
		wantEncoded(t, x.l, x.b)
	}
	wrong := repeated(5, api.MaxSamples+1)
	if Encode(wrong); !slices.Equal(wrong, repeated(5, api.MaxSamples+1)) {
		t.Error("a list that is refused is changed")
	}
}

func TestTheBytesAreNeitherChangedNorKept(t *testing.T) {
	for _, x := range each() {
		room := append(slices.Clone(x.b), 99, 98)
		before := slices.Clone(room)
		l, _ := Decode(room[:len(x.b)], len(x.l))
		if !bytes.Equal(room, before) {
			t.Errorf("Decode changes what it is handed: %v", room)
		}
		clear(room)
		if !slices.Equal(l, x.l) {
			t.Errorf("Decode keeps what it is handed: %v", l)
		}
		clear(l)
		wantDecoded(t, x.b, len(x.l), x.l)
		wrong := append(slices.Clone(x.b), 99)
		for _, n := range []int{-1, 0, 1, len(x.l), len(x.l) + 1, api.MaxSamples} {
			if Decode(wrong, n); !bytes.Equal(wrong[:len(x.b)], x.b) || wrong[len(x.b)] != 99 {
				t.Errorf("Decode changes what it refuses: %v", wrong)
			}
		}
	}
}
