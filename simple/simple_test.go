package simple

import (
	"bytes"
	"math"
	"math/rand"
	"slices"
	"strconv"
	"strings"
	"testing"

	"casket/api"
)

const most60 = 1<<60 - 1 // the greatest number that a word takes

// rooms are the chapter's sorts: how many numbers, of how many bits each.
var rooms = [][2]int{
	{240, 0}, {120, 0}, {60, 1}, {30, 2}, {20, 3}, {15, 4}, {12, 5}, {10, 6},
	{8, 7}, {7, 8}, {6, 10}, {5, 12}, {4, 15}, {3, 20}, {2, 30}, {1, 60},
}

func wantEncoded(t *testing.T, l []uint64, want []byte) {
	t.Helper()
	if got, e := Encode(l); !bytes.Equal(got, want) || e != api.OK {
		t.Errorf("Encode(%v): %v, %v; want %v, OK", l, got, e, want)
	}
}

func wantDecoded(t *testing.T, b []byte, n int, want []uint64) {
	t.Helper()
	if got, e := Decode(b, n); !slices.Equal(got, want) || e != api.OK {
		t.Errorf("Decode(%v, %d): %v, %v; want %v, OK", b, n, got, e, want)
	}
}

// wantPair says that b is l's Encode, and l is b's Decode.
func wantPair(t *testing.T, l []uint64, b []byte) {
	t.Helper()
	wantEncoded(t, l, b)
	wantDecoded(t, b, len(l), l)
}

func wantNotEncoded(t *testing.T, l []uint64, want api.Errno) {
	t.Helper()
	if got, e := Encode(l); got != nil || e != want {
		t.Errorf("Encode of %d numbers: %v, %v; want nil, %v", len(l), got, e, want)
	}
}

func wantNone(t *testing.T, b []byte, n int, want api.Errno) {
	t.Helper()
	if got, e := Decode(b, n); got != nil || e != want {
		t.Errorf("Decode(%v, %d): %v, %v; want nil, %v", b, n, got, e, want)
	}
}

func repeated(v uint64, n int) []uint64 { return slices.Repeat([]uint64{v}, n) }

func behind(b []byte, more ...byte) []byte { return slices.Concat(b, more) }

// bits is v as a text of so many bits.
func bits(v uint64, width int) string {
	if width == 0 {
		return ""
	}
	text := strconv.FormatUint(v, 2)
	return strings.Repeat("0", width-len(text)) + text
}

// bytesOf are the eight bytes of a text of at most 64 bits, filled up with 0.
func bytesOf(text string) []byte {
	text += strings.Repeat("0", 64-len(text))
	var out []byte
	for i := 0; i < 64; i += 8 {
		v, _ := strconv.ParseUint(text[i:i+8], 2, 8)
		out = append(out, byte(v))
	}
	return out
}

// wordOf is a word of the sort s as the chapter writes it.
func wordOf(s int, l ...uint64) []byte {
	text := bits(uint64(s), 4)
	for _, v := range l {
		text += bits(v, rooms[s][1])
	}
	return bytesOf(text)
}

func wordsOf(words ...[]byte) []byte { return slices.Concat(words...) }

// needed is how many bits l's greatest number needs.
func needed(l []uint64) int {
	if greatest := slices.Max(l); greatest > 0 {
		return len(strconv.FormatUint(greatest, 2))
	}
	return 0
}

// encodeByWords is P6.1 word for word, of at most MaxSamples numbers of at most 60 bits.
func encodeByWords(l []uint64) []byte {
	var out []byte
	for len(l) > 0 {
		s := slices.IndexFunc(rooms, func(room [2]int) bool {
			return room[0] <= len(l) && needed(l[:room[0]]) <= room[1]
		})
		count := rooms[s][0]
		out = append(out, wordOf(s, l[:count]...)...)
		l = l[count:]
	}
	return out
}

// numbersOf are the numbers of whole words, whatever else stands in them.
func numbersOf(b []byte) []uint64 {
	var l []uint64
	for ; len(b) > 0; b = b[8:] {
		text := ""
		for _, each := range b[:8] {
			text += bits(uint64(each), 8)
		}
		count, width := rooms[b[0]>>4][0], rooms[b[0]>>4][1]
		for i := range count {
			v, _ := strconv.ParseUint("0"+text[4+i*width:4+(i+1)*width], 2, 64)
			l = append(l, v)
		}
	}
	return l
}

// decodeByWords is P6.2 word for word: first the list that is asked for, then why there is none.
func decodeByWords(b []byte, n int) ([]uint64, api.Errno) {
	if n < 0 || n > 65536 {
		return nil, api.ErrArg
	}
	if len(b)%8 == 0 {
		if l := numbersOf(b); len(l) == n && bytes.Equal(encodeByWords(l), b) {
			return l, api.OK
		}
	}
	for had := 0; had < n; b = b[8:] {
		if len(b) < 8 {
			return nil, api.ErrShort
		}
		had += rooms[b[0]>>4][0]
	}
	return nil, api.ErrForm
}

func wantAsByWords(t *testing.T, b []byte, n int) {
	t.Helper()
	want, wantError := decodeByWords(b, n)
	got, e := Decode(b, n)
	if !slices.Equal(got, want) || e != wantError || e != api.OK && got != nil {
		t.Errorf("Decode(%v, %d): %v, %v; want %v, %v", b, n, got, e, want, wantError)
	}
}

// someNumbers come in stretches that need about equally many bits, so that every sort is met.
func someNumbers(r *rand.Rand, n int) []uint64 {
	var l []uint64
	for len(l) < n {
		width, mixed := rooms[r.Intn(len(rooms))][1]+r.Intn(3)-1, r.Intn(2) == 0
		width = min(max(width, 0), 60)
		for range 1 + r.Intn(300) {
			v := uint64(1)<<width - 1
			if mixed {
				v &= r.Uint64()
			}
			l = append(l, v)
		}
	}
	return l[:n]
}

// P6.1

func TestRoom(t *testing.T) {
	for s, room := range rooms {
		if count, width := Room(s); count != room[0] || width != room[1] {
			t.Errorf("Room(%d): %d, %d; want %d, %d", s, count, width, room[0], room[1])
		}
	}
	for _, s := range []int{-1, 16, 17, -16, 255, math.MinInt, math.MaxInt} {
		if count, width := Room(s); count != 0 || width != 0 {
			t.Errorf("Room(%d): %d, %d; want 0, 0", s, count, width)
		}
	}
}

func TestEncodeOrdinaryNumbers(t *testing.T) {
	wantPair(t, []uint64{1, 2, 3}, []byte{208, 0, 1, 0, 0, 32, 0, 3})
	wantPair(t, []uint64{3, 2, 1, 0}, []byte{192, 0, 96, 0, 128, 0, 128, 0}) // 4 of 15 bits
	wantPair(t, []uint64{1, 2, 3, 4, 5, 6, 7}, []byte{144, 16, 32, 48, 64, 80, 96, 112})
	wantPair(t, []uint64{1 << 20, 1}, []byte{224, 4, 0, 0, 0, 0, 0, 1}) // 2 of 30 bits
	wantPair(t, []uint64{1 << 30, 1}, wordsOf([]byte{240, 0, 0, 0, 64, 0, 0, 0}, []byte{240, 0, 0, 0, 0, 0, 0, 1}))
}

func TestEncodeNoNumbers(t *testing.T) {
	wantPair(t, nil, nil)
	wantPair(t, []uint64{}, nil)
	wantDecoded(t, []byte{}, 0, nil)
}

func TestEncodeOneNumber(t *testing.T) {
	wantPair(t, []uint64{0}, []byte{240, 0, 0, 0, 0, 0, 0, 0})
	wantPair(t, []uint64{1}, []byte{240, 0, 0, 0, 0, 0, 0, 1})
	wantPair(t, []uint64{300}, []byte{240, 0, 0, 0, 0, 0, 1, 44})
	wantPair(t, []uint64{1 << 59}, []byte{248, 0, 0, 0, 0, 0, 0, 0})
	wantPair(t, []uint64{most60}, []byte{255, 255, 255, 255, 255, 255, 255, 255})
}

func TestEncodeNoughts(t *testing.T) {
	nought := func(s int) []byte { return behind([]byte{byte(s << 4)}, make([]byte, 7)...) }
	of119 := wordsOf(nought(2), nought(3), nought(4), nought(8), nought(15)) // 60 + 30 + 20 + 8 + 1
	for _, x := range []struct {
		n int
		b []byte
	}{
		{119, of119},
		{120, nought(1)},
		{121, wordsOf(nought(1), nought(15))},
		{239, wordsOf(nought(1), of119)},
		{240, nought(0)},
		{241, wordsOf(nought(0), nought(15))},
		{360, wordsOf(nought(0), nought(1))},
		{480, wordsOf(nought(0), nought(0))},
	} {
		wantPair(t, make([]uint64, x.n), x.b)
	}
}

func TestEncodeEverySort(t *testing.T) {
	for s, room := range rooms {
		count, full := room[0], uint64(1)<<room[1]-1
		l := repeated(full, count) // one word, all of its room taken
		wantPair(t, l, wordOf(s, l...))
		if s == 1 {
			continue // twice as many noughts are a word of the sort 0
		}
		wantPair(t, slices.Concat(l, l), wordsOf(wordOf(s, l...), wordOf(s, l...)))
		for place := range count { // each number has a place of its own
			l := make([]uint64, count)
			l[place] = full
			wantPair(t, l, wordOf(s, l...))
		}
	}
	l := slices.Concat(make([]uint64, 120), []uint64{1}, make([]uint64, 119)) // the sort 1 though 240 are left
	wantPair(t, l, wordsOf(wordOf(1, l[:120]...), wordOf(2, l[120:180]...), encodeByWords(l[180:])))
}

func TestEncodeTheLeastSortThatFits(t *testing.T) {
	for s, room := range rooms[:15] {
		count, width := room[0], room[1]
		for place := range count { // one number that needs one bit too many, at the edge of what fits
			l := make([]uint64, count)
			l[place] = 1 << width
			b, e := Encode(l)
			if e != api.OK || !bytes.Equal(b, encodeByWords(l)) || int(b[0]>>4) <= s {
				t.Errorf("Encode(%v): %v, %v", l, b, e)
			}
		}
		l := repeated(uint64(1)<<width-1, count) // behind the word it may be as great as it will
		first := wordOf(s, l...)
		wantPair(t, append(l, most60), wordsOf(first, wordOf(15, most60)))
		if count > 1 { // one number too few
			b, _ := Encode(l[1:])
			if int(b[0]>>4) <= s {
				t.Errorf("Encode(%v): %v", l[1:], b)
			}
			wantPair(t, l[1:], encodeByWords(l[1:]))
		}
	}
}

func TestEncodeNumbersOfEveryWidth(t *testing.T) {
	for width := range 61 {
		for n := 1; n < 260; n += 1 + n/9 {
			l := repeated(uint64(1)<<width-1, n)
			wantPair(t, l, encodeByWords(l))
		}
	}
}

func TestEncodeSomeNumbers(t *testing.T) {
	r := rand.New(rand.NewSource(61))
	for range 500 {
		l := someNumbers(r, r.Intn(700))
		wantPair(t, l, encodeByWords(l))
	}
}

func TestEncodeTheMostNumbers(t *testing.T) {
	n := api.MaxSamples
	noughts := make([]byte, 273*8) // 273 words of 240 noughts, and 16 noughts more
	wantPair(t, make([]uint64, n), wordsOf(noughts, wordOf(5, make([]uint64, 15)...), wordOf(15, 0)))
	wantPair(t, repeated(most60, n), slices.Repeat([]byte{255}, 8*n))
	r := rand.New(rand.NewSource(62))
	for _, n := range []int{n - 1, n} {
		l := someNumbers(r, n)
		wantPair(t, l, encodeByWords(l))
	}
}

func TestEncodeMoreThanTheMost(t *testing.T) {
	for _, n := range []int{api.MaxSamples + 1, api.MaxSamples + 2, 2 * api.MaxSamples} {
		for _, v := range []uint64{0, 7, most60, most60 + 1, math.MaxUint64} {
			wantNotEncoded(t, repeated(v, n), api.ErrLong)
		}
		l := make([]uint64, n)
		l[0] = 1 << 60 // two errors, of which the first one named is told
		wantNotEncoded(t, l, api.ErrLong)
	}
}

func TestEncodeNumbersOfTooManyBits(t *testing.T) {
	for _, v := range []uint64{1 << 60, 1<<60 + 1, 1<<61 - 1, 1 << 61, 1 << 63, math.MaxUint64} {
		wantNotEncoded(t, []uint64{v}, api.ErrArg)
		wantNotEncoded(t, []uint64{v, 0, 0}, api.ErrArg)
		wantNotEncoded(t, []uint64{0, 0, v}, api.ErrArg)
		wantNotEncoded(t, append(make([]uint64, 240), v), api.ErrArg)
		wantNotEncoded(t, append(make([]uint64, api.MaxSamples-1), v), api.ErrArg)
	}
}

// P6.2

func TestDecodeByWrongNumbers(t *testing.T) {
	for _, b := range [][]byte{nil, {1}, make([]byte, 8), wordOf(15, 1), make([]byte, 8*1000)} {
		for _, n := range []int{-1, -2, -240, math.MinInt, 65537, 65538, 1 << 30, math.MaxInt} {
			wantNone(t, b, n, api.ErrArg)
		}
	}
}

func TestDecodeWordsThatEndTooEarly(t *testing.T) {
	wantNone(t, nil, 1, api.ErrShort)
	wantNone(t, []byte{}, 1, api.ErrShort)
	wantNone(t, nil, api.MaxSamples, api.ErrShort)
	for s, room := range rooms {
		l := repeated(uint64(1)<<room[1]-1, room[0])
		b := wordOf(s, l...)
		for _, n := range []int{room[0] + 1, room[0] + 2, 2 * room[0], api.MaxSamples} {
			wantNone(t, b, n, api.ErrShort)
			wantNone(t, behind(b, 1), n, api.ErrShort)
		}
		for size := range 8 { // within the word, whichever numbers of it are asked for
			wantNone(t, b[:size], 1, api.ErrShort)
			wantNone(t, b[:size], room[0], api.ErrShort)
			wantNone(t, wordsOf(b, b[:size]), room[0]+1, api.ErrShort)
		}
	}
}

func TestDecodeWordsThatEndTooEarlyAndAreWrong(t *testing.T) {
	one := wordOf(15, 1)
	wantNone(t, wordsOf(one, one), 2, api.ErrForm) // one word of the sort 14 would have both
	wantNone(t, wordsOf(one, one), 3, api.ErrShort)
	wantNone(t, wordsOf(one, one, one[:7]), 3, api.ErrShort)
	unused := []byte{144, 0, 0, 0, 0, 0, 0, 1}
	wantNone(t, unused, 7, api.ErrForm)
	wantNone(t, unused, 8, api.ErrShort)
	wantNone(t, wordsOf(unused, one[:5]), 8, api.ErrShort)
}

func TestDecodeBytesBehindTheLastWord(t *testing.T) {
	for size := 1; size < 20; size++ {
		wantNone(t, make([]byte, size), 0, api.ErrForm) // no word is needed
		wantNone(t, behind(make([]byte, 8), make([]byte, size)...), 240, api.ErrForm)
	}
	for s, room := range rooms {
		b := wordOf(s, repeated(uint64(1)<<room[1]-1, room[0])...)
		wantNone(t, behind(b, 0), room[0], api.ErrForm)
		wantNone(t, wordsOf(b, b), room[0], api.ErrForm)
		wantNone(t, wordsOf(b, b[:7]), room[0], api.ErrForm)
	}
}

func TestDecodeWordsOfMoreNumbers(t *testing.T) {
	for s, room := range rooms[:15] {
		b := wordOf(s, repeated(uint64(1)<<room[1]-1, room[0])...)
		for n := range room[0] {
			wantNone(t, b, n, api.ErrForm)
			wantNone(t, wordOf(s), n, api.ErrForm) // though what is too much be noughts
			wantNone(t, wordsOf(wordOf(15, most60), b), n, api.ErrForm)
		}
	}
	wantNone(t, make([]byte, 274*8), api.MaxSamples, api.ErrForm) // 273 words have fewer, 274 have more
	wantNone(t, make([]byte, 273*8), api.MaxSamples, api.ErrShort)
}

func TestDecodeUnusedBits(t *testing.T) {
	for s, room := range rooms {
		full := wordOf(s, repeated(uint64(1)<<room[1]-1, room[0])...)
		for unused := range 60 - room[0]*room[1] {
			b := slices.Clone(full)
			b[7-unused/8] |= 1 << (unused % 8)
			wantNone(t, b, room[0], api.ErrForm)
		}
	}
}

func TestDecodeOtherSortsThanTheLeast(t *testing.T) {
	wantNone(t, wordsOf(wordOf(1), wordOf(1)), 240, api.ErrForm)
	for s, room := range rooms {
		if s == 0 {
			continue
		}
		count := rooms[s-1][0]
		var b []byte // as many as the sort below has, all so small, in words of the sort s where they fill one
		for count >= room[0] {
			b = append(b, wordOf(s)...)
			count -= room[0]
		}
		b = append(b, encodeByWords(make([]uint64, count))...)
		wantNone(t, b, rooms[s-1][0], api.ErrForm)
		wantDecoded(t, wordOf(s), room[0], make([]uint64, room[0]))
	}
	wantNone(t, wordsOf(wordOf(15, 1), wordOf(13, 1, 2, 3)), 4, api.ErrForm)
	wantDecoded(t, wordOf(12, 1, 1, 2, 3), 4, []uint64{1, 1, 2, 3})
}

func TestDecodeFewBytesAsTheWordsSay(t *testing.T) {
	for first := range 256 {
		for size := range 18 {
			b := make([]byte, size)
			if size > 0 {
				b[0] = byte(first)
			}
			for n := -1; n < 20; n++ {
				wantAsByWords(t, b, n)
			}
			for _, n := range []int{30, 60, 119, 120, 121, 239, 240, 241, 480, 65536, 65537} {
				wantAsByWords(t, b, n)
			}
		}
	}
}

func TestDecodeTurnedBytesAsTheWordsSay(t *testing.T) {
	r := rand.New(rand.NewSource(63))
	for range 1500 {
		l := someNumbers(r, 1+r.Intn(400))
		b, _ := Encode(l)
		for n := len(l) - 2; n <= len(l)+2; n++ {
			wantAsByWords(t, b, n)
			turned := slices.Clone(b)
			turned[r.Intn(len(b))] ^= 1 << r.Intn(8)
			wantAsByWords(t, turned, n)
			wantAsByWords(t, b[:r.Intn(len(b)+1)], n)
			wantAsByWords(t, behind(b, byte(r.Intn(2))), n)
		}
	}
}

// P6.3

func TestThereAndBack(t *testing.T) {
	r := rand.New(rand.NewSource(64))
	for _, n := range []int{0, 1, 2, 3, 59, 60, 61, 239, 240, 241, 5000, api.MaxSamples - 1, api.MaxSamples} {
		for range 5 {
			l := someNumbers(r, n)
			b, e := Encode(l)
			if e != api.OK {
				t.Fatalf("Encode of %d numbers: %v", n, e)
			}
			if back, e := Decode(b, n); !slices.Equal(back, l) || e != api.OK {
				t.Errorf("%d numbers are not themselves again: %v", n, e)
			}
		}
	}
}

func TestBytesThatAreDecodedAreThoseEncoded(t *testing.T) {
	r := rand.New(rand.NewSource(65))
	decoded := 0
	for range 100000 {
		b := make([]byte, 8*(1+r.Intn(2)))
		r.Read(b)
		n := 0
		for i := 0; i < len(b); i += 8 {
			b[i+7] &= 240 // else the sorts 8 and 9 are met too seldom
			n += rooms[b[i]>>4][0]
		}
		l, e := Decode(b, n)
		if e != api.OK {
			continue
		}
		decoded++
		if len(l) != n {
			t.Errorf("Decode(%v, %d): %d numbers", b, n, len(l))
		}
		wantEncoded(t, l, b)
	}
	if decoded < 10000 {
		t.Errorf("only %d were decoded", decoded)
	}
}

// R3

func TestTheEncodedListIsNeitherChangedNorKept(t *testing.T) {
	room := []uint64{1, 2, 3, 99, 98}
	b, _ := Encode(room[:3])
	if !slices.Equal(room, []uint64{1, 2, 3, 99, 98}) {
		t.Errorf("Encode changes what it is handed: %v", room)
	}
	want := slices.Clone(b)
	clear(room)
	if !bytes.Equal(b, want) {
		t.Errorf("Encode keeps what it is handed: %v", b)
	}
	clear(b)
	wantEncoded(t, []uint64{1, 2, 3}, want)
	wrong := []uint64{1, 1 << 60, 3, 99}
	Encode(wrong[:3])
	if !slices.Equal(wrong, []uint64{1, 1 << 60, 3, 99}) {
		t.Errorf("Encode changes what it refuses: %v", wrong)
	}
}

func TestTheDecodedBytesAreNeitherChangedNorKept(t *testing.T) {
	bytes123 := wordOf(13, 1, 2, 3)
	room := behind(bytes123, 99, 98)
	l, _ := Decode(room[:8], 3)
	if !bytes.Equal(room, behind(bytes123, 99, 98)) {
		t.Errorf("Decode changes what it is handed: %v", room)
	}
	clear(room)
	if !slices.Equal(l, []uint64{1, 2, 3}) {
		t.Errorf("Decode keeps what it is handed: %v", l)
	}
	clear(l)
	wantDecoded(t, bytes123, 3, []uint64{1, 2, 3})
	wrong := behind(bytes123, 99)
	for _, n := range []int{-1, 2, 3, 4} {
		if Decode(wrong, n); !bytes.Equal(wrong, behind(bytes123, 99)) {
			t.Errorf("Decode changes what it refuses: %v", wrong)
		}
	}
}
