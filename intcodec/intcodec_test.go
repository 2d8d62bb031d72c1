package intcodec

import (
	"bytes"
	"math"
	"math/big"
	"math/rand"
	"slices"
	"testing"

	"casket/api"
	"casket/cursor"
	"casket/forpack"
	"casket/runs"
	"casket/simple"
)

const ways = 5

// edges are ints at which something turns: a varint's size, simple's 60 bits, the ends of all.
var edges = []int{
	0, 1, -1, 63, 64, -64, -65, 8191, 8192, 1 << 48, 1<<48 - 1, 1 << 55, 1<<55 - 1, -1 << 55, -1<<55 - 1,
	1<<59 - 1, 1 << 59, -1 << 59, -1<<59 - 1, 1<<62 - 1, 1 << 62, -1 << 62,
	math.MaxInt - 1, math.MaxInt, math.MinInt + 1, math.MinInt,
}

func wantWay(t *testing.T, l []int, tag int, want []byte) {
	t.Helper()
	if got, e := Way(l, tag); !bytes.Equal(got, want) || e != api.OK {
		t.Errorf("Way(%v, %d): %v, %v; want %v, OK", l, tag, got, e, want)
	}
}

func wantNoWay(t *testing.T, l []int, tag int, want api.Errno) {
	t.Helper()
	if got, e := Way(l, tag); got != nil || e != want {
		t.Errorf("Way(%d ints, %d): %d bytes, %v; want nil, %v", len(l), tag, len(got), e, want)
	}
}

func wantEncoded(t *testing.T, l []int, want []byte) {
	t.Helper()
	if got, e := Encode(l); !bytes.Equal(got, want) || e != api.OK {
		t.Errorf("Encode(%v): %v, %v; want %v, OK", l, got, e, want)
	}
}

func wantDecoded(t *testing.T, b []byte, n int, want []int) {
	t.Helper()
	if got, e := Decode(b, n); !slices.Equal(got, want) || e != api.OK {
		t.Errorf("Decode(%v, %d): %v, %v; want %v, OK", b, n, got, e, want)
	}
}

// wantPair says that b is l's Encode, and l is b's Decode.
func wantPair(t *testing.T, l []int, b []byte) {
	t.Helper()
	wantEncoded(t, l, b)
	wantDecoded(t, b, len(l), l)
}

func wantNone(t *testing.T, b []byte, n int, want api.Errno) {
	t.Helper()
	if got, e := Decode(b, n); got != nil || e != want {
		t.Errorf("Decode(%v, %d): %v, %v; want nil, %v", b, n, got, e, want)
	}
}

func behind(b []byte, more ...byte) []byte { return slices.Concat(b, more) }

func repeated(v, n int) []int { return slices.Repeat([]int{v}, n) }

// made are n ints, each told by its place.
func made(n int, at func(int) int) []int {
	l := make([]int, n)
	for i := range l {
		l[i] = at(i)
	}
	return l
}

// zigByWords is chapter 2's Zig: 2 n, or -2 n - 1.
func zigByWords(n int) uint64 {
	v := new(big.Int).Mul(big.NewInt(2), big.NewInt(int64(n)))
	if n < 0 {
		v.Sub(v.Neg(v), big.NewInt(1))
	}
	return v.Uint64()
}

// zagByWords: an even one is twice a number, an odd one is -2 n - 1.
func zagByWords(v uint64) int {
	if v%2 == 0 {
		return int(v / 2)
	}
	return -int(v/2) - 1
}

// varintByWords is chapter 2's varint: groups of seven bits, the lowest first.
func varintByWords(v uint64) []byte {
	if v < 128 {
		return []byte{byte(v)}
	}
	return behind([]byte{byte(v%128) + 128}, varintByWords(v/128)...)
}

// betweenByWords are the Zigs of chapter 4's Diff by 1 or by 2, each told by its place.
func betweenByWords(l []int, k int) []uint64 {
	var out []uint64
	for i, v := range l {
		switch {
		case i == 0:
		case k == 1 || i == 1:
			v -= l[i-1]
		default:
			v = v - 2*l[i-1] + l[i-2]
		}
		out = append(out, zigByWords(v))
	}
	return out
}

// wayByWords are the chapter's words for one way of at most MaxSamples ints.
func wayByWords(l []int, tag int) ([]byte, api.Errno) {
	var out []byte
	if len(l) == 0 {
		return nil, api.OK
	}
	switch tag {
	case 0:
		for _, v := range l {
			for shift := 56; shift >= 0; shift -= 8 {
				out = append(out, byte(v>>shift))
			}
		}
		return out, api.OK
	case 1:
		for _, v := range betweenByWords(l, 1) {
			out = append(out, varintByWords(v)...)
		}
		return out, api.OK
	case 2:
		z := betweenByWords(l, 1)
		others, e := forpack.Pack(z[1:])
		return behind(varintByWords(z[0]), others...), e
	case 3:
		z := betweenByWords(l, 2)
		others, e := simple.Encode(z[1:])
		if e != api.OK {
			return nil, e
		}
		return behind(varintByWords(z[0]), others...), e
	default:
		z := betweenByWords(l, 2)
		others, e := runs.Encode(z[1:])
		return behind(varintByWords(z[0]), others...), e
	}
}

// encodeByWords is P8.2 word for word, of at most MaxSamples ints.
func encodeByWords(l []int) []byte {
	var all [][]byte
	for tag := range ways {
		if b, e := wayByWords(l, tag); e == api.OK {
			all = append(all, behind([]byte{byte(tag)}, b...))
		}
	}
	return slices.MinFunc(all, func(a, b []byte) int { return len(a) - len(b) }) // of several the first
}

// readByWords are the ints of a way's bytes, what is left behind them, and its error.
func readByWords(b []byte, n, tag int) (l []int, left int, e api.Errno) {
	if n == 0 {
		return nil, len(b), api.OK
	}
	c := cursor.New(b)
	var z []uint64
	for (tag == 1 || len(z) == 0) && tag != 0 && len(z) < n {
		v, e := c.Varint()
		if e != api.OK {
			return nil, 0, e
		}
		z = append(z, v)
	}
	for tag == 0 && len(l) < n {
		v, e := c.Fixed(8)
		if e != api.OK {
			return nil, 0, e
		}
		l = append(l, int(v))
	}
	if tag < 2 {
		return slices.Concat(l, sumsByWords(z, 1)), c.Left(), api.OK
	}
	rest, _ := c.Bytes(c.Left())
	others, e := []func([]byte, int) ([]uint64, api.Errno){forpack.Unpack, simple.Decode, runs.Decode}[tag-2](rest, n-1)
	return sumsByWords(append(z, others...), []int{1, 2, 2}[tag-2]), 0, e
}

// sumsByWords is betweenByWords, the other way round.
func sumsByWords(z []uint64, k int) []int {
	var l []int
	for i, v := range z {
		d := zagByWords(v)
		switch {
		case i == 0:
		case k == 1 || i == 1:
			d += l[i-1]
		default:
			d += 2*l[i-1] - l[i-2]
		}
		l = append(l, d)
	}
	return l
}

// decodeByWords is P8.3 word for word, one reason behind the other.
func decodeByWords(b []byte, n int) ([]int, api.Errno) {
	if n < 0 || n > 65536 {
		return nil, api.ErrArg
	}
	if len(b) == 0 {
		return nil, api.ErrShort
	}
	if b[0] > 4 {
		return nil, api.ErrForm
	}
	l, left, e := readByWords(b[1:], n, int(b[0]))
	if e != api.OK {
		return nil, e
	}
	if left > 0 || !bytes.Equal(encodeByWords(l), b) {
		return nil, api.ErrForm
	}
	return l, api.OK
}

func wantAsByWords(t *testing.T, b []byte, n int) (decoded bool) {
	t.Helper()
	want, wantError := decodeByWords(b, n)
	got, e := Decode(b, n)
	if !slices.Equal(got, want) || e != wantError || e != api.OK && got != nil {
		t.Errorf("Decode(%v, %d): %v, %v; want %v, %v", b, n, got, e, want, wantError)
	}
	return e == api.OK
}

func wantWaysAsByWords(t *testing.T, l []int) {
	t.Helper()
	for tag := range ways {
		want, wantError := wayByWords(l, tag)
		if got, e := Way(l, tag); !bytes.Equal(got, want) || e != wantError || e != api.OK && got != nil {
			t.Errorf("Way(%v, %d): %v, %v; want %v, %v", l, tag, got, e, want, wantError)
		}
	}
	wantPair(t, l, encodeByWords(l))
}

// someInts are steady, nearly so, small, great, or go round; now and then an edge stands among them.
func someInts(r *rand.Rand, n int) []int {
	l := make([]int, n)
	width := r.Intn(64)
	some := func() int { return int(r.Uint64()>>r.Intn(64)) >> width }
	v, step, kind := some(), some(), r.Intn(5)
	every := 1 + r.Intn(40)
	for i := range l {
		l[i] = v
		switch {
		case kind == 0: // each for itself
			v = some()
		case kind == 1: // a step that seldom turns
			if r.Intn(every) == 0 {
				step = some()
			}
		case kind == 2: // a step that turns a little
			step += r.Intn(4) - 1
		case kind == 3: // a step that grows evenly
			step += every
		case r.Intn(every) == 0:
			v = edges[r.Intn(len(edges))]
		}
		v += step
	}
	return l
}

// each is, for each way, a list for which Encode takes it, and what Encode writes.
func each() [ways]struct {
	l []int
	b []byte
} {
	return [ways]struct {
		l []int
		b []byte
	}{
		{[]int{math.MinInt, 0}, []byte{0, 128, 0, 0, 0, 0, 0, 0, 0, 0, 0, 0, 0, 0, 0, 0, 0}},
		{[]int{3, -100, 400}, []byte{1, 6, 205, 1, 232, 7}},
		{[]int{10, 20, 30, 40}, []byte{2, 20, 20, 0}},
		// steps 1 1 2 2 3 3 ..: what lies between them is 1 0 1 0 .., as Zigs thirty times two bits
		{made(31, func(i int) int { return (i + 1) / 2 * ((i + 2) / 2) }), []byte{3, 0, 56, 136, 136, 136, 136, 136, 136, 136}},
		{made(100, func(i int) int { return i * (i + 1) / 2 }), []byte{4, 0, 2, 98}},
	}
}

// P8.1

func TestWayOfTwoInts(t *testing.T) {
	wantWay(t, []int{3, 4}, 0, []byte{0, 0, 0, 0, 0, 0, 0, 3, 0, 0, 0, 0, 0, 0, 0, 4})
	wantWay(t, []int{3, 4}, 1, []byte{6, 2})
	wantWay(t, []int{3, 4}, 2, []byte{6, 2, 0})
	wantWay(t, []int{3, 4}, 3, []byte{6, 240, 0, 0, 0, 0, 0, 0, 2})
	wantWay(t, []int{3, 4}, 4, []byte{6, 2, 0})
}

func TestWayOfOrdinaryInts(t *testing.T) {
	l := []int{-2, 300, 302, 305}
	wantWay(t, l, 0, []byte{
		255, 255, 255, 255, 255, 255, 255, 254, 0, 0, 0, 0, 0, 0, 1, 44,
		0, 0, 0, 0, 0, 0, 1, 46, 0, 0, 0, 0, 0, 0, 1, 49,
	})
	wantWay(t, l, 1, []byte{3, 220, 4, 4, 6})
	// 604 4 6 above 4: 600 0 2, of ten bits each
	wantWay(t, l, 2, []byte{3, 4, 10, 0b10010110, 0b00000000, 0b00000000, 0b00001000})
	// 604, and of what lies between the steps 302 2 3, -300 and 1: 599 and 2
	wantWay(t, l, 3, []byte{3, 208, 2, 92, 0, 37, 112, 0, 2})
	wantWay(t, l, 4, []byte{3, 220, 4, 0, 215, 4, 0, 2, 0})
}

func TestWayOfNoInts(t *testing.T) {
	for tag := range ways {
		wantWay(t, nil, tag, nil)
		wantWay(t, []int{}, tag, nil)
	}
}

func TestWayOfOneInt(t *testing.T) {
	wantWay(t, []int{5}, 0, []byte{0, 0, 0, 0, 0, 0, 0, 5})
	wantWay(t, []int{5}, 1, []byte{10})
	wantWay(t, []int{5}, 2, []byte{10, 0, 0}) // forpack writes two bytes of none
	wantWay(t, []int{5}, 3, []byte{10})
	wantWay(t, []int{5}, 4, []byte{10})
	for _, v := range edges {
		z := varintByWords(zigByWords(v))
		wantWay(t, []int{v}, 1, z)
		wantWay(t, []int{v}, 2, behind(z, 0, 0))
		wantWay(t, []int{v}, 3, z) // the first one may have more than 60 bits
		wantWay(t, []int{v}, 4, z)
	}
}

func TestWayOfTheLeastAndTheGreatestInt(t *testing.T) {
	all := slices.Repeat([]byte{255}, 7)
	least, greatest := []byte{128, 0, 0, 0, 0, 0, 0, 0}, behind([]byte{127}, all...)
	zigLeast := behind(all, 255, 255, 1)                // 2^64 - 1
	zigGreatest := behind([]byte{254}, zigLeast[1:]...) // 2^64 - 2
	wantWay(t, []int{math.MinInt}, 0, least)
	wantWay(t, []int{math.MinInt}, 1, zigLeast)
	wantWay(t, []int{math.MaxInt}, 0, greatest)
	wantWay(t, []int{math.MaxInt}, 1, zigGreatest)
	wantWay(t, []int{-1}, 0, behind(all, 255))

	up := []int{math.MinInt, math.MaxInt} // ints go round: -1 lies between them
	wantWay(t, up, 0, slices.Concat(least, greatest))
	wantWay(t, up, 1, behind(zigLeast, 1))
	wantWay(t, up, 2, behind(zigLeast, 1, 0))
	wantWay(t, up, 3, behind(zigLeast, 240, 0, 0, 0, 0, 0, 0, 1))
	wantWay(t, up, 4, behind(zigLeast, 1, 0))
	down := []int{math.MaxInt, math.MinInt}
	wantWay(t, down, 0, slices.Concat(greatest, least))
	wantWay(t, down, 1, behind(zigGreatest, 2))
	wantWay(t, down, 4, behind(zigGreatest, 2, 0))

	turns := []int{math.MaxInt, math.MinInt, math.MaxInt, math.MinInt} // steps 1 -1 1
	wantWay(t, turns, 2, behind(zigGreatest, 1, 1, 0b10100000))
	wantWay(t, turns, 4, behind(zigGreatest, 2, 0, 3, 0, 4, 0))
	for _, a := range edges {
		for _, b := range edges {
			wantWaysAsByWords(t, []int{a, b})
			wantWaysAsByWords(t, []int{a, b, a})
			wantWaysAsByWords(t, []int{a, a, b, b})
			wantWaysAsByWords(t, []int{0, a, b, 7, a})
		}
	}
}

func TestWayThatNumbersDoNotFit(t *testing.T) {
	for _, fits := range []int{1 << 58, 1<<59 - 1, -1 << 59} { // Zigs of at most 60 bits
		wantWay(t, []int{0, fits}, 3, behind([]byte{0}, cursor.Fix(15<<60|zigByWords(fits), 8)...))
		wantWay(t, []int{-fits, 0}, 3, behind(varintByWords(zigByWords(-fits)), cursor.Fix(15<<60|zigByWords(fits), 8)...))
	}
	for _, wide := range []int{1 << 59, -1<<59 - 1, 1 << 60, 1 << 62, -1 << 62, math.MaxInt, math.MinInt} {
		wantNoWay(t, []int{0, wide}, 3, api.ErrArg)
		wantNoWay(t, []int{7, 7 + wide}, 3, api.ErrArg)
		wantNoWay(t, []int{0, 0, 0, wide}, 3, api.ErrArg)
		wantNoWay(t, append(make([]int, api.MaxSamples-1), wide), 3, api.ErrArg)
		wantNoWay(t, []int{-wide, 0}, 3, api.ErrArg) // what lies behind the first one does not fit
		for _, tag := range []int{0, 1, 2, 4} {
			want, _ := wayByWords([]int{0, wide}, tag)
			wantWay(t, []int{0, wide}, tag, want)
		}
	}
	// the steps fit, what lies between them does not
	wantNoWay(t, []int{0, -1 << 58, 1 << 58, 0}, 3, api.ErrArg)
}

func TestWayByWrongTags(t *testing.T) {
	lists := [][]int{nil, {}, {5}, {1, 2, 3}, {0, math.MinInt}, make([]int, api.MaxSamples), make([]int, api.MaxSamples+1)}
	for _, tag := range []int{-1, -2, math.MinInt, 5, 6, 255, 256, 257, 1 << 32, math.MaxInt} {
		for _, l := range lists {
			wantNoWay(t, l, tag, api.ErrArg)
		}
	}
}

func TestWayOfMoreThanTheMost(t *testing.T) {
	for tag := range ways {
		for _, n := range []int{api.MaxSamples + 1, api.MaxSamples + 2, 2 * api.MaxSamples, 1 << 20} {
			wantNoWay(t, make([]int, n), tag, api.ErrLong)
			wantNoWay(t, append(make([]int, n-1), math.MinInt), tag, api.ErrLong) // ahead of simple's error
		}
	}
}

func TestWayOfTheMost(t *testing.T) {
	n := api.MaxSamples
	steady := made(n, func(i int) int { return 1000*i + 3 })
	wantWay(t, steady, 0, written(wayByWords(steady, 0)))
	wantWay(t, steady, 1, behind([]byte{6}, bytes.Repeat([]byte{208, 15}, n-1)...))
	wantWay(t, steady, 2, []byte{6, 208, 15, 0})
	wantWay(t, steady, 3, written(wayByWords(steady, 3)))
	wantWay(t, steady, 4, []byte{6, 208, 15, 0, 0, 253, 255, 3})
	turning := made(n, func(i int) int { return i % 2 * math.MinInt })
	wantWay(t, turning, 1, behind([]byte{0}, bytes.Repeat(varintByWords(math.MaxUint64), n-1)...))
	wantNoWay(t, turning, 3, api.ErrArg)
}

// written is for ways that have no error.
func written(b []byte, _ api.Errno) []byte { return b }

func TestWayOfSomeInts(t *testing.T) {
	r := rand.New(rand.NewSource(81))
	for range 3000 {
		wantWaysAsByWords(t, someInts(r, r.Intn(200)))
	}
}

// P8.2

func TestEncodeTakesEachWay(t *testing.T) {
	for tag, x := range each() {
		if int(x.b[0]) != tag {
			t.Fatalf("the list of way %d is of another way", tag)
		}
		wantPair(t, x.l, x.b)
		wantWay(t, x.l, tag, x.b[1:])
	}
	hundred := made(100, func(i int) int { return 1000 * i })
	wantPair(t, hundred, []byte{2, 0, 208, 15, 0})
	wantPair(t, []int{10, 11, 13}, []byte{1, 20, 2, 4})
}

func TestEncodeOfWaysAsShortTheLeast(t *testing.T) {
	for _, x := range []struct {
		l    []int
		both [2]int // none takes fewer bytes than these
		b    []byte
	}{
		{[]int{1 << 52}, [2]int{0, 1}, []byte{0, 0, 16, 0, 0, 0, 0, 0, 0}},
		{steps(math.MinInt, 0, 1<<58, -1<<58, 1<<58, -1<<58, 1<<58, -1<<58, 1<<58), [2]int{0, 2}, nil},
		{steps(1<<52, 1<<58), [2]int{0, 3}, []byte{0, 0, 16, 0, 0, 0, 0, 0, 0, 4, 16, 0, 0, 0, 0, 0, 0}},
		{steps(math.MinInt, 1<<62, 1<<62+5000), [2]int{0, 4}, nil},
		{[]int{10, 20, 30}, [2]int{1, 2}, []byte{1, 20, 20, 20}},
		{[]int{1, 2, 3, 5, 8}, [2]int{1, 2}, []byte{1, 2, 2, 2, 4, 6}},
		{steps(0, 63, 0, 63, 0, 63, 0, 63, 0), [2]int{1, 3}, []byte{1, 0, 126, 0, 126, 0, 126, 0, 126, 0}},
		{[]int{5}, [2]int{1, 4}, []byte{1, 10}},
		{[]int{0, 1, 3}, [2]int{1, 4}, []byte{1, 0, 2, 4}},
		{steps(0, 7, 0, 7, 0, 7, 0, 7, 0, 7, 0, 7, 0), [2]int{2, 3}, []byte{2, 0, 0, 4, 224, 224, 224, 224, 224, 224}},
		{[]int{7, 7, 7, 7}, [2]int{2, 4}, []byte{2, 14, 0, 0}},
		{repeated(7, 130), [2]int{2, 2}, []byte{2, 14, 0, 0}},
		{steps(0, slices.Concat([]int{1, 2, 3, 4, 5, 6, 7}, repeated(8, 9), []int{9, 10, 11, 12, 13, 14}, repeated(15, 8))...),
			[2]int{3, 4}, []byte{3, 0, 58, 170, 160, 0, 10, 170, 128, 0}},
	} {
		least := math.MaxInt
		for tag := range ways {
			if b, e := wayByWords(x.l, tag); e == api.OK {
				least = min(least, len(b))
			}
		}
		for _, tag := range x.both {
			if b, e := Way(x.l, tag); len(b) != least || e != api.OK {
				t.Errorf("Way(%v, %d): %d bytes, %v; want %d", x.l, tag, len(b), e, least)
			}
		}
		if x.b == nil {
			x.b = behind([]byte{byte(x.both[0])}, written(wayByWords(x.l, x.both[0]))...)
		}
		wantPair(t, x.l, x.b)
	}
}

// steps are first, and ints that lie so far behind the one ahead.
func steps(first int, apart ...int) []int {
	l := []int{first}
	for _, d := range apart {
		l = append(l, l[len(l)-1]+d)
	}
	return l
}

func TestEncodeNoInts(t *testing.T) {
	wantPair(t, nil, []byte{0})
	wantPair(t, []int{}, []byte{0})
}

func TestEncodeOneInt(t *testing.T) {
	wantPair(t, []int{0}, []byte{1, 0})
	wantPair(t, []int{5}, []byte{1, 10})
	wantPair(t, []int{-1}, []byte{1, 1})
	wantPair(t, []int{1<<48 - 1}, []byte{1, 254, 255, 255, 255, 255, 255, 127}) // seven bytes are fewer than eight
	wantPair(t, []int{1 << 48}, []byte{0, 0, 1, 0, 0, 0, 0, 0, 0})              // and eight are not
	wantPair(t, []int{-1 << 48}, []byte{1, 255, 255, 255, 255, 255, 255, 127})
	wantPair(t, []int{-1<<48 - 1}, []byte{0, 255, 254, 255, 255, 255, 255, 255, 255})
	wantPair(t, []int{math.MinInt}, []byte{0, 128, 0, 0, 0, 0, 0, 0, 0})
	wantPair(t, []int{math.MaxInt}, []byte{0, 127, 255, 255, 255, 255, 255, 255, 255})
	for _, v := range edges {
		wantPair(t, []int{v}, encodeByWords([]int{v}))
	}
}

func TestEncodeTwoInts(t *testing.T) {
	wantPair(t, []int{3, 4}, []byte{1, 6, 2})
	wantPair(t, []int{4, 3}, []byte{1, 8, 1})
	wantPair(t, []int{math.MaxInt, math.MinInt}, []byte{1, 254, 255, 255, 255, 255, 255, 255, 255, 255, 1, 2})
	wantPair(t, []int{math.MinInt, math.MaxInt}, []byte{1, 255, 255, 255, 255, 255, 255, 255, 255, 255, 1, 1})
	wantPair(t, []int{0, math.MinInt}, []byte{1, 0, 255, 255, 255, 255, 255, 255, 255, 255, 255, 1})
}

func TestEncodeWhereAWayHasAnError(t *testing.T) {
	// way 3 has an error, and nothing of it is as short as nothing
	l := steps(0, repeated(1<<59, 50)...)
	wantNoWay(t, l, 3, api.ErrArg)
	wantPair(t, l, behind(behind([]byte{2, 0}, varintByWords(1<<60)...), 0))
	l = made(40, func(i int) int { return i % 2 * math.MinInt })
	wantNoWay(t, l, 3, api.ErrArg)
	wantPair(t, l, behind(behind([]byte{2, 0}, varintByWords(math.MaxUint64)...), 0))
}

func TestEncodeTheMost(t *testing.T) {
	n := api.MaxSamples
	wantPair(t, make([]int, n), []byte{2, 0, 0, 0})
	wantPair(t, repeated(-7, n), []byte{2, 13, 0, 0})
	wantPair(t, made(n, func(i int) int { return 1000 * i }), []byte{2, 0, 208, 15, 0})
	wantPair(t, made(n, func(i int) int { return i * (i + 1) / 2 }), []byte{4, 0, 2, 254, 255, 3})
	r := rand.New(rand.NewSource(82))
	wide := made(n, func(int) int { return int(r.Uint64()) })
	wantPair(t, wide, behind([]byte{0}, written(wayByWords(wide, 0))...))
	for range 6 {
		l := someInts(r, n)
		wantPair(t, l, encodeByWords(l))
	}
}

func TestEncodeMoreThanTheMost(t *testing.T) {
	for _, n := range []int{api.MaxSamples + 1, api.MaxSamples + 2, 2 * api.MaxSamples, 1 << 20} {
		for _, v := range []int{0, 7, math.MinInt} {
			if got, e := Encode(repeated(v, n)); got != nil || e != api.ErrLong {
				t.Errorf("Encode of %d ints: %d bytes, %v; want nil, ErrLong", n, len(got), e)
			}
		}
	}
}

// P8.3

func TestDecodeByWrongNumbers(t *testing.T) {
	for _, b := range [][]byte{nil, {}, {0}, {1}, {5}, {255}, {1, 10}, {1, 128}, {2, 20, 20, 0}, {4, 0, 2, 98}} {
		for _, n := range []int{-1, -2, math.MinInt, api.MaxSamples + 1, api.MaxSamples + 2, 1 << 32, math.MaxInt} {
			wantNone(t, b, n, api.ErrArg)
		}
	}
}

func TestDecodeNoBytes(t *testing.T) {
	for _, n := range []int{0, 1, 2, 100, api.MaxSamples} {
		wantNone(t, nil, n, api.ErrShort)
		wantNone(t, []byte{}, n, api.ErrShort)
	}
}

func TestDecodeAFirstByteThatIsNoTag(t *testing.T) {
	for tag := ways; tag < 256; tag++ {
		for _, n := range []int{0, 1, 4, api.MaxSamples} {
			wantNone(t, []byte{byte(tag)}, n, api.ErrForm)
			wantNone(t, []byte{byte(tag), 10}, n, api.ErrForm)
			wantNone(t, []byte{byte(tag), 20, 20, 0}, n, api.ErrForm)
			wantNone(t, []byte{byte(tag), 128}, n, api.ErrForm)
		}
	}
}

func TestDecodeNoInts(t *testing.T) {
	wantDecoded(t, []byte{0}, 0, nil)
	for tag := 1; tag < ways; tag++ {
		wantNone(t, []byte{byte(tag)}, 0, api.ErrForm) // Encode takes the least tag
		wantNone(t, []byte{byte(tag), 0}, 0, api.ErrForm)
		wantNone(t, []byte{byte(tag), 0, 0}, 0, api.ErrForm)
		wantNone(t, []byte{byte(tag), 128}, 0, api.ErrForm) // nothing of it is read
	}
	wantNone(t, []byte{0, 0}, 0, api.ErrForm)
	wantNone(t, []byte{0, 0, 0, 0, 0, 0, 0, 0, 0}, 0, api.ErrForm)
}

func TestDecodeBytesThatEndTooEarly(t *testing.T) {
	for _, x := range each() {
		for size := range x.b {
			wantNone(t, x.b[:size], len(x.l), api.ErrShort)
		}
	}
	for tag := range ways {
		for _, n := range []int{1, 2, api.MaxSamples} {
			wantNone(t, []byte{byte(tag)}, n, api.ErrShort)
			wantNone(t, []byte{byte(tag), 128}, n, api.ErrShort)
		}
		wantNone(t, []byte{byte(tag), 20}, 2, api.ErrShort)
	}
	wantNone(t, []byte{0, 0, 0, 0, 0, 0, 0, 1}, 1, api.ErrShort)
	wantNone(t, []byte{1, 20, 20, 20}, 4, api.ErrShort)
	wantNone(t, []byte{1, 20, 20, 220}, 3, api.ErrShort)
	wantNone(t, []byte{2, 20, 20}, 4, api.ErrShort)
	wantNone(t, []byte{2, 20, 20, 1}, 4, api.ErrShort)
	wantNone(t, []byte{3, 20, 0, 0, 0, 0, 0, 0, 0}, 4, api.ErrShort)
	wantNone(t, []byte{4, 20, 20, 1}, 4, api.ErrShort)
	wantNone(t, []byte{4, 20, 20, 1, 0}, 4, api.ErrShort)
}

func TestDecodeEveryBeginning(t *testing.T) {
	r := rand.New(rand.NewSource(83))
	for range 200 {
		l := someInts(r, 1+r.Intn(40))
		b := encodeByWords(l)
		for size := range b {
			wantNone(t, b[:size], len(l), api.ErrShort)
		}
	}
}

func TestDecodeVarintsThatNobodyWrites(t *testing.T) {
	long := slices.Repeat([]byte{255}, 9)
	for _, wrong := range [][]byte{{128, 0}, {133, 0}, {128, 128, 0}, behind(long, 2), behind(long, 255, 0)} {
		for tag := 1; tag < ways; tag++ {
			for _, n := range []int{1, 2, 9} {
				wantNone(t, behind([]byte{byte(tag)}, wrong...), n, api.ErrForm)
				wantNone(t, behind([]byte{byte(tag)}, behind(wrong, 0, 0)...), n, api.ErrForm)
			}
		}
		for _, tag := range []byte{1, 2, 4} { // the second varint
			wantNone(t, behind([]byte{tag, 10}, wrong...), 2, api.ErrForm)
		}
	}
}

func TestDecodeWhatTheOtherLayerRefuses(t *testing.T) {
	wantNone(t, []byte{2, 20, 20, 65}, 4, api.ErrForm)                  // no width is 65
	wantNone(t, []byte{2, 20, 20, 0, 0}, 4, api.ErrForm)                // more than a byte's filling
	wantNone(t, []byte{2, 20, 19, 1, 0b11100000}, 4, api.ErrForm)       // the least one is 20
	wantNone(t, []byte{2, 20, 20, 1, 0b01000001}, 4, api.ErrForm)       // the filling is not 0
	wantNone(t, []byte{3, 0, 48, 0, 0, 0, 0, 0, 0, 0}, 31, api.ErrForm) // another sort would do
	wantNone(t, []byte{3, 0, 56, 136, 136, 136, 136, 136, 136, 136}, 30, api.ErrForm)
	wantNone(t, []byte{3, 0, 56, 136, 136, 136, 136, 136, 136, 136, 0}, 31, api.ErrForm)
	wantNone(t, []byte{3, 0, 56, 136, 136, 136, 136, 136, 136, 136}, 32, api.ErrShort)
	wantNone(t, []byte{4, 0, 2, 98}, 99, api.ErrForm) // a run that makes more
	wantNone(t, []byte{4, 0, 2, 98}, 101, api.ErrShort)
	wantNone(t, []byte{4, 0, 2, 90, 2, 7}, 100, api.ErrForm) // the number of the run ahead
	wantNone(t, behind([]byte{4, 0, 2}, varintByWords(math.MaxUint64)...), 100, api.ErrForm)
	wantNone(t, []byte{4, 0, 2, 98, 0}, 100, api.ErrForm)
	wantNone(t, []byte{4, 0, 2, 98, 0, 0}, 100, api.ErrForm)
}

func TestDecodeAByteThatIsLeft(t *testing.T) {
	for _, x := range each() {
		for last := range 256 {
			wantNone(t, behind(x.b, byte(last)), len(x.l), api.ErrForm)
		}
		wantNone(t, slices.Concat(x.b, x.b), len(x.l), api.ErrForm)
	}
	for last := range 256 {
		wantNone(t, []byte{0, byte(last)}, 0, api.ErrForm)
		wantNone(t, []byte{1, 10, byte(last)}, 1, api.ErrForm)
	}
}

func TestDecodeTheBytesOfAnotherWay(t *testing.T) {
	lists := [][]int{nil, {5}, {3, 4}, {10, 20, 30}, {7, 7, 7, 7}, {1 << 52}, {math.MinInt, math.MaxInt}, make([]int, api.MaxSamples)}
	for _, x := range each() {
		lists = append(lists, x.l)
	}
	for _, l := range lists {
		taken := encodeByWords(l)
		for tag := range ways {
			b, e := Way(l, tag)
			if e != api.OK {
				continue
			}
			b = behind([]byte{byte(tag)}, b...)
			if tag == int(taken[0]) {
				wantDecoded(t, b, len(l), l)
			} else {
				wantNone(t, b, len(l), api.ErrForm)
			}
		}
	}
	wantNone(t, []byte{0, 0, 0, 0, 0, 0, 0, 0, 5}, 1, api.ErrForm)
	wantNone(t, []byte{2, 10, 0, 0}, 1, api.ErrForm)
}

func TestDecodeByAnotherNumber(t *testing.T) {
	b := []byte{2, 20, 20, 0} // how many there are is nowhere in it
	wantDecoded(t, b, 5, []int{10, 20, 30, 40, 50})
	wantDecoded(t, b, api.MaxSamples, made(api.MaxSamples, func(i int) int { return 10 * (i + 1) }))
	for n := range 4 {
		wantNone(t, b, n, api.ErrForm) // three are as short by way 1
	}
}

func TestDecodeFewBytesAsTheWordsSay(t *testing.T) {
	kinds := []byte{0, 1, 2, 3, 4, 5, 20, 64, 65, 127, 128, 255}
	decoded := 0
	var all func(b []byte, room int)
	all = func(b []byte, room int) {
		for _, n := range []int{-1, 0, 1, 2, 3, 4, 5, 9, 66, 130, 65536, 65537} {
			if n > 130 && len(b) > 3 { // these take their time
				continue
			}
			if wantAsByWords(t, b, n) {
				decoded++
			}
		}
		if room == 0 || t.Failed() {
			return
		}
		for _, one := range kinds {
			all(behind(b, one), room-1)
		}
	}
	all(nil, 4)
	if decoded < 500 {
		t.Errorf("only %d were decoded", decoded)
	}
}

func TestDecodeTurnedBytesAsTheWordsSay(t *testing.T) {
	r := rand.New(rand.NewSource(84))
	for range 3000 {
		l := someInts(r, 1+r.Intn(60))
		b := encodeByWords(l)
		for n := len(l) - 2; n <= len(l)+2; n++ {
			wantAsByWords(t, b, n)
			turned := slices.Clone(b)
			turned[r.Intn(len(b))] ^= 1 << r.Intn(8)
			wantAsByWords(t, turned, n)
			turned[0] = byte(r.Intn(ways + 1))
			wantAsByWords(t, turned, n)
			wantAsByWords(t, b[:r.Intn(len(b)+1)], n)
			wantAsByWords(t, behind(b, byte(r.Intn(2))), n)
		}
	}
}

// P8.4

func TestThereAndBack(t *testing.T) {
	r := rand.New(rand.NewSource(85))
	for _, n := range []int{0, 1, 2, 3, 4, 31, 127, 128, 129, 5000, api.MaxSamples - 1, api.MaxSamples} {
		for range 8 {
			l := someInts(r, n)
			b, e := Encode(l)
			if e != api.OK {
				t.Fatalf("Encode of %d ints: %v", n, e)
			}
			if back, e := Decode(b, n); !slices.Equal(back, l) || e != api.OK {
				t.Errorf("%d ints are not themselves again: %v", n, e)
			}
		}
	}
}

func TestNoWayTakesFewerBytes(t *testing.T) {
	r := rand.New(rand.NewSource(86))
	var taken [ways]int
	for range 3000 {
		l := someInts(r, r.Intn(150))
		b, _ := Encode(l)
		taken[b[0]]++
		for tag := range ways {
			one, e := Way(l, tag)
			if e == api.OK && (len(one) < len(b)-1 || len(one) == len(b)-1 && tag < int(b[0])) {
				t.Errorf("Encode(%v): %d bytes by way %d; way %d takes %d", l, len(b)-1, b[0], tag, len(one))
			}
		}
	}
	for tag, count := range taken {
		if count < 10 {
			t.Errorf("way %d was taken %d times only", tag, count)
		}
	}
}

func TestBytesThatAreDecodedAreThoseEncoded(t *testing.T) {
	r := rand.New(rand.NewSource(87))
	decoded := 0
	for range 100000 {
		b := make([]byte, 1+r.Intn(8))
		b[0] = byte(r.Intn(ways))
		for i := range b[1:] {
			b[i+1] = byte(r.Intn(256)) >> r.Intn(8)
		}
		n := r.Intn(12)
		l, e := Decode(b, n)
		if e != api.OK {
			continue
		}
		decoded++
		if len(l) != n {
			t.Errorf("Decode(%v, %d): %d ints", b, n, len(l))
		}
		wantEncoded(t, l, b)
	}
	if decoded < 1000 {
		t.Errorf("only %d were decoded", decoded)
	}
}

// R3

func TestTheListIsNeitherChangedNorKept(t *testing.T) {
	for tag, x := range each() {
		for name, write := range map[string]func([]int) ([]byte, api.Errno){
			"Way":    func(l []int) ([]byte, api.Errno) { return Way(l, tag) },
			"Encode": Encode,
		} {
			room := append(slices.Clone(x.l), 99, 98)
			before := slices.Clone(room)
			b, _ := write(room[:len(x.l)])
			if !slices.Equal(room, before) {
				t.Errorf("%s by way %d changes what it is handed: %v", name, tag, room)
			}
			want := slices.Clone(b)
			clear(room)
			if !bytes.Equal(b, want) {
				t.Errorf("%s by way %d keeps what it is handed: %v", name, tag, b)
			}
			clear(b)
			if again, _ := write(x.l); !bytes.Equal(again, want) {
				t.Errorf("%s by way %d keeps what it has answered: %v", name, tag, again)
			}
		}
	}
	wrong := repeated(5, api.MaxSamples+1)
	Encode(wrong)
	Way(wrong, 1)
	Way(wrong, 5)
	if !slices.Equal(wrong, repeated(5, api.MaxSamples+1)) {
		t.Error("a list that is refused is changed")
	}
	wide := []int{3, math.MinInt}
	if Way(wide, 3); !slices.Equal(wide, []int{3, math.MinInt}) {
		t.Errorf("a list that does not fit its way is changed: %v", wide)
	}
}

func TestTheBytesAreNeitherChangedNorKept(t *testing.T) {
	for tag, x := range each() {
		room := append(slices.Clone(x.b), 99, 98)
		before := slices.Clone(room)
		l, _ := Decode(room[:len(x.b)], len(x.l))
		if !bytes.Equal(room, before) {
			t.Errorf("Decode of way %d changes what it is handed: %v", tag, room)
		}
		clear(room)
		if !slices.Equal(l, x.l) {
			t.Errorf("Decode of way %d keeps what it is handed: %v", tag, l)
		}
		clear(l)
		wantDecoded(t, x.b, len(x.l), x.l)
		wrong := append(slices.Clone(x.b), 99)
		for _, n := range []int{-1, 0, 1, len(x.l), len(x.l) + 1} {
			if Decode(wrong, n); !bytes.Equal(wrong[:len(x.b)], x.b) || wrong[len(x.b)] != 99 {
				t.Errorf("Decode of way %d changes what it refuses: %v", tag, wrong)
			}
		}
	}
}
