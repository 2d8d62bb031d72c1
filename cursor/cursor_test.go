package cursor

import (
	"bytes"
	"math"
	"math/rand"
	"slices"
	"testing"

	"casket/api"
	"casket/varint"
)

func wantByte(t *testing.T, c *Cursor, v byte, e api.Errno) {
	t.Helper()
	if gotV, gotE := c.Byte(); gotV != v || gotE != e {
		t.Errorf("Byte: %d, %v; want %d, %v", gotV, gotE, v, e)
	}
}

func wantFixed(t *testing.T, c *Cursor, n int, v uint64, e api.Errno) {
	t.Helper()
	if gotV, gotE := c.Fixed(n); gotV != v || gotE != e {
		t.Errorf("Fixed(%d): %d, %v; want %d, %v", n, gotV, gotE, v, e)
	}
}

func wantVarint(t *testing.T, c *Cursor, v uint64, e api.Errno) {
	t.Helper()
	if gotV, gotE := c.Varint(); gotV != v || gotE != e {
		t.Errorf("Varint: %d, %v; want %d, %v", gotV, gotE, v, e)
	}
}

func wantBytes(t *testing.T, c *Cursor, n int, e api.Errno, b ...byte) {
	t.Helper()
	if gotB, gotE := c.Bytes(n); !slices.Equal(gotB, b) || gotE != e {
		t.Errorf("Bytes(%d): %v, %v; want %v, %v", n, gotB, gotE, b, e)
	}
}

func wantBlock(t *testing.T, c *Cursor, most int, e api.Errno, b ...byte) {
	t.Helper()
	if gotB, gotE := c.Block(most); !slices.Equal(gotB, b) || gotE != e {
		t.Errorf("Block(%d): %v, %v; want %v, %v", most, gotB, gotE, b, e)
	}
}

// wantRest asks twice, as neither Left nor End may read.
func wantRest(t *testing.T, c *Cursor, left int, end api.Errno) {
	t.Helper()
	for range 2 {
		if c.Left() != left || c.End() != end {
			t.Errorf("Left %d, End %v; want %d, %v", c.Left(), c.End(), left, end)
		}
	}
}

// wantUnread reads all that is left to see that it is b.
func wantUnread(t *testing.T, c *Cursor, b ...byte) {
	t.Helper()
	if c.Left() != len(b) {
		t.Errorf("Left %d; want %d", c.Left(), len(b))
	}
	wantBytes(t, c, len(b), api.OK, b...)
	wantRest(t, c, 0, api.OK)
}

// failing are the calls that must answer e, with zero values beside it.
func failing(t *testing.T, c *Cursor, e api.Errno) {
	t.Helper()
	wantByte(t, c, 0, e)
	wantFixed(t, c, 1, 0, e)
	wantFixed(t, c, 8, 0, e)
	wantVarint(t, c, 0, e)
	wantBytes(t, c, 1, e)
	wantBytes(t, c, math.MaxInt, e)
	wantBlock(t, c, 0, e)
	wantBlock(t, c, math.MaxInt, e)
}

// P3.1

func TestNewStandsAtTheBeginning(t *testing.T) {
	for n := range 20 {
		b := make([]byte, n)
		for i := range b {
			b[i] = byte(i + 1)
		}
		if got := New(b).Left(); got != n {
			t.Errorf("Left of %d bytes: %d", n, got)
		}
		wantUnread(t, New(b), b...)
	}
}

func TestLeftGoesDownByWhatIsRead(t *testing.T) {
	c := New([]byte{1, 2, 3, 172, 2, 2, 7, 8, 9, 10})
	wantRest(t, c, 10, api.ErrForm)
	wantByte(t, c, 1, api.OK)
	wantRest(t, c, 9, api.ErrForm)
	wantFixed(t, c, 2, 515, api.OK)
	wantRest(t, c, 7, api.ErrForm)
	wantVarint(t, c, 300, api.OK)
	wantRest(t, c, 5, api.ErrForm)
	wantBlock(t, c, 2, api.OK, 7, 8)
	wantRest(t, c, 2, api.ErrForm)
	wantBytes(t, c, 2, api.OK, 9, 10)
	wantRest(t, c, 0, api.OK)
}

func TestNoBytes(t *testing.T) {
	for _, c := range []*Cursor{New(nil), New([]byte{}), new(Cursor)} {
		wantRest(t, c, 0, api.OK)
		failing(t, c, api.ErrShort)
		wantFixed(t, c, 0, 0, api.OK)
		wantBytes(t, c, 0, api.OK)
		wantRest(t, c, 0, api.OK)
	}
}

func TestNilCursor(t *testing.T) {
	var c *Cursor
	wantRest(t, c, 0, api.ErrArg)
	failing(t, c, api.ErrArg)
	wantFixed(t, c, 0, 0, api.ErrArg)
	wantFixed(t, c, 9, 0, api.ErrArg)
	wantFixed(t, c, -1, 0, api.ErrArg)
	wantBytes(t, c, 0, api.ErrArg)
	wantBytes(t, c, -1, api.ErrArg)
	wantBlock(t, c, -1, api.ErrArg)
	wantRest(t, c, 0, api.ErrArg)
}

func TestNothingIsReadBesideAnError(t *testing.T) {
	for _, x := range []struct {
		name string
		rest []byte
		fail func(c *Cursor) api.Errno
	}{
		{"Byte", nil, func(c *Cursor) api.Errno { _, e := c.Byte(); return e }},
		{"Fixed(3)", []byte{8, 9}, func(c *Cursor) api.Errno { _, e := c.Fixed(3); return e }},
		{"Fixed(9)", manyOf(9, 8), func(c *Cursor) api.Errno { _, e := c.Fixed(9); return e }},
		{"Fixed(-1)", []byte{8, 9}, func(c *Cursor) api.Errno { _, e := c.Fixed(-1); return e }},
		{"Bytes(3)", []byte{8, 9}, func(c *Cursor) api.Errno { _, e := c.Bytes(3); return e }},
		{"Bytes(-1)", []byte{8, 9}, func(c *Cursor) api.Errno { _, e := c.Bytes(-1); return e }},
		{"Varint, short", []byte{128, 129}, func(c *Cursor) api.Errno { _, e := c.Varint(); return e }},
		{"Varint, form", []byte{128, 0, 1}, func(c *Cursor) api.Errno { _, e := c.Varint(); return e }},
		{"Block(-1)", []byte{1, 9}, func(c *Cursor) api.Errno { _, e := c.Block(-1); return e }},
		{"Block, short length", []byte{128, 129}, func(c *Cursor) api.Errno { _, e := c.Block(9); return e }},
		{"Block, form", []byte{128, 0, 1}, func(c *Cursor) api.Errno { _, e := c.Block(9); return e }},
		{"Block, long", []byte{2, 7, 8}, func(c *Cursor) api.Errno { _, e := c.Block(1); return e }},
		{"Block, short", []byte{2, 7}, func(c *Cursor) api.Errno { _, e := c.Block(9); return e }},
		{"End", []byte{0}, func(c *Cursor) api.Errno { return c.End() }},
	} {
		c := New(append([]byte{5, 6}, x.rest...))
		wantBytes(t, c, 2, api.OK, 5, 6)
		for range 3 {
			if x.fail(c) == api.OK {
				t.Errorf("%s of %v: OK", x.name, x.rest)
			}
			if c.Left() != len(x.rest) {
				t.Errorf("%s of %v: Left %d", x.name, x.rest, c.Left())
			}
		}
		wantUnread(t, c, x.rest...)
	}
}

func TestCursorKeepsNoArgument(t *testing.T) {
	b := []byte{1, 0, 2, 172, 2, 2, 7, 8, 9}
	c := New(b)
	clear(b)
	wantByte(t, c, 1, api.OK)
	wantFixed(t, c, 2, 2, api.OK)
	wantVarint(t, c, 300, api.OK)
	clear(b)
	wantBlock(t, c, 2, api.OK, 7, 8)
	wantBytes(t, c, 1, api.OK, 9)
}

func TestCursorChangesNoArgument(t *testing.T) {
	b := []byte{1, 0, 2, 172, 2, 2, 7, 8, 9}
	c := New(b[:8])
	c.Byte()
	c.Fixed(2)
	c.Varint()
	got, _ := c.Block(9)
	clear(append(got, 5))
	if !slices.Equal(b, []byte{1, 0, 2, 172, 2, 2, 7, 8, 9}) {
		t.Errorf("the bytes were changed: %v", b)
	}
}

func TestAnswersAreNewMemory(t *testing.T) {
	c := New([]byte{1, 2, 3, 4, 2, 7, 8, 2, 7, 8})
	first, _ := c.Bytes(2)
	clear(append(first, 50, 60, 70))
	second, _ := c.Bytes(2)
	if !slices.Equal(second, []byte{3, 4}) {
		t.Errorf("what was answered reaches what is read next: %v", second)
	}
	third, _ := c.Block(2)
	clear(append(third, 50, 60, 70))
	if !slices.Equal(second, []byte{3, 4}) {
		t.Errorf("two answers share memory: %v", second)
	}
	wantBlock(t, c, 2, api.OK, 7, 8)
}

func TestCursorsAreApart(t *testing.T) {
	b := []byte{1, 2, 3}
	one, other := New(b), New(b)
	wantBytes(t, one, 2, api.OK, 1, 2)
	wantRest(t, other, 3, api.ErrForm)
	wantByte(t, other, 1, api.OK)
	wantByte(t, one, 3, api.OK)
	wantRest(t, other, 2, api.ErrForm)
}

// P3.2

func TestByte(t *testing.T) {
	all := make([]byte, 256)
	for i := range all {
		all[i] = byte(i)
	}
	c := New(all)
	for _, v := range all {
		wantByte(t, c, v, api.OK)
	}
	wantByte(t, c, 0, api.ErrShort)
	wantRest(t, c, 0, api.OK)
}

func TestBytes(t *testing.T) {
	c := New([]byte{1, 2, 3, 4})
	wantBytes(t, c, 0, api.OK)
	wantBytes(t, c, 3, api.OK, 1, 2, 3)
	wantBytes(t, c, 2, api.ErrShort)
	wantBytes(t, c, math.MaxInt, api.ErrShort)
	wantBytes(t, c, -1, api.ErrArg)
	wantBytes(t, c, math.MinInt, api.ErrArg)
	wantBytes(t, c, 1, api.OK, 4)
	wantBytes(t, c, 1, api.ErrShort)
	wantBytes(t, c, 0, api.OK)
	wantBytes(t, c, -1, api.ErrArg)
}

func TestBytesThatEndWhereThePieceDoes(t *testing.T) {
	for n := range 40 {
		b := manyOf(n, 200)
		wantBytes(t, New(b), n, api.OK, b...)
		wantBytes(t, New(b), n+1, api.ErrShort)
		wantBytes(t, New(append(b, 7)), n, api.OK, b...)
	}
}

func TestFixedOfEachLength(t *testing.T) {
	b := []byte{1, 2, 3, 4, 5, 6, 7, 8, 9}
	for n, want := range []uint64{0, 1, 0x102, 0x10203, 0x1020304, 0x102030405, 0x10203040506, 0x1020304050607, 0x102030405060708} {
		c := New(b)
		wantFixed(t, c, n, want, api.OK)
		wantUnread(t, c, b[n:]...)
		wantFixed(t, New(b[:n]), n, want, api.OK)
	}
	wantFixed(t, New(manyOf(8, 255)), 8, math.MaxUint64, api.OK)
	wantFixed(t, New([]byte{128, 0, 0, 0, 0, 0, 0, 0}), 8, 1<<63, api.OK)
	wantFixed(t, New([]byte{0, 0, 0, 0, 0, 0, 0, 1}), 8, 1, api.OK)
}

func TestFixedOfWrongLengths(t *testing.T) {
	long := New(manyOf(100, 1))
	none := New(nil)
	for _, n := range []int{-1, -8, 9, 10, 16, 100, math.MinInt, math.MaxInt} {
		wantFixed(t, long, n, 0, api.ErrArg)
		wantFixed(t, none, n, 0, api.ErrArg)
	}
	wantRest(t, long, 100, api.ErrForm)
}

func TestFixedOfTooFewBytes(t *testing.T) {
	for n := 1; n <= 8; n++ {
		for have := range n {
			c := New(manyOf(have, 3))
			wantFixed(t, c, n, 0, api.ErrShort)
			wantUnread(t, c, manyOf(have, 3)...)
		}
	}
}

func TestVarintIsTheOneOfLayerTwo(t *testing.T) {
	for _, b := range [][]byte{
		nil, {0}, {127}, {128}, {128, 0}, {128, 1}, {172, 2}, {172, 2, 9}, {0, 0}, {255, 255, 0},
		manyOf(9, 255), manyOf(9, 255, 0), manyOf(9, 255, 1), manyOf(9, 255, 1, 1), manyOf(9, 255, 2), manyOf(10, 128), manyOf(30, 255),
	} {
		v, size, e := varint.Read(b)
		c := New(b)
		wantVarint(t, c, v, e)
		wantUnread(t, c, b[size:]...)
	}
}

func TestVarintOfNamedBytes(t *testing.T) {
	wantVarint(t, New([]byte{172, 2}), 300, api.OK)
	wantVarint(t, New(manyOf(9, 255, 1)), math.MaxUint64, api.OK)
	wantVarint(t, New([]byte{172}), 0, api.ErrShort)
	wantVarint(t, New([]byte{172, 0}), 0, api.ErrForm)
	wantVarint(t, New(manyOf(9, 255, 2)), 0, api.ErrForm)
}

// P3.3

func TestBlockOfTheExample(t *testing.T) {
	c := New([]byte{2, 7, 8, 9})
	wantBlock(t, c, 5, api.OK, 7, 8)
	wantRest(t, c, 1, api.ErrForm)
	wantFixed(t, c, 1, 9, api.OK)
	wantRest(t, c, 0, api.OK)
}

func TestBlockOfNothing(t *testing.T) {
	for _, most := range []int{0, 1, math.MaxInt} {
		c := New([]byte{0, 0, 5})
		wantBlock(t, c, most, api.OK)
		wantRest(t, c, 2, api.ErrForm)
		wantBlock(t, c, most, api.OK)
		wantUnread(t, c, 5)
	}
	last := New([]byte{0})
	wantBlock(t, last, 0, api.OK)
	wantRest(t, last, 0, api.OK)
}

func TestBlockOfExactlyMost(t *testing.T) {
	for _, n := range []int{1, 2, 127, 128, 129, 300, 16383, 16384} {
		inner := manyOf(n, 6)
		b := append(varint.Append(nil, uint64(n)), inner...)
		for _, most := range []int{n, n + 1, math.MaxInt} {
			c := New(append(slices.Clone(b), 4))
			wantBlock(t, c, most, api.OK, inner...)
			wantUnread(t, c, 4)
			wantBlock(t, New(b), most, api.OK, inner...)
		}
		for _, most := range []int{0, n - 1} {
			c := New(b)
			wantBlock(t, c, most, api.ErrLong)
			wantUnread(t, c, b...)
		}
	}
}

func TestBlockLongAlsoWhereFewerAreLeft(t *testing.T) {
	for _, length := range []uint64{3, 128, 1 << 32, 1 << 62, 1<<63 - 1, 1 << 63, math.MaxUint64} {
		c := New(append(varint.Append(nil, length), 1))
		wantBlock(t, c, 2, api.ErrLong)
		wantBlock(t, c, 0, api.ErrLong)
		if length > math.MaxInt {
			wantBlock(t, c, math.MaxInt, api.ErrLong)
		} else {
			wantBlock(t, c, int(length)-1, api.ErrLong)
			wantBlock(t, c, int(length), api.ErrShort)
			wantBlock(t, c, math.MaxInt, api.ErrShort)
		}
	}
}

func TestBlockShort(t *testing.T) {
	b := append(varint.Append(nil, 200), manyOf(199, 1)...)
	for cut := range len(b) + 1 {
		wantBlock(t, New(b[:cut]), 200, api.ErrShort)
	}
	wantBlock(t, New([]byte{2, 7}), 2, api.ErrShort)
	wantBlock(t, New([]byte{1}), 1, api.ErrShort)
	wantBlock(t, New(nil), 0, api.ErrShort)
}

func TestBlockWhoseLengthIsNoVarint(t *testing.T) {
	for _, most := range []int{0, 5, math.MaxInt} {
		wantBlock(t, New([]byte{130, 0, 7, 8}), most, api.ErrForm)
		wantBlock(t, New([]byte{128, 0}), most, api.ErrForm)
		wantBlock(t, New(manyOf(9, 255, 2)), most, api.ErrForm)
		wantBlock(t, New(manyOf(3, 255)), most, api.ErrShort)
	}
}

func TestBlockOfLessThanNone(t *testing.T) {
	for _, b := range [][]byte{nil, {0}, {2, 7, 8}, {2, 7}, {128}, {128, 0}} {
		for _, most := range []int{-1, -2, math.MinInt} {
			c := New(b)
			wantBlock(t, c, most, api.ErrArg)
			wantUnread(t, c, b...)
		}
	}
}

func TestEnd(t *testing.T) {
	for n := 1; n < 10; n++ {
		wantRest(t, New(make([]byte, n)), n, api.ErrForm)
		wantRest(t, New(manyOf(n, 255)), n, api.ErrForm)
	}
	wantRest(t, New(nil), 0, api.OK)
}

// P3.4

func wantFix(t *testing.T, v uint64, n int, want ...byte) {
	t.Helper()
	if got := Fix(v, n); !slices.Equal(got, want) {
		t.Errorf("Fix(%d, %d) = %v; want %v", v, n, got, want)
	}
}

func TestFix(t *testing.T) {
	wantFix(t, 258, 3, 0, 1, 2)
	wantFix(t, 258, 2, 1, 2)
	wantFix(t, 258, 1, 2)
	wantFix(t, 258, 0)
	all := []byte{1, 2, 3, 4, 5, 6, 7, 8}
	for n := 0; n <= 8; n++ {
		wantFix(t, 0x102030405060708, n, all[8-n:]...)
		wantFix(t, math.MaxUint64, n, manyOf(n, 255)...)
		wantFix(t, 0, n, manyOf(n, 0)...)
	}
	wantFix(t, 1<<63, 8, 128, 0, 0, 0, 0, 0, 0, 0)
	wantFix(t, 1<<63, 7, 0, 0, 0, 0, 0, 0, 0)
}

func TestFixOfWrongLengths(t *testing.T) {
	for _, n := range []int{-1, -8, 9, 10, 64, math.MinInt, math.MaxInt} {
		wantFix(t, math.MaxUint64, n)
	}
}

func TestBlockOfBytes(t *testing.T) {
	for _, x := range []struct{ b, want []byte }{
		{nil, []byte{0}},
		{[]byte{}, []byte{0}},
		{[]byte{7, 8}, []byte{2, 7, 8}},
		{manyOf(127, 1), append([]byte{127}, manyOf(127, 1)...)},
		{manyOf(128, 1), append([]byte{128, 1}, manyOf(128, 1)...)},
		{manyOf(300, 1), append([]byte{172, 2}, manyOf(300, 1)...)},
	} {
		if got := Block(x.b); !slices.Equal(got, x.want) {
			t.Errorf("Block(%v) = %v", x.b, got)
		}
	}
}

func TestBlockOfBytesIsNewMemory(t *testing.T) {
	room := []byte{7, 8, 9, 10}
	got := Block(room[:2])
	clear(append(got, 1, 1, 1))
	if !slices.Equal(room, []byte{7, 8, 9, 10}) {
		t.Errorf("what was handed in was changed: %v", room)
	}
	again := Block(room[:2])
	room[0] = 99
	if !slices.Equal(again, []byte{2, 7, 8}) {
		t.Errorf("what was handed in was kept: %v", again)
	}
}

// P3.5

func TestThereAndBack(t *testing.T) {
	random := rand.New(rand.NewSource(5))
	for range 300 {
		var b []byte
		var checks []func(c *Cursor)
		for range random.Intn(30) {
			wrote, check := randomPiece(t, random)
			b = append(b, wrote...)
			checks = append(checks, check)
		}
		c := New(b)
		for _, check := range checks {
			check(c)
		}
		wantRest(t, c, 0, api.OK)
	}
}

// randomPiece is a piece that Fix or Block writes, and who asks whether it is read to the same.
func randomPiece(t *testing.T, random *rand.Rand) ([]byte, func(c *Cursor)) {
	if random.Intn(2) == 0 {
		n := random.Intn(9)
		v := random.Uint64()
		low := v & (1<<(8*n) - 1) // 8 bytes shift the 1 out, and keep all
		return Fix(v, n), func(c *Cursor) { wantFixed(t, c, n, low, api.OK) }
	}
	inner := manyOf(random.Intn(400), byte(random.Intn(256)))
	most := len(inner) + random.Intn(3)
	return Block(inner), func(c *Cursor) { wantBlock(t, c, most, api.OK, inner...) }
}

func TestBlockInBlock(t *testing.T) {
	inner := append(Block([]byte{1}), Block(nil)...)
	c := New(Block(inner))
	b, e := c.Block(len(inner))
	if e != api.OK {
		t.Fatal(e)
	}
	wantRest(t, c, 0, api.OK)
	c = New(b)
	wantBlock(t, c, 1, api.OK, 1)
	wantBlock(t, c, 0, api.OK)
	wantRest(t, c, 0, api.OK)
}

// TestReadingIsTheSameAsOfTheBytes holds each call against the promises' words, told of bytes and a place.
func TestReadingIsTheSameAsOfTheBytes(t *testing.T) {
	random := rand.New(rand.NewSource(7))
	kinds := []byte{0, 1, 2, 3, 5, 127, 128, 130, 255}
	for range 20000 {
		b := make([]byte, random.Intn(16))
		for i := range b {
			b[i] = kinds[random.Intn(len(kinds))]
		}
		c := New(b)
		for range 4 {
			n := random.Intn(13) - 2
			switch random.Intn(3) {
			case 0:
				took, e := bytesByWords(b, n)
				wantBytes(t, c, n, e, took...)
				b = b[len(took):]
			case 1:
				size, inner, e := blockByWords(b, n)
				wantBlock(t, c, n, e, inner...)
				b = b[size+len(inner):]
			case 2:
				v, size, e := varint.Read(b)
				wantVarint(t, c, v, e)
				b = b[size:]
			}
		}
		wantUnread(t, c, b...)
	}
}

func bytesByWords(b []byte, n int) ([]byte, api.Errno) {
	switch {
	case n < 0:
		return nil, api.ErrArg
	case len(b) < n:
		return nil, api.ErrShort
	}
	return b[:n], api.OK
}

// blockByWords tells how many bytes the length takes, too.
func blockByWords(b []byte, most int) (int, []byte, api.Errno) {
	length, size, e := varint.Read(b)
	switch {
	case most < 0:
		return 0, nil, api.ErrArg
	case e != api.OK:
		return 0, nil, e
	case length > uint64(most):
		return 0, nil, api.ErrLong
	case length > uint64(len(b[size:])):
		return 0, nil, api.ErrShort
	}
	return size, b[size:][:length], api.OK
}

// manyOf is the same byte n times, and others behind it.
func manyOf(n int, each byte, behind ...byte) []byte {
	return append(bytes.Repeat([]byte{each}, n), behind...)
}
