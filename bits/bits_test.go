package bits

import (
	"math"
	"math/rand"
	"slices"
	"testing"

	"casket/api"
)

type piece struct {
	v     uint64
	width int
}

// written is a writer of pieces that may all be written.
func written(t *testing.T, pieces ...piece) *Writer {
	t.Helper()
	w := &Writer{}
	for _, p := range pieces {
		if e := w.Put(p.v, p.width); e != api.OK {
			t.Fatalf("Put(%d, %d): %v", p.v, p.width, e)
		}
	}
	return w
}

func wantWriter(t *testing.T, w *Writer, n int, b ...byte) {
	t.Helper()
	if w.Len() != n || !slices.Equal(w.Bytes(), b) {
		t.Errorf("Len %d, Bytes %v; want %d, %v", w.Len(), w.Bytes(), n, b)
	}
}

func wantGet(t *testing.T, r *Reader, width int, v uint64, e api.Errno) {
	t.Helper()
	if gotV, gotE := r.Get(width); gotV != v || gotE != e {
		t.Errorf("Get(%d): %d, %v; want %d, %v", width, gotV, gotE, v, e)
	}
}

func wantRest(t *testing.T, r *Reader, left int, end api.Errno) {
	t.Helper()
	if r.Left() != left || r.End() != end {
		t.Errorf("Left %d, End %v; want %d, %v", r.Left(), r.End(), left, end)
	}
	if r.Left() != left {
		t.Errorf("End has read: Left %d; want %d", r.Left(), left)
	}
}

// leastWidth follows the promise's words: the least w with v below 2^w.
func leastWidth(v uint64) int {
	for w := range 64 {
		if v < 1<<w {
			return w
		}
	}
	return 64
}

// P1.1

func TestWidthOfNamedNumbers(t *testing.T) {
	for v, want := range map[uint64]int{0: 0, 1: 1, 2: 2, 3: 2, 4: 3, 7: 3, 8: 4, 255: 8, 256: 9, math.MaxUint64: 64} {
		if got := Width(v); got != want {
			t.Errorf("Width(%d) = %d; want %d", v, got, want)
		}
	}
}

func TestWidthIsTheLeast(t *testing.T) {
	for i := range 64 {
		for _, v := range []uint64{1<<i - 1, 1 << i, 1<<i + 1} {
			if got := Width(v); got != leastWidth(v) {
				t.Errorf("Width(%d) = %d; want %d", v, got, leastWidth(v))
			}
		}
	}
}

// P1.2

func TestZeroWriterIsEmpty(t *testing.T) {
	var w Writer
	wantWriter(t, &w, 0)
}

func TestPutHighestFirst(t *testing.T) {
	wantWriter(t, written(t, piece{5, 3}, piece{1, 2}), 5, 168)
	wantWriter(t, written(t, piece{1, 1}), 1, 128)
	wantWriter(t, written(t, piece{0xabc, 12}), 12, 0xab, 0xc0)
	wantWriter(t, written(t, piece{0x0102030405060708, 64}), 64, 1, 2, 3, 4, 5, 6, 7, 8)
}

func TestPutAcrossBytes(t *testing.T) {
	w := written(t, piece{0, 1}, piece{math.MaxUint64, 64}, piece{0, 2}, piece{1, 1})
	wantWriter(t, w, 68, 127, 255, 255, 255, 255, 255, 255, 255, 144)
}

func TestPutEdgesOfWidth(t *testing.T) {
	wantWriter(t, written(t, piece{0, 0}), 0)
	wantWriter(t, written(t, piece{0, 64}), 64, 0, 0, 0, 0, 0, 0, 0, 0)
	for width := 1; width <= 64; width++ {
		greatest := uint64(math.MaxUint64) >> (64 - width)
		if w := written(t, piece{greatest, width}); w.Len() != width {
			t.Errorf("Len %d of one number of %d bits", w.Len(), width)
		}
	}
}

func TestLastByteIsFilledWithZeros(t *testing.T) {
	for n := 1; n <= 8; n++ {
		w := &Writer{}
		for range n {
			w.Put(1, 1)
		}
		wantWriter(t, w, n, 255<<(8-n))
	}
	wantWriter(t, written(t, piece{255, 8}, piece{1, 1}), 9, 255, 128)
}

func TestPutRefusesAndChangesNothing(t *testing.T) {
	w := written(t, piece{5, 3})
	refused := []piece{{0, -1}, {0, math.MinInt}, {0, 65}, {0, math.MaxInt}, {math.MaxUint64, 65}, {1, 0}, {2, 1}, {4, 2}, {256, 8}, {1 << 63, 63}, {math.MaxUint64, 63}}
	for _, p := range refused {
		if e := w.Put(p.v, p.width); e != api.ErrArg {
			t.Errorf("Put(%d, %d): %v; want ErrArg", p.v, p.width, e)
		}
		wantWriter(t, w, 3, 160)
	}
	w.Put(1, 2)
	wantWriter(t, w, 5, 168)
}

func TestNilWriter(t *testing.T) {
	var w *Writer
	for _, width := range []int{-1, 0, 1, 64, 65} {
		if e := w.Put(0, width); e != api.ErrArg {
			t.Errorf("Put(0, %d) of nil: %v; want ErrArg", width, e)
		}
	}
	wantWriter(t, w, 0)
}

func TestBytesAreNewMemory(t *testing.T) {
	w := written(t, piece{5, 3})
	b := w.Bytes()
	b[0] = 255
	wantWriter(t, w, 3, 160)
	b = w.Bytes()
	w.Put(3, 2)
	if b[0] != 160 {
		t.Errorf("Put turned bytes that were told ahead of it: %v", b)
	}
}

// P1.3

func TestGetHighestFirst(t *testing.T) {
	r := NewReader([]byte{168, 1})
	wantRest(t, r, 16, api.ErrForm)
	wantGet(t, r, 3, 5, api.OK)
	wantGet(t, r, 12, 1<<10, api.OK)
	wantRest(t, r, 1, api.ErrForm)
	wantGet(t, r, 1, 1, api.OK)
	wantRest(t, r, 0, api.OK)
}

func TestGetEdgesOfWidth(t *testing.T) {
	r := NewReader([]byte{0x7f, 255, 255, 255, 255, 255, 255, 255, 128})
	wantGet(t, r, 0, 0, api.OK)
	wantRest(t, r, 72, api.ErrForm)
	wantGet(t, r, 1, 0, api.OK)
	wantGet(t, r, 64, math.MaxUint64, api.OK)
	wantRest(t, r, 7, api.OK)
	wantGet(t, r, 7, 0, api.OK)
	wantGet(t, r, 0, 0, api.OK)
	wantRest(t, r, 0, api.OK)
}

func TestGetShortReadsNothing(t *testing.T) {
	r := NewReader([]byte{168, 1})
	wantGet(t, r, 17, 0, api.ErrShort)
	wantGet(t, r, 64, 0, api.ErrShort)
	wantGet(t, r, 3, 5, api.OK)
	wantGet(t, r, 14, 0, api.ErrShort)
	wantRest(t, r, 13, api.ErrForm)
	wantGet(t, r, 13, 1<<11|1, api.OK)
	wantGet(t, r, 1, 0, api.ErrShort)
}

func TestGetWrongWidthReadsNothing(t *testing.T) {
	for _, b := range [][]byte{nil, {168}, make([]byte, 20)} {
		r := NewReader(b)
		for _, width := range []int{-1, math.MinInt, 65, math.MaxInt} {
			wantGet(t, r, width, 0, api.ErrArg)
		}
		if r.Left() != 8*len(b) {
			t.Errorf("Left %d of %d bytes", r.Left(), len(b))
		}
	}
}

func TestReaderOfNothing(t *testing.T) {
	for _, r := range []*Reader{NewReader(nil), NewReader([]byte{}), {}} {
		wantGet(t, r, 0, 0, api.OK)
		wantGet(t, r, 1, 0, api.ErrShort)
		wantRest(t, r, 0, api.OK)
	}
}

func TestNilReader(t *testing.T) {
	var r *Reader
	for _, width := range []int{-1, 0, 1, 64, 65} {
		wantGet(t, r, width, 0, api.ErrArg)
	}
	wantRest(t, r, 0, api.ErrArg)
}

func TestEndWithAByteOrMoreLeft(t *testing.T) {
	r := NewReader([]byte{0, 0})
	wantRest(t, r, 16, api.ErrForm)
	wantGet(t, r, 7, 0, api.OK)
	wantRest(t, r, 9, api.ErrForm)
	wantGet(t, r, 1, 0, api.OK)
	wantRest(t, r, 8, api.ErrForm)
	wantGet(t, r, 1, 0, api.OK)
	wantRest(t, r, 7, api.OK)
}

func TestEndWithABitLeft(t *testing.T) {
	for place := range 8 {
		r := NewReader([]byte{128 >> place})
		for read := 1; read <= 8; read++ {
			r.Get(1)
			want := api.OK
			if place >= read {
				want = api.ErrForm
			}
			wantRest(t, r, 8-read, want)
		}
	}
}

func TestReaderKeepsNothingHandedIn(t *testing.T) {
	b := []byte{168, 1}
	r := NewReader(b)
	b[0] = 0
	wantGet(t, r, 3, 5, api.OK)
	if b[0] != 0 || b[1] != 1 {
		t.Errorf("the bytes were changed: %v", b)
	}
}

// P1.4

func wantThereAndBack(t *testing.T, pieces []piece) {
	t.Helper()
	w := written(t, pieces...)
	sum := 0
	for _, p := range pieces {
		sum += p.width
	}
	if w.Len() != sum || len(w.Bytes()) != (sum+7)/8 {
		t.Fatalf("Len %d, %d bytes of %d bits", w.Len(), len(w.Bytes()), sum)
	}
	r := NewReader(w.Bytes())
	for _, p := range pieces {
		wantGet(t, r, p.width, p.v, api.OK)
	}
	if e := r.End(); e != api.OK {
		t.Errorf("End: %v", e)
	}
}

func TestThereAndBackAtAllWidths(t *testing.T) {
	for first := range 65 {
		for second := range 65 {
			ones := []piece{{1<<first - 1, first}, {1<<second - 1, second}}
			wantThereAndBack(t, ones)
		}
	}
}

func TestThereAndBackOfManyPieces(t *testing.T) {
	random := rand.New(rand.NewSource(1))
	for range 200 {
		pieces := make([]piece, random.Intn(100))
		for i := range pieces {
			width := random.Intn(65)
			pieces[i] = piece{random.Uint64() & (1<<width - 1), width}
		}
		wantThereAndBack(t, pieces)
	}
}
