package varint

import (
	"bytes"
	"math"
	"math/rand"
	"slices"
	"testing"

	"casket/api"
)

// edges are numbers at which something turns, those where a size begins among them.
func edges() []uint64 {
	out := []uint64{0, 1, 127, 300, math.MaxUint64 - 1, math.MaxUint64}
	for size := 1; size < 10; size++ {
		first := uint64(1) << (7 * size)
		out = append(out, first-1, first, first+1)
	}
	return out
}

func randomNumber(random *rand.Rand) uint64 { return random.Uint64() >> random.Intn(64) }

// sizeByWords follows the promise's words: as few groups of seven bits as hold v, at least one.
func sizeByWords(v uint64) int {
	for size := 1; size < 10; size++ {
		if v < 1<<(7*size) {
			return size
		}
	}
	return 10
}

func wantRead(t *testing.T, b []byte, v uint64, n int, e api.Errno) {
	t.Helper()
	if gotV, gotN, gotE := Read(b); gotV != v || gotN != n || gotE != e {
		t.Errorf("Read(%v): %d, %d, %v; want %d, %d, %v", b, gotV, gotN, gotE, v, n, e)
	}
}

// manyOf is the same byte n times, and others behind it.
func manyOf(n int, each byte, behind ...byte) []byte {
	return append(bytes.Repeat([]byte{each}, n), behind...)
}

// P2.1

func TestAppendOfNamedNumbers(t *testing.T) {
	for _, x := range []struct {
		v    uint64
		want []byte
	}{
		{0, []byte{0}},
		{1, []byte{1}},
		{127, []byte{127}},
		{128, []byte{128, 1}},
		{300, []byte{172, 2}},
		{16383, []byte{255, 127}},
		{16384, []byte{128, 128, 1}},
		{1<<63 - 1, manyOf(8, 255, 127)},
		{1 << 63, manyOf(9, 128, 1)},
		{math.MaxUint64, manyOf(9, 255, 1)},
	} {
		if got := Append(nil, x.v); !slices.Equal(got, x.want) {
			t.Errorf("Append(nil, %d) = %v; want %v", x.v, got, x.want)
		}
		if got := Size(x.v); got != len(x.want) {
			t.Errorf("Size(%d) = %d; want %d", x.v, got, len(x.want))
		}
	}
}

func TestAppendStandsBehind(t *testing.T) {
	for _, b := range [][]byte{nil, {}, {9}, {128, 128}, manyOf(1000, 7)} {
		want := append(slices.Clone(b), 172, 2)
		if got := Append(b, 300); !slices.Equal(got, want) {
			t.Errorf("Append(%v, 300) = %v", b, got)
		}
	}
}

func TestAppendIsNewMemory(t *testing.T) {
	room := []byte{1, 2, 3, 4}
	got := Append(room[:1], 300)
	if !slices.Equal(room, []byte{1, 2, 3, 4}) {
		t.Errorf("what lies behind the bytes was written: %v", room)
	}
	got[0] = 99
	if room[0] != 1 {
		t.Error("the answer shares memory with what was handed in")
	}
	first := Append(make([]byte, 0, 20), 5)
	second := Append(first, 6)
	third := Append(first, 7)
	if !slices.Equal(second, []byte{5, 6}) || !slices.Equal(third, []byte{5, 7}) {
		t.Errorf("two answers share memory: %v, %v", second, third)
	}
}

func TestSizeIsTheLeast(t *testing.T) {
	seen := [11]int{}
	for _, v := range edges() {
		want := sizeByWords(v)
		if Size(v) != want || len(Append(nil, v)) != want {
			t.Errorf("%d: Size %d, %d bytes; want %d", v, Size(v), len(Append(nil, v)), want)
		}
		seen[want]++
	}
	for size := 1; size <= 10; size++ {
		if seen[size] == 0 {
			t.Errorf("no number of %d bytes was tried", size)
		}
	}
}

func TestAllButTheLastHave128Added(t *testing.T) {
	for _, v := range edges() {
		b := Append(nil, v)
		for i, c := range b {
			if last := i == len(b)-1; (c < 128) != last {
				t.Errorf("Append(nil, %d) = %v", v, b)
			}
		}
	}
}

// P2.2

func TestReadOfNamedBytes(t *testing.T) {
	wantRead(t, []byte{0}, 0, 1, api.OK)
	wantRead(t, []byte{127}, 127, 1, api.OK)
	wantRead(t, []byte{128, 1}, 128, 2, api.OK)
	wantRead(t, []byte{172, 2}, 300, 2, api.OK)
	wantRead(t, manyOf(8, 255, 127), 1<<63-1, 9, api.OK)
	wantRead(t, manyOf(9, 128, 1), 1<<63, 10, api.OK)
	wantRead(t, manyOf(9, 255, 1), math.MaxUint64, 10, api.OK)
}

func TestReadLeavesWhatStandsBehind(t *testing.T) {
	for _, behind := range [][]byte{{0}, {128}, {255, 255}, {0, 0, 0}} {
		wantRead(t, append([]byte{0}, behind...), 0, 1, api.OK)
		wantRead(t, append([]byte{172, 2}, behind...), 300, 2, api.OK)
		wantRead(t, append(manyOf(9, 255, 1), behind...), math.MaxUint64, 10, api.OK)
	}
}

func TestReadShort(t *testing.T) {
	wantRead(t, nil, 0, 0, api.ErrShort)
	wantRead(t, []byte{}, 0, 0, api.ErrShort)
	for n := 1; n <= 9; n++ {
		wantRead(t, manyOf(n, 128), 0, 0, api.ErrShort)
		wantRead(t, manyOf(n, 255), 0, 0, api.ErrShort)
	}
}

func TestReadTenthByteAboveOne(t *testing.T) {
	for tenth := 2; tenth <= 255; tenth++ {
		for _, each := range []byte{128, 255} {
			wantRead(t, manyOf(9, each, byte(tenth)), 0, 0, api.ErrForm)
			wantRead(t, manyOf(9, each, byte(tenth), 1), 0, 0, api.ErrForm)
		}
	}
	wantRead(t, manyOf(10, 128), 0, 0, api.ErrForm)
	wantRead(t, manyOf(1000, 255), 0, 0, api.ErrForm)
}

func TestReadLastByteZero(t *testing.T) {
	for n := 1; n <= 9; n++ {
		wantRead(t, manyOf(n, 128, 0), 0, 0, api.ErrForm)
		wantRead(t, manyOf(n, 255, 0), 0, 0, api.ErrForm)
		wantRead(t, manyOf(n, 255, 0, 1, 1), 0, 0, api.ErrForm)
	}
	wantRead(t, []byte{0, 0}, 0, 1, api.OK)
}

func TestReadChangesNothing(t *testing.T) {
	b := []byte{172, 2, 9}
	Read(b)
	if !slices.Equal(b, []byte{172, 2, 9}) {
		t.Errorf("the bytes were changed: %v", b)
	}
}

// P2.3

func TestZigAndZagOfNamedNumbers(t *testing.T) {
	for _, x := range []struct {
		n int
		v uint64
	}{
		{0, 0}, {-1, 1}, {1, 2}, {-2, 3}, {2, 4}, {-64, 127}, {64, 128}, {150, 300}, {-150, 299},
		{math.MaxInt, math.MaxUint64 - 1}, {math.MinInt, math.MaxUint64},
		{math.MaxInt - 1, math.MaxUint64 - 3}, {math.MinInt + 1, math.MaxUint64 - 2},
		{1 << 62, 1 << 63}, {-1 << 62, 1<<63 - 1},
	} {
		if Zig(x.n) != x.v || Zag(x.v) != x.n {
			t.Errorf("Zig(%d) = %d, Zag(%d) = %d", x.n, Zig(x.n), x.v, Zag(x.v))
		}
	}
}

// P2.4

func TestThereAndBack(t *testing.T) {
	random := rand.New(rand.NewSource(2))
	numbers := edges()
	for range 2000 {
		numbers = append(numbers, randomNumber(random))
	}
	for _, v := range numbers {
		ahead := manyOf(random.Intn(4), 200)
		b := Append(ahead, v)
		for _, behind := range [][]byte{nil, {0}, {128}, {255, 1}, {7, 7, 7}} {
			wantRead(t, append(slices.Clone(b[len(ahead):]), behind...), v, Size(v), api.OK)
		}
		for cut := range Size(v) {
			wantRead(t, b[len(ahead):len(ahead)+cut], 0, 0, api.ErrShort)
		}
		if Zig(Zag(v)) != v || Zag(Zig(int(v))) != int(v) {
			t.Errorf("Zig and Zag of %d", v)
		}
	}
}

func TestOneWayAlone(t *testing.T) {
	random := rand.New(rand.NewSource(3))
	kinds := []byte{0, 1, 2, 127, 128, 129, 255}
	for range 50000 {
		b := make([]byte, random.Intn(13))
		for i := range b {
			b[i] = kinds[random.Intn(len(kinds))]
		}
		if v, n, e := Read(b); e == api.OK && !slices.Equal(Append(nil, v), b[:n]) {
			t.Errorf("Read(%v): %d, %d, and Append writes %v", b, v, n, Append(nil, v))
		}
	}
}

func TestAllTwoBytes(t *testing.T) {
	for first := range 256 {
		for second := range 256 {
			b := []byte{byte(first), byte(second)}
			switch {
			case first < 128:
				wantRead(t, b, uint64(first), 1, api.OK)
			case second >= 128:
				wantRead(t, b, 0, 0, api.ErrShort)
			case second == 0:
				wantRead(t, b, 0, 0, api.ErrForm)
			default:
				wantRead(t, b, uint64(first-128+128*second), 2, api.OK)
			}
		}
	}
}

func TestFewerBitsFewerBytes(t *testing.T) {
	numbers := edges()
	slices.Sort(numbers)
	for i := 1; i < len(numbers); i++ {
		if Size(numbers[i-1]) > Size(numbers[i]) {
			t.Errorf("%d takes more bytes than %d", numbers[i-1], numbers[i])
		}
	}
}
