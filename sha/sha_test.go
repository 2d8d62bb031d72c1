package sha

import (
	"bytes"
	"crypto/sha256"
	"encoding/hex"
	"math/big"
	"math/rand"
	"slices"
	"strconv"
	"strings"
	"testing"

	"casket/api"
)

const (
	sumOfNothing = "e3b0c44298fc1c149afbf4c8996fb92427ae41e4649b934ca495991b7852b855"
	sumOfAbc     = "ba7816bf8f01cfea414140de5dae2223b00361a396177a9cb410ff61f20015ad"
	sumOfTwo     = "248d6a61d20638b8e5c026930c3e6039a33ce45964ff2167f6ecedd419db06c1"
	sumOfFour    = "cf5b16a778af8380036ce59e7b0492370b249b11e8f07a51afac45037afee9d1"
	sumOfMillion = "cdc76e5c9914fb9281a1c7e284d73e67f1809a48a497200e046d39ccc7112cd0"

	textOfTwo  = "abcdbcdecdefdefgefghfghighijhijkijkljklmklmnlmnomnopnopq"
	textOfFour = "abcdefghbcdefghicdefghijdefghijkefghijklfghijklmghijklmnhijklmnoijklmnopjklmnopqklmnopqrlmnopqrsmnopqrstnopqrstu"
)

// edgeLengths are those at which what stands behind the bytes fills a piece or begins a new one, and their neighbours.
func edgeLengths() []int {
	return []int{0, 1, 2, 3, 4, 8, 31, 32, 54, 55, 56, 57, 62, 63, 64, 65, 118, 119, 120, 121, 126, 127, 128, 129, 183, 184, 191, 192, 193}
}

// mixed are n bytes of which no two pieces are the same.
func mixed(n int) []byte {
	out := make([]byte, n)
	for i := range out {
		out[i] = byte(i*7 + i/64*13 + 5)
	}
	return out
}

func repeated(v byte, n int) []byte { return bytes.Repeat([]byte{v}, n) }

// reference is the library's SHA-256: another one's work, held against this one.
func reference(b []byte) []byte {
	sum := sha256.Sum256(b)
	return sum[:]
}

func written(pieces ...[]byte) *Hash {
	h := &Hash{}
	for _, p := range pieces {
		h.Write(p)
	}
	return h
}

func wantBytes(t *testing.T, what string, got, want []byte) {
	t.Helper()
	if !bytes.Equal(got, want) {
		t.Errorf("%s: %x; want %x", what, got, want)
	}
}

func wantHex(t *testing.T, what string, got []byte, want string) {
	t.Helper()
	if hex.EncodeToString(got) != want {
		t.Errorf("%s: %x; want %s", what, got, want)
	}
}

// wantSummed says that b's Sum is the reference's.
func wantSummed(t *testing.T, what string, b []byte) {
	t.Helper()
	wantBytes(t, "Sum of "+what, Sum(b), reference(b))
}

// wantHash says that h has been written all of b, and no more.
func wantHash(t *testing.T, what string, h *Hash, b []byte) {
	t.Helper()
	wantBytes(t, what, h.Sum(), reference(b))
	if h.Len() != len(b) {
		t.Errorf("%s: Len %d; want %d", what, h.Len(), len(b))
	}
}

func wantWrite(t *testing.T, h *Hash, b []byte, want int) {
	t.Helper()
	if got := h.Write(b); got != want {
		t.Errorf("Write of %d bytes: %d; want %d", len(b), got, want)
	}
}

// The chapter's words

func firstPrimes(n int) []int64 {
	var out []int64
	for p := int64(2); len(out) < n; p++ {
		if !slices.ContainsFunc(out, func(q int64) bool { return p%q == 0 }) {
			out = append(out, p)
		}
	}
	return out
}

// rootsFirstBits are the first 32 bits behind the point of the n-th root: the lowest 32 of the greatest whole number
// whose n-th power is at most p times 2^(32n).
func rootsFirstBits(p int64, n int64) uint32 {
	most := new(big.Int).Lsh(big.NewInt(p), uint(32*n))
	root := new(big.Int)
	for bit := 40; bit >= 0; bit-- {
		root.SetBit(root, bit, 1)
		if new(big.Int).Exp(root, big.NewInt(n), nil).Cmp(most) > 0 {
			root.SetBit(root, bit, 0)
		}
	}
	return uint32(root.Uint64())
}

func TestConstantsAreTheCubeRoots(t *testing.T) {
	k := constants()
	for i, p := range firstPrimes(64) {
		if want := rootsFirstBits(p, 3); k[i] != want {
			t.Errorf("K(%d) is %#x; want %#x", i, k[i], want)
		}
	}
}

func TestFirstStateIsTheSquareRoots(t *testing.T) {
	state := firstState()
	for i, p := range firstPrimes(8) {
		if want := rootsFirstBits(p, 2); state[i] != want {
			t.Errorf("H(%d) is %#x; want %#x", i, state[i], want)
		}
	}
}

// P13.1

func TestSumOfNamedTexts(t *testing.T) {
	for _, x := range []struct{ text, want string }{
		{"", sumOfNothing},
		{"abc", sumOfAbc},
		{textOfTwo, sumOfTwo},
		{textOfFour, sumOfFour},
		{strings.Repeat("a", 1000000), sumOfMillion},
		{"The quick brown fox jumps over the lazy dog", "d7a8fbb307d7809469ca9abcb0082e4f8d5651e46d3cdb762d02d0bf37c9e592"},
	} {
		wantHex(t, "Sum of "+strconv.Quote(x.text[:min(len(x.text), 60)]), Sum([]byte(x.text)), x.want)
	}
}

func TestTheChaptersExamples(t *testing.T) {
	wantBytes(t, "the first bytes of Sum of nothing", Sum(nil)[:4], []byte{227, 176, 196, 66})
	wantBytes(t, "the first bytes of Sum of abc", Sum([]byte("abc"))[:4], []byte{186, 120, 22, 191})
}

func TestNothingIsNilOrEmpty(t *testing.T) {
	wantHex(t, "Sum(nil)", Sum(nil), sumOfNothing)
	wantHex(t, "Sum of an empty list", Sum([]byte{}), sumOfNothing)
	wantHex(t, "Sum of an empty piece of a list", Sum([]byte{1, 2, 3}[1:1]), sumOfNothing)
}

func TestSumOfEveryByte(t *testing.T) {
	for v := range 256 {
		wantSummed(t, "the byte "+strconv.Itoa(v), []byte{byte(v)})
	}
}

func TestSumOfEveryLength(t *testing.T) {
	for n := range 300 {
		name := strconv.Itoa(n) + " bytes"
		wantSummed(t, name, mixed(n))
		wantSummed(t, name+" 0", repeated(0, n))
		wantSummed(t, name+" 255", repeated(255, n))
	}
}

// The sums are written out here, so that they do not stand on the reference alone.
func TestSumOfEdgeLengths(t *testing.T) {
	for n, want := range map[int]string{
		55:  "9f4390f8d30c2dd92ec9f095b65e2b9ae9b0a925a5258e241c9f1e910f734318",
		56:  "b35439a4ac6f0948b6d6f9e3c6af0f5f590ce20f1bde7090ef7970686ec6738a",
		57:  "f13b2d724659eb3bf47f2dd6af1accc87b81f09f59f2b75e5c0bed6589dfe8c6",
		63:  "7d3e74a05d7db15bce4ad9ec0658ea98e3f06eeecf16b4c6fff2da457ddc2f34",
		64:  "ffe054fe7ae0cb6dc65c3af9b61d5209f439851db43d0ba5997337df154668eb",
		65:  "635361c48bb9eab14198e76ea8ab7f1a41685d6ad62aa9146d301d4f17eb0ae0",
		119: "31eba51c313a5c08226adf18d4a359cfdfd8d2e816b13f4af952f7ea6584dcfb",
		120: "2f3d335432c70b580af0e8e1b3674a7c020d683aa5f73aaaedfdc55af904c21c",
		127: "c57e9278af78fa3cab38667bef4ce29d783787a2f731d4e12200270f0c32320a",
		128: "6836cf13bac400e9105071cd6af47084dfacad4e5e302c94bfed24e013afb73e",
	} {
		wantHex(t, "Sum of "+strconv.Itoa(n)+" times a", Sum(repeated('a', n)), want)
	}
}

func TestSumHas32Bytes(t *testing.T) {
	for _, n := range edgeLengths() {
		if got := len(Sum(mixed(n))); got != api.HashSize {
			t.Errorf("Sum of %d bytes has %d", n, got)
		}
	}
}

func TestLongTexts(t *testing.T) {
	for _, n := range []int{8191, 8192, 8193, 65535, 65536, 1<<21 - 1, 1 << 21, 3000001} {
		wantSummed(t, strconv.Itoa(n)+" bytes", mixed(n))
	}
}

// TestEachBitCounts turns each bit once, in a text of more than one piece.
func TestEachBitCounts(t *testing.T) {
	b := mixed(130)
	before := Sum(b)
	for place := range len(b) * 8 {
		b[place/8] ^= 1 << (place % 8)
		if bytes.Equal(Sum(b), before) {
			t.Errorf("the bit %d turns nothing", place)
		}
		wantSummed(t, "a text whose bit "+strconv.Itoa(place)+" is turned", b)
		b[place/8] ^= 1 << (place % 8)
	}
}

// TestTheLengthCounts holds a text against those that go on as its ending does: little but the length tells them apart.
func TestTheLengthCounts(t *testing.T) {
	for n := range 130 {
		b, end := mixed(n), ending(n)
		for more := 1; more <= len(end); more++ {
			longer := slices.Concat(b, end[:more])
			if bytes.Equal(Sum(longer), Sum(b)) {
				t.Errorf("%d bytes, and with %d of their ending: one sum", n, more)
			}
			wantSummed(t, strconv.Itoa(n)+" bytes and "+strconv.Itoa(more)+" of their ending", longer)
		}
	}
}

// TestTheEnding holds it against P13.1's words.
func TestTheEnding(t *testing.T) {
	for n := range 400 {
		want := []byte{128}
		for (n+len(want))%64 != 56 {
			want = append(want, 0)
		}
		want = append(want, 0, 0, 0, 0, 0, 0, byte(8*n>>8), byte(8*n))
		wantBytes(t, "what stands behind "+strconv.Itoa(n)+" bytes", ending(n), want)
	}
}

// TestTheLengthTakesEightBytes: texts as long as these are not written here.
func TestTheLengthTakesEightBytes(t *testing.T) {
	for n, want := range map[int][]byte{
		1<<31 - 1: {0, 0, 0, 3, 255, 255, 255, 248},
		1 << 29:   {0, 0, 0, 1, 0, 0, 0, 0},
		1<<29 - 1: {0, 0, 0, 0, 255, 255, 255, 248},
	} {
		got := ending(n)
		wantBytes(t, "the length of "+strconv.Itoa(n)+" bytes", got[len(got)-8:], want)
		if (n+len(got))%64 != 0 {
			t.Errorf("%d bytes and their ending of %d are no whole pieces", n, len(got))
		}
	}
}

// P13.2

func TestAZeroHashHasBeenWrittenNothing(t *testing.T) {
	var h Hash
	wantHex(t, "Sum of a zero Hash", h.Sum(), sumOfNothing)
	if h.Len() != 0 {
		t.Errorf("Len of a zero Hash: %d", h.Len())
	}
	h.Write([]byte("abc"))
	wantHex(t, "Sum behind Sum of nothing", h.Sum(), sumOfAbc)
}

func TestWriteOfNamedTexts(t *testing.T) {
	for text, want := range map[string]string{"": sumOfNothing, "abc": sumOfAbc, textOfTwo: sumOfTwo, textOfFour: sumOfFour} {
		h := &Hash{}
		wantWrite(t, h, []byte(text), len(text))
		wantHex(t, "a Hash of "+strconv.Quote(text), h.Sum(), want)
	}
}

func TestWriteTellsTheLength(t *testing.T) {
	h := &Hash{}
	total := 0
	for n := range 200 {
		wantWrite(t, h, mixed(n), n)
		total += n
		if h.Len() != total {
			t.Errorf("Len behind a Write of %d: %d; want %d", n, h.Len(), total)
		}
	}
}

func TestWriteOfNoBytes(t *testing.T) {
	for _, n := range edgeLengths() {
		h := written(mixed(n))
		for _, nothing := range [][]byte{nil, {}, mixed(3)[3:]} {
			wantWrite(t, h, nothing, 0)
			wantHash(t, "behind a Write of nothing", h, mixed(n))
		}
		h.Write([]byte{1})
		wantHash(t, "behind Writes of nothing", h, append(mixed(n), 1))
	}
	empty := written(nil, []byte{}, nil)
	wantHash(t, "a Hash that was written nothing thrice", empty, nil)
	empty.Write([]byte("abc"))
	wantHex(t, "abc behind nothing", empty.Sum(), sumOfAbc)
}

func TestSumAskedTwice(t *testing.T) {
	for _, n := range edgeLengths() {
		h := written(mixed(n))
		for range 3 {
			wantHash(t, "asked more than once, of "+strconv.Itoa(n)+" bytes", h, mixed(n))
		}
	}
}

func TestSumBetweenWrites(t *testing.T) {
	for _, first := range edgeLengths() {
		for _, second := range edgeLengths() {
			b := mixed(first + second)
			h := written(b[:first])
			wantHash(t, "ahead of the second Write", h, b[:first])
			wantWrite(t, h, b[first:], second)
			wantHash(t, "behind the second Write", h, b)
		}
	}
}

func TestSumBetweenAllBytes(t *testing.T) {
	b := mixed(260)
	h := &Hash{}
	for i := range b {
		wantHash(t, "ahead of the byte "+strconv.Itoa(i), h, b[:i])
		h.Write(b[i : i+1])
	}
	wantHash(t, "behind all bytes", h, b)
}

func TestHashesSideBySide(t *testing.T) {
	one, other := &Hash{}, &Hash{}
	var ofOne, ofOther []byte
	for n := range 140 {
		one.Write(mixed(n))
		ofOne = append(ofOne, mixed(n)...)
		other.Write(repeated(byte(n), 140-n))
		ofOther = append(ofOther, repeated(byte(n), 140-n)...)
		wantHash(t, "the one", one, ofOne)
		wantHash(t, "the other one", other, ofOther)
		wantSummed(t, "bytes between", mixed(n))
	}
}

func TestACopyGoesItsOwnWay(t *testing.T) {
	for _, n := range edgeLengths() {
		one := *written(mixed(n))
		other := one
		one.Write(repeated(1, 100))
		other.Write(repeated(2, 70))
		wantHash(t, "the one", &one, append(mixed(n), repeated(1, 100)...))
		wantHash(t, "its copy", &other, append(mixed(n), repeated(2, 70)...))
	}
}

func TestANilHash(t *testing.T) {
	var h *Hash
	for _, b := range [][]byte{nil, {}, {1}, mixed(64), mixed(200)} {
		wantWrite(t, h, b, 0)
		wantHex(t, "Sum of a nil Hash", h.Sum(), sumOfNothing)
		if h.Len() != 0 {
			t.Errorf("Len of a nil Hash: %d", h.Len())
		}
	}
}

// P13.3

func TestCutInTwoAnywhere(t *testing.T) {
	for _, n := range []int{55, 56, 64, 65, 128, 200} {
		b := mixed(n)
		for cut := range n + 1 {
			wantHash(t, strconv.Itoa(n)+" bytes cut at "+strconv.Itoa(cut), written(b[:cut], b[cut:]), b)
		}
	}
}

func TestCutInThreeAnywhere(t *testing.T) {
	b := mixed(133)
	want := reference(b)
	for first := range len(b) + 1 {
		for second := first; second <= len(b); second++ {
			got := written(b[:first], b[first:second], b[second:]).Sum()
			wantBytes(t, "cut at "+strconv.Itoa(first)+" and "+strconv.Itoa(second), got, want)
		}
	}
}

func TestByteByByte(t *testing.T) {
	for n := range 260 {
		b := mixed(n)
		h := &Hash{}
		for i := range b {
			wantWrite(t, h, b[i:i+1], 1)
		}
		wantHash(t, strconv.Itoa(n)+" bytes one by one", h, b)
	}
}

func TestPiecesOfEveryLength(t *testing.T) {
	h := &Hash{}
	var all []byte
	for n := range 131 {
		h.Write(mixed(n))
		all = append(all, mixed(n)...)
		wantHash(t, "pieces up to "+strconv.Itoa(n), h, all)
	}
	wantSummed(t, "all pieces", all)
}

func TestPiecesOfOneLength(t *testing.T) {
	b := mixed(1000)
	for n := 1; n <= 131; n++ {
		h := &Hash{}
		for piece := range slices.Chunk(b, n) {
			h.Write(piece)
		}
		wantHash(t, "pieces of "+strconv.Itoa(n), h, b)
	}
}

func TestAnyPieces(t *testing.T) {
	random := rand.New(rand.NewSource(13))
	for range 2000 {
		b := make([]byte, random.Intn(700))
		random.Read(b)
		h := &Hash{}
		for rest := b; len(rest) > 0; {
			n := random.Intn(min(len(rest), 150) + 1)
			h.Write(rest[:n])
			rest = rest[n:]
		}
		wantHash(t, "random pieces", h, b)
		wantBytes(t, "the Sum of all of them", Sum(b), h.Sum())
	}
}

func TestAMillionInPieces(t *testing.T) {
	h := &Hash{}
	for range 1000 {
		h.Write(repeated('a', 1000))
	}
	wantHex(t, "a million times a", h.Sum(), sumOfMillion)
	if h.Len() != 1000000 {
		t.Errorf("Len: %d", h.Len())
	}
}

// R3

func TestTheBytesAreNotChanged(t *testing.T) {
	for _, n := range edgeLengths() {
		b := append(mixed(n), repeated(99, 200)...) // what lies behind the bytes that are handed in is no call's either
		before := slices.Clone(b)
		Sum(b[:n])
		h := written(b[:n])
		h.Sum()
		h.Write(b[:n])
		wantBytes(t, strconv.Itoa(n)+" bytes that were handed in", b, before)
	}
}

func TestTheBytesAreNotKept(t *testing.T) {
	for _, n := range edgeLengths() {
		b := mixed(n)
		h := written(b)
		clear(b)
		wantHash(t, strconv.Itoa(n)+" bytes that are changed behind the Write", h, mixed(n))
		h.Write(b)
		wantHash(t, "what they are now, behind them", h, append(mixed(n), repeated(0, n)...))
	}
}

func TestASumIsItsHoldersOwn(t *testing.T) {
	for _, n := range edgeLengths() {
		h := written(mixed(n))
		var none *Hash
		for _, ask := range []func() []byte{
			h.Sum,
			func() []byte { return Sum(mixed(n)) },
		} {
			held, another := ask(), ask()
			clear(held)
			_ = append(held[:0:cap(held)], repeated(7, cap(held))...)
			wantBytes(t, "another one", another, reference(mixed(n)))
			wantBytes(t, "one that is asked later", ask(), reference(mixed(n)))
		}
		clear(none.Sum())
		clear(Sum(nil))
		wantHex(t, "Sum of a nil Hash", none.Sum(), sumOfNothing)
		h.Write([]byte{1})
		wantHash(t, "what is written behind", h, append(mixed(n), 1))
	}
}

func TestTheTablesAreNew(t *testing.T) {
	k, state := constants(), firstState()
	clear(k[:])
	clear(state[:])
	wantHex(t, "Sum of abc", Sum([]byte("abc")), sumOfAbc)
}

// R1

func TestNothingPanics(t *testing.T) {
	var none *Hash
	random := rand.New(rand.NewSource(1))
	for _, h := range []*Hash{none, {}, new(Hash), written(mixed(63))} {
		h.Sum()
		h.Len()
		for range 500 {
			b := make([]byte, random.Intn(200))
			random.Read(b)
			if n := h.Write(b); h != nil && n != len(b) {
				t.Errorf("Write of %d bytes: %d", len(b), n)
			}
			if got := len(h.Sum()); got != api.HashSize {
				t.Errorf("Sum has %d bytes", got)
			}
			h.Len()
		}
	}
}

func FuzzPieces(f *testing.F) {
	f.Add([]byte(nil), 0)
	f.Add([]byte("abc"), 1)
	f.Add([]byte(textOfTwo), 20)
	f.Add(mixed(64), 64)
	f.Add(mixed(130), 65)
	f.Fuzz(func(t *testing.T, b []byte, cut int) {
		cut = max(0, min(cut, len(b)))
		h := written(b[:cut])
		wantHash(t, "the first piece", h, b[:cut])
		h.Write(b[cut:])
		wantHash(t, "both pieces", h, b)
		wantSummed(t, "all bytes", b)
	})
}
