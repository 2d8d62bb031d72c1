package chacha

import (
	"bytes"
	"encoding/binary"
	"encoding/hex"
	"math"
	"math/rand"
	"slices"
	"strconv"
	"testing"

	"casket/api"
)

const lastCounter = math.MaxUint32

// sunscreen is the text that RFC 8439 seals in its section 2.4.2.
const sunscreen = "Ladies and Gentlemen of the class of '99: If I could offer you only one tip for the future, sunscreen would be it."

// edgeCounters are the least and the greatest ones, and those at which a byte of the counter is full.
func edgeCounters() []uint32 {
	return []uint32{0, 1, 2, 255, 256, 65535, 65536, 1<<24 - 1, 1 << 24, 1<<31 - 1, 1 << 31, lastCounter - 1, lastCounter}
}

// edgeLengths are those at which a block is full, or one more is needed.
func edgeLengths() []int {
	return []int{0, 1, 2, 3, 4, 5, 31, 32, 33, 63, 64, 65, 127, 128, 129, 191, 192, 193, 300, 1000}
}

// wrongKeys are those that are none.
func wrongKeys() [][]byte {
	return [][]byte{nil, {}, mixed(1, 1), mixed(12, 1), mixed(16, 1), mixed(31, 1), mixed(33, 1), mixed(64, 1), mixed(288, 1)}
}

// wrongNonces are those that are none.
func wrongNonces() [][]byte {
	return [][]byte{nil, {}, mixed(1, 1), mixed(8, 1), mixed(11, 1), mixed(13, 1), mixed(16, 1), mixed(24, 1), mixed(32, 1), mixed(268, 1)}
}

// mixed are n bytes that tell their places apart.
func mixed(n int, from byte) []byte {
	out := make([]byte, n)
	for i := range out {
		out[i] = byte(i*7) + from
	}
	return out
}

func someKey() []byte   { return mixed(api.KeySize, 3) }
func someNonce() []byte { return mixed(api.NonceSize, 200) }

// nothings are the lists without bytes.
func nothings() [][]byte { return [][]byte{nil, {}, []byte{1, 2, 3}[1:1]} }

func repeated(v byte, n int) []byte { return bytes.Repeat([]byte{v}, n) }

// rising are the bytes from first to last.
func rising(first, last int) []byte {
	var out []byte
	for v := first; v <= last; v++ {
		out = append(out, byte(v))
	}
	return out
}

// endingWith are n bytes, 0 but for the last one.
func endingWith(v byte, n int) []byte {
	out := make([]byte, n)
	out[n-1] = v
	return out
}

func unhex(t *testing.T, text string) []byte {
	t.Helper()
	b, err := hex.DecodeString(text)
	if err != nil {
		t.Fatal(err)
	}
	return b
}

// against is what a and b come to, held against one another.
func against(a, b []byte) []byte {
	out := slices.Clone(a)
	for i := range out {
		out[i] ^= b[i]
	}
	return out
}

// rot is x rot n, as the chapter says it: what falls out comes in below.
func rot(x uint32, n int) uint32 {
	for range n {
		x = x<<1 | x>>31
	}
	return x
}

// quarterAsSaid is P15.1, step by step, with sums that go round by being taken in 64 bits.
func quarterAsSaid(a, b, c, d uint32) (uint32, uint32, uint32, uint32) {
	sum := func(x, y uint32) uint32 { return uint32((uint64(x) + uint64(y)) % (1 << 32)) }
	a = sum(a, b)
	d = rot(d^a, 16)
	c = sum(c, d)
	b = rot(b^c, 12)
	a = sum(a, b)
	d = rot(d^a, 8)
	c = sum(c, d)
	b = rot(b^c, 7)
	return a, b, c, d
}

// blockAsSaid is P15.2, word by word, and on nothing that the package has.
func blockAsSaid(key []byte, counter uint32, nonce []byte) []byte {
	b := []byte("expand 32-byte k")
	b = append(b, key...)
	b = binary.LittleEndian.AppendUint32(b, counter)
	b = append(b, nonce...)
	var first []uint32
	for len(b) > 0 {
		first = append(first, binary.LittleEndian.Uint32(b))
		b = b[4:]
	}
	w := slices.Clone(first)
	for range 10 {
		for _, at := range [][4]int{{0, 4, 8, 12}, {1, 5, 9, 13}, {2, 6, 10, 14}, {3, 7, 11, 15}, {0, 5, 10, 15}, {1, 6, 11, 12}, {2, 7, 8, 13}, {3, 4, 9, 14}} {
			w[at[0]], w[at[1]], w[at[2]], w[at[3]] = quarterAsSaid(w[at[0]], w[at[1]], w[at[2]], w[at[3]])
		}
	}
	var out []byte
	for i := range w {
		out = binary.LittleEndian.AppendUint32(out, w[i]+first[i])
	}
	return out
}

// streamAsSaid is P15.3, of bytes for which the blocks suffice.
func streamAsSaid(key []byte, counter uint32, nonce, b []byte) []byte {
	var blocks []byte
	for len(blocks) < len(b) {
		blocks = append(blocks, blockAsSaid(key, counter, nonce)...)
		counter++
	}
	return against(b, blocks)
}

func wantBytes(t *testing.T, what string, got, want []byte) {
	t.Helper()
	if !bytes.Equal(got, want) {
		t.Errorf("%s: %x; want %x", what, got, want)
	}
}

func wantQuarter(t *testing.T, from, want [4]uint32) {
	t.Helper()
	a, b, c, d := Quarter(from[0], from[1], from[2], from[3])
	if got := [4]uint32{a, b, c, d}; got != want {
		t.Errorf("Quarter of %x: %x; want %x", from, got, want)
	}
}

func wantQuarterAsSaid(t *testing.T, from [4]uint32) {
	t.Helper()
	a, b, c, d := quarterAsSaid(from[0], from[1], from[2], from[3])
	wantQuarter(t, from, [4]uint32{a, b, c, d})
}

// block is Block's answer where there must be one.
func block(t *testing.T, key []byte, counter uint32, nonce []byte) []byte {
	t.Helper()
	out, e := Block(key, counter, nonce)
	if e != api.OK || len(out) != 64 {
		t.Errorf("Block by the counter %d: %d bytes, error %d", counter, len(out), int(e))
	}
	return out
}

// stream is Stream's answer where there must be one.
func stream(t *testing.T, key []byte, counter uint32, nonce, b []byte) []byte {
	t.Helper()
	out, e := Stream(key, counter, nonce, b)
	if e != api.OK || len(out) != len(b) {
		t.Fatalf("Stream of %d bytes by the counter %d: %d bytes, error %d", len(b), counter, len(out), int(e))
	}
	return out
}

func wantBlock(t *testing.T, key []byte, counter uint32, nonce []byte) {
	t.Helper()
	wantBytes(t, "Block by the counter "+strconv.Itoa(int(counter)), block(t, key, counter, nonce), blockAsSaid(key, counter, nonce))
}

func wantStream(t *testing.T, key []byte, counter uint32, nonce, b []byte) {
	t.Helper()
	what := "Stream of " + strconv.Itoa(len(b)) + " bytes by the counter " + strconv.Itoa(int(counter))
	wantBytes(t, what, stream(t, key, counter, nonce, b), streamAsSaid(key, counter, nonce, b))
}

func wantNoBlock(t *testing.T, key []byte, counter uint32, nonce []byte) {
	t.Helper()
	if out, e := Block(key, counter, nonce); e != api.ErrArg || len(out) != 0 {
		t.Errorf("Block of a key of %d and a nonce of %d: %d bytes, error %d", len(key), len(nonce), len(out), int(e))
	}
}

func wantNoStream(t *testing.T, key []byte, counter uint32, nonce, b []byte, want api.Errno) {
	t.Helper()
	if out, e := Stream(key, counter, nonce, b); e != want || len(out) != 0 {
		t.Errorf("Stream of %d bytes by the counter %d, a key of %d and a nonce of %d: %d bytes, error %d; want %d",
			len(b), counter, len(key), len(nonce), len(out), int(e), int(want))
	}
}

// room is how many bytes the blocks from a counter on suffice for.
func room(counter uint32) uint64 { return (1<<32 - uint64(counter)) * 64 }

// P15.1

func TestQuarterOfNamedWords(t *testing.T) {
	wantQuarter(t, [4]uint32{0x11111111, 0x01020304, 0x9b8d6f43, 0x01234567}, [4]uint32{0xea2a92f4, 0xcb1cf8ce, 0x4581472e, 0x5881c4bb})
	wantQuarter(t, [4]uint32{0x516461b1, 0x2a5f714c, 0x53372767, 0x3d631689}, [4]uint32{0xbdb886dc, 0xcfacafd2, 0xe46bea80, 0xccc07c79})
	wantQuarter(t, [4]uint32{0, 0, 0, 0}, [4]uint32{0, 0, 0, 0})
}

func TestQuarterOfEdgeWords(t *testing.T) {
	edges := []uint32{0, 1, 2, 0x7fffffff, 0x80000000, 0x80000001, 0xfffffffe, 0xffffffff}
	for _, a := range edges {
		for _, b := range edges {
			for _, c := range edges {
				for _, d := range edges {
					wantQuarterAsSaid(t, [4]uint32{a, b, c, d})
				}
			}
		}
	}
}

func TestQuarterOfEachBit(t *testing.T) {
	for place := range 4 {
		for bit := range 32 {
			var one [4]uint32
			one[place] = 1 << bit
			wantQuarterAsSaid(t, one)
			for i := range one {
				one[i] = ^one[i]
			}
			wantQuarterAsSaid(t, one)
		}
	}
}

func TestQuarterOfManyWords(t *testing.T) {
	random := rand.New(rand.NewSource(15))
	for range 20000 {
		wantQuarterAsSaid(t, [4]uint32{random.Uint32(), random.Uint32(), random.Uint32(), random.Uint32()})
	}
}

// P15.2

// The example of RFC 8439's section 2.3.2, with its words at each step.
func TestTheWordsOfTheNamedBlock(t *testing.T) {
	key, nonce := rising(0, 31), unhex(t, "000000090000004a00000000")
	first := firstWords(key, 1, nonce)
	if want := [16]uint32{
		0x61707865, 0x3320646e, 0x79622d32, 0x6b206574,
		0x03020100, 0x07060504, 0x0b0a0908, 0x0f0e0d0c,
		0x13121110, 0x17161514, 0x1b1a1918, 0x1f1e1d1c,
		0x00000001, 0x09000000, 0x4a000000, 0x00000000,
	}; first != want {
		t.Errorf("the first words: %x; want %x", first, want)
	}
	if want := [16]uint32{
		0x837778ab, 0xe238d763, 0xa67ae21e, 0x5950bb2f,
		0xc4f2d0c7, 0xfc62bb2f, 0x8fa018fc, 0x3f5ec7b7,
		0x335271c2, 0xf29489f3, 0xeabda8fc, 0x82e46ebd,
		0xd19c12b4, 0xb04e16de, 0x9e83d0cb, 0x4e3c50a2,
	}; turned(first) != want {
		t.Errorf("the words behind all rounds: %x; want %x", turned(first), want)
	}
	got := block(t, key, 1, nonce)
	for i, want := range []uint32{
		0xe4e7f110, 0x15593bd1, 0x1fdd0f50, 0xc47120a3,
		0xc7f4d1c7, 0x0368c033, 0x9aaa2204, 0x4e6cd4c3,
		0x466482d2, 0x09aa9f07, 0x05d7c214, 0xa2028bd9,
		0xd19c12b5, 0xb94e16de, 0xe883d0cb, 0x4e3c50a2,
	} {
		if word := binary.LittleEndian.Uint32(got[i*4:]); word != want {
			t.Errorf("the word %d of the block: %x; want %x", i, word, want)
		}
	}
}

// The block of section 2.3.2 and those of appendix A.1 of RFC 8439.
func TestBlockOfNamedKeys(t *testing.T) {
	for _, x := range []struct {
		key     []byte
		counter uint32
		nonce   []byte
		want    string
	}{
		{
			rising(0, 31), 1, unhex(t, "000000090000004a00000000"),
			"10f1e7e4d13b5915500fdd1fa32071c4c7d1f4c733c068030422aa9ac3d46c4ed2826446079faa0914c2d705d98b02a2b5129cd1de164eb9cbd083e8a2503c4e",
		},
		{
			make([]byte, 32), 0, make([]byte, 12),
			"76b8e0ada0f13d90405d6ae55386bd28bdd219b8a08ded1aa836efcc8b770dc7da41597c5157488d7724e03fb8d84a376a43b8f41518a11cc387b669b2ee6586",
		},
		{
			make([]byte, 32), 1, make([]byte, 12),
			"9f07e7be5551387a98ba977c732d080dcb0f29a048e3656912c6533e32ee7aed29b721769ce64e43d57133b074d839d531ed1f28510afb45ace10a1f4b794d6f",
		},
		{
			endingWith(1, 32), 1, make([]byte, 12),
			"3aeb5224ecf849929b9d828db1ced4dd832025e8018b8160b82284f3c949aa5a8eca00bbb4a73bdad192b5c42f73f2fd4e273644c8b36125a64addeb006c13a0",
		},
		{
			append([]byte{0, 255}, make([]byte, 30)...), 2, make([]byte, 12),
			"72d54dfbf12ec44b362692df94137f328fea8da73990265ec1bbbea1ae9af0ca13b25aa26cb4a648cb9b9d1be65b2c0924a66c54d545ec1b7374f4872e99f096",
		},
		{
			make([]byte, 32), 0, endingWith(2, 12),
			"c2c64d378cd536374ae204b9ef933fcd1a8b2288b3dfa49672ab765b54ee27c78a970e0e955c14f3a88e741b97c286f75f8fc299e8148362fa198a39531bed6d",
		},
	} {
		wantBytes(t, "Block by the counter "+strconv.Itoa(int(x.counter)), block(t, x.key, x.counter, x.nonce), unhex(t, x.want))
	}
}

// What the keys of RFC 8439's section 2.6.2 and appendix A.4 come to: there the first 32 bytes of a block are written out.
func TestTheBeginningOfNamedBlocks(t *testing.T) {
	brillig := unhex(t, "1c9240a5eb55d38af333888604f6b5f0473917c1402b80099dca5cbc207075c0")
	for _, x := range []struct {
		key, nonce []byte
		want       string
	}{
		{rising(0x80, 0x9f), unhex(t, "000000000001020304050607"), "8ad5a08b905f81cc815040274ab29471a833b637e3fd0da508dbb8e2fdd1a646"},
		{endingWith(1, 32), endingWith(2, 12), "ecfa254f845f647473d3cb140da9e87606cb33066c447b87bc2666dde3fbb739"},
		{brillig, endingWith(2, 12), "965e3bc6f9ec7ed9560808f4d229f94b137ff275ca9b3fcbdd59deaad23310ae"},
	} {
		wantBytes(t, "the beginning of a Block", block(t, x.key, 0, x.nonce)[:32], unhex(t, x.want))
	}
}

func TestBlockAtTheEdges(t *testing.T) {
	for _, counter := range edgeCounters() {
		wantBlock(t, someKey(), counter, someNonce())
		wantBlock(t, repeated(0, 32), counter, repeated(0, 12))
		wantBlock(t, repeated(255, 32), counter, repeated(255, 12))
		wantBlock(t, repeated(255, 32), counter, repeated(0, 12))
		wantBlock(t, repeated(0, 32), counter, repeated(255, 12))
	}
}

func TestBlockOfEachBit(t *testing.T) {
	key, nonce := someKey(), someNonce()
	before := block(t, key, 77, nonce)
	for _, turned := range [][]byte{key, nonce} {
		for place := range len(turned) * 8 {
			turned[place/8] ^= 1 << (place % 8)
			wantBlock(t, key, 77, nonce)
			if bytes.Equal(block(t, key, 77, nonce), before) {
				t.Errorf("the bit %d turns nothing", place)
			}
			turned[place/8] ^= 1 << (place % 8)
		}
	}
	for bit := range 32 {
		wantBlock(t, key, 77^1<<bit, nonce)
	}
}

func TestBlockOfManyKeys(t *testing.T) {
	random := rand.New(rand.NewSource(15))
	for range 2000 {
		key, nonce := make([]byte, 32), make([]byte, 12)
		random.Read(key)
		random.Read(nonce)
		wantBlock(t, key, random.Uint32(), nonce)
	}
}

func TestBlockOfWhatIsNoKeyOrNonce(t *testing.T) {
	for _, counter := range edgeCounters() {
		for _, key := range wrongKeys() {
			wantNoBlock(t, key, counter, someNonce())
			for _, nonce := range wrongNonces() {
				wantNoBlock(t, key, counter, nonce)
			}
		}
		for _, nonce := range wrongNonces() {
			wantNoBlock(t, someKey(), counter, nonce)
		}
		wantNoBlock(t, someNonce(), counter, someKey())
	}
}

// P15.3

// The text of section 2.4.2 and those of appendix A.2 of RFC 8439.
func TestStreamOfNamedTexts(t *testing.T) {
	for _, x := range []struct {
		key     []byte
		counter uint32
		nonce   []byte
		text    string
		want    string
	}{
		{
			rising(0, 31), 1, unhex(t, "000000000000004a00000000"), sunscreen,
			"6e2e359a2568f98041ba0728dd0d6981e97e7aec1d4360c20a27afccfd9fae0bf91b65c5524733ab8f593dabcd62b3571639d624e65152ab8f530c359f0861d8" +
				"07ca0dbf500d6a6156a38e088a22b65e52bc514d16ccf806818ce91ab77937365af90bbf74a35be6b40b8eedf2785e42874d",
		},
		{
			make([]byte, 32), 0, make([]byte, 12), string(make([]byte, 64)),
			"76b8e0ada0f13d90405d6ae55386bd28bdd219b8a08ded1aa836efcc8b770dc7da41597c5157488d7724e03fb8d84a376a43b8f41518a11cc387b669b2ee6586",
		},
		{
			endingWith(1, 32), 1, endingWith(2, 12),
			"Any submission to the IETF intended by the Contributor for publication as all or part of an IETF Internet-Draft or RFC and any statement made within the context of an IETF activity is considered an \"IETF Contribution\". Such statements include oral statements in IETF sessions, as well as written and electronic communications made at any time or place, which are addressed to",
			"a3fbf07df3fa2fde4f376ca23e82737041605d9f4f4f57bd8cff2c1d4b7955ec2a97948bd3722915c8f3d337f7d370050e9e96d647b7c39f56e031ca5eb6250d" +
				"4042e02785ececfa4b4bb5e8ead0440e20b6e8db09d881a7c6132f420e52795042bdfa7773d8a9051447b3291ce1411c680465552aa6c405b7764d5e87bea85a" +
				"d00f8449ed8f72d0d662ab052691ca66424bc86d2df80ea41f43abf937d3259dc4b2d0dfb48a6c9139ddd7f76966e928e635553ba76c5c879d7b35d49eb2e62b" +
				"0871cdac638939e25e8a1e0ef9d5280fa8ca328b351c3c765989cbcf3daa8b6ccc3aaf9f3979c92b3720fc88dc95ed84a1be059c6499b9fda236e7e818b04b0b" +
				"c39c1e876b193bfe5569753f88128cc08aaa9b63d1a16f80ef2554d7189c411f5869ca52c5b83fa36ff216b9c1d30062bebcfd2dc5bce0911934fda79a86f6e6" +
				"98ced759c3ff9b6477338f3da4f9cd8514ea9982ccafb341b2384dd902f3d1ab7ac61dd29c6f21ba5b862f3730e37cfdc4fd806c22f221",
		},
		{
			unhex(t, "1c9240a5eb55d38af333888604f6b5f0473917c1402b80099dca5cbc207075c0"), 42, endingWith(2, 12),
			"'Twas brillig, and the slithy toves\nDid gyre and gimble in the wabe:\nAll mimsy were the borogoves,\nAnd the mome raths outgrabe.",
			"62e6347f95ed87a45ffae7426f27a1df5fb69110044c0d73118effa95b01e5cf166d3df2d721caf9b21e5fb14c616871fd84c54f9d65b283196c7fe4f60553eb" +
				"f39c6402c42234e32a356b3e764312a61a5532055716ead6962568f87d3f3f7704c6a8d1bcd1bf4d50d6154b6da731b187b58dfd728afa36757a797ac188d1",
		},
	} {
		wantBytes(t, "Stream of a named text", stream(t, x.key, x.counter, x.nonce, []byte(x.text)), unhex(t, x.want))
	}
}

func TestStreamOfNothing(t *testing.T) {
	for _, counter := range edgeCounters() {
		for _, b := range nothings() {
			if out, e := Stream(someKey(), counter, someNonce(), b); e != api.OK || len(out) != 0 {
				t.Errorf("Stream of nothing by the counter %d: %d bytes, error %d", counter, len(out), int(e))
			}
		}
	}
}

func TestStreamAtTheEdges(t *testing.T) {
	for _, counter := range edgeCounters() {
		for _, n := range edgeLengths() {
			if uint64(n) > room(counter) {
				wantNoStream(t, someKey(), counter, someNonce(), mixed(n, 5), api.ErrLong)
				continue
			}
			wantStream(t, someKey(), counter, someNonce(), mixed(n, 5))
			wantStream(t, repeated(0, 32), counter, repeated(0, 12), repeated(0, n))
			wantStream(t, repeated(255, 32), counter, repeated(255, 12), repeated(255, n))
		}
	}
}

func TestStreamUpToTheLastBlock(t *testing.T) {
	for blocks := 1; blocks <= 5; blocks++ {
		counter := uint32(1<<32 - blocks)
		for n := 1; n <= blocks*64; n++ {
			wantStream(t, someKey(), counter, someNonce(), mixed(n, 5))
		}
		last := stream(t, someKey(), counter, someNonce(), make([]byte, blocks*64))[(blocks-1)*64:]
		wantBytes(t, "the last block", last, blockAsSaid(someKey(), lastCounter, someNonce()))
		for _, more := range []int{1, 2, 63, 64, 65, 128, 1000} {
			wantNoStream(t, someKey(), counter, someNonce(), mixed(blocks*64+more, 5), api.ErrLong)
		}
	}
}

// Many blocks, up to the last one there is, and a byte more.
func TestStreamOfManyBytes(t *testing.T) {
	const blocks = 1 << 14
	b := mixed(blocks*64, 9)
	wantStream(t, someKey(), 0, someNonce(), b)
	wantStream(t, someKey(), 1, someNonce(), b[:len(b)-1])
	wantStream(t, someKey(), 1<<16-3, someNonce(), b)
	wantStream(t, someKey(), lastCounter-blocks+1, someNonce(), b)
	wantStream(t, someKey(), lastCounter-blocks+1, someNonce(), b[:len(b)-1])
	wantNoStream(t, someKey(), lastCounter-blocks+1, someNonce(), append(b, 1), api.ErrLong)
	wantNoStream(t, someKey(), lastCounter-blocks+2, someNonce(), b, api.ErrLong)
}

// The beginning of a text comes to the beginning of what the whole comes to.
func TestTheBeginningOfStream(t *testing.T) {
	for _, counter := range []uint32{0, 1, lastCounter - 6} {
		b := mixed(400, 31)
		whole := stream(t, someKey(), counter, someNonce(), b)
		for n := range len(b) + 1 {
			wantBytes(t, "the first "+strconv.Itoa(n), stream(t, someKey(), counter, someNonce(), b[:n]), whole[:n])
		}
	}
}

func TestWhatIsBehindABlockIsTheNextCounters(t *testing.T) {
	for _, counter := range []uint32{0, 1, 255, 65535, 1<<31 - 1, lastCounter - 6} {
		b := mixed(400, 31)
		whole := stream(t, someKey(), counter, someNonce(), b)
		for blocks := range 7 {
			wantBytes(t, "behind "+strconv.Itoa(blocks)+" blocks", stream(t, someKey(), counter+uint32(blocks), someNonce(), b[blocks*64:]), whole[blocks*64:])
		}
	}
}

func TestStreamOfZerosAreTheBlocks(t *testing.T) {
	for _, counter := range []uint32{0, 1, 255, 65535, 1<<31 - 1, lastCounter - 5} {
		var blocks []byte
		for i := range 6 {
			blocks = append(blocks, block(t, someKey(), counter+uint32(i), someNonce())...)
		}
		for n := range len(blocks) + 1 {
			wantBytes(t, "Stream of "+strconv.Itoa(n)+" bytes 0", stream(t, someKey(), counter, someNonce(), make([]byte, n)), blocks[:n])
		}
	}
}

func TestStreamOfWhatIsNoKeyOrNonce(t *testing.T) {
	for _, counter := range edgeCounters() {
		for _, n := range edgeLengths() {
			b := mixed(n, 5)
			for _, key := range wrongKeys() {
				wantNoStream(t, key, counter, someNonce(), b, api.ErrArg)
				for _, nonce := range wrongNonces() {
					wantNoStream(t, key, counter, nonce, b, api.ErrArg)
				}
			}
			for _, nonce := range wrongNonces() {
				wantNoStream(t, someKey(), counter, nonce, b, api.ErrArg)
			}
			wantNoStream(t, someNonce(), counter, someKey(), b, api.ErrArg)
		}
	}
}

// Of two errors the first one is answered.
func TestAWrongKeyBesideTooManyBytes(t *testing.T) {
	tooLong := mixed(65, 1)
	wantNoStream(t, someKey(), lastCounter, someNonce(), tooLong, api.ErrLong)
	wantNoStream(t, mixed(31, 1), lastCounter, someNonce(), tooLong, api.ErrArg)
	wantNoStream(t, someKey(), lastCounter, mixed(13, 1), tooLong, api.ErrArg)
	wantNoStream(t, nil, lastCounter, nil, tooLong, api.ErrArg)
}

// P15.4

func TestStreamOfStream(t *testing.T) {
	wantBytes(t, "a text", stream(t, someKey(), 1, someNonce(), stream(t, someKey(), 1, someNonce(), []byte(sunscreen))), []byte(sunscreen))
	for _, counter := range edgeCounters() {
		for _, n := range edgeLengths() {
			if uint64(n) > room(counter) {
				continue
			}
			b := mixed(n, 5)
			once := stream(t, someKey(), counter, someNonce(), b)
			wantBytes(t, "Stream of Stream", stream(t, someKey(), counter, someNonce(), once), b)
		}
	}
}

func TestStreamOfStreamByOthersIsNotB(t *testing.T) {
	b := mixed(64, 5)
	once := stream(t, someKey(), 7, someNonce(), b)
	for _, other := range [][]byte{
		stream(t, mixed(32, 4), 7, someNonce(), once),
		stream(t, someKey(), 8, someNonce(), once),
		stream(t, someKey(), 7, mixed(12, 4), once),
	} {
		if bytes.Equal(other, b) {
			t.Error("another key, counter or nonce brings the bytes back")
		}
	}
}

func TestWhatDiffersInBytesDiffersInStream(t *testing.T) {
	for _, n := range edgeLengths() {
		one, other := mixed(n, 5), mixed(n, 93)
		got := against(stream(t, someKey(), 3, someNonce(), one), stream(t, someKey(), 3, someNonce(), other))
		wantBytes(t, "what differs in "+strconv.Itoa(n), got, against(one, other))
	}
}

func TestOneBitThatDiffers(t *testing.T) {
	b := mixed(130, 5)
	before := stream(t, someKey(), 3, someNonce(), b)
	for place := range len(b) * 8 {
		b[place/8] ^= 1 << (place % 8)
		before[place/8] ^= 1 << (place % 8)
		wantBytes(t, "the bit "+strconv.Itoa(place), stream(t, someKey(), 3, someNonce(), b), before)
		b[place/8] ^= 1 << (place % 8)
		before[place/8] ^= 1 << (place % 8)
	}
}

// R3

// withRoom are b's bytes with others behind them in the same memory, which are no call's either.
func withRoom(b []byte) []byte { return append(slices.Clone(b), repeated(99, 200)...) }

func TestWhatIsHandedInIsNotChanged(t *testing.T) {
	for _, n := range edgeLengths() {
		key, nonce, b := withRoom(someKey()), withRoom(someNonce()), withRoom(mixed(n, 5))
		keyBefore, nonceBefore, before := slices.Clone(key), slices.Clone(nonce), slices.Clone(b)
		Block(key[:32], 1, nonce[:12])
		Block(key[:31], 1, nonce[:13])
		Stream(key[:32], 1, nonce[:12], b[:n])
		Stream(key[:31], 1, nonce[:12], b[:n])
		Stream(key[:32], lastCounter, nonce[:12], b)
		wantBytes(t, "the key", key, keyBefore)
		wantBytes(t, "the nonce", nonce, nonceBefore)
		wantBytes(t, "the bytes", b, before)
	}
}

func TestOneMemoryInAllPlaces(t *testing.T) {
	for n := range 33 {
		key := someKey()
		wantBlock(t, key, 1, key[n%21:n%21+12])
		got := stream(t, key, 1, key[n%21:n%21+12], key[:n])
		wantBytes(t, "a key by itself", got, streamAsSaid(someKey(), 1, someKey()[n%21:n%21+12], someKey()[:n]))
	}
}

func TestWhatIsHandedInIsNotKept(t *testing.T) {
	for _, n := range edgeLengths() {
		key, nonce, b := someKey(), someNonce(), mixed(n, 5)
		one, many := block(t, key, 1, nonce), stream(t, key, 1, nonce, b)
		clear(key)
		clear(nonce)
		clear(b)
		wantBytes(t, "a block whose key is changed", one, blockAsSaid(someKey(), 1, someNonce()))
		wantBytes(t, "bytes whose key is changed", many, streamAsSaid(someKey(), 1, someNonce(), mixed(n, 5)))
		wantBlock(t, key, 1, nonce)
		wantStream(t, key, 1, nonce, b)
	}
}

func TestAnAnswerIsItsHoldersOwn(t *testing.T) {
	for _, n := range edgeLengths() {
		key, nonce, b := someKey(), someNonce(), mixed(n, 5)
		for _, ask := range []func() []byte{
			func() []byte { return block(t, key, 1, nonce) },
			func() []byte { return stream(t, key, 1, nonce, b) },
		} {
			want := slices.Clone(ask())
			held, another := ask(), ask()
			clear(held)
			_ = append(held[:0:cap(held)], repeated(7, cap(held))...)
			wantBytes(t, "another answer", another, want)
			wantBytes(t, "one that is asked later", ask(), want)
		}
		wantBytes(t, "the key", key, someKey())
		wantBytes(t, "the nonce", nonce, someNonce())
		wantBytes(t, "the bytes", b, mixed(n, 5))
	}
}

func TestNothingIsKeptBetweenCalls(t *testing.T) {
	first := stream(t, someKey(), 1, someNonce(), mixed(200, 5))
	block(t, mixed(32, 8), 9, mixed(12, 8))
	stream(t, mixed(32, 8), 9, mixed(12, 8), mixed(300, 8))
	Stream(someKey(), lastCounter, someNonce(), mixed(200, 5))
	Stream(nil, 1, nil, nil)
	wantBytes(t, "the same once more", stream(t, someKey(), 1, someNonce(), mixed(200, 5)), first)
}

// R1

// holdAll holds all that the calls answer against the chapter's words, whatever is handed in.
func holdAll(t *testing.T, key []byte, counter uint32, nonce, b []byte) {
	t.Helper()
	if len(key) != 32 || len(nonce) != 12 {
		wantNoBlock(t, key, counter, nonce)
		wantNoStream(t, key, counter, nonce, b, api.ErrArg)
		return
	}
	wantBlock(t, key, counter, nonce)
	if uint64(len(b)) > room(counter) {
		wantNoStream(t, key, counter, nonce, b, api.ErrLong)
		return
	}
	wantStream(t, key, counter, nonce, b)
	wantBytes(t, "Stream of Stream", stream(t, key, counter, nonce, stream(t, key, counter, nonce, b)), b)
}

func TestNothingPanics(t *testing.T) {
	random := rand.New(rand.NewSource(15))
	some := func(usual, most int) []byte {
		n := usual
		if random.Intn(4) == 0 {
			n = random.Intn(most)
		}
		if n == 0 && random.Intn(2) == 0 {
			return nil
		}
		b := make([]byte, n)
		random.Read(b)
		return b
	}
	for range 3000 {
		counter := random.Uint32()
		if random.Intn(2) == 0 {
			counter = lastCounter - uint32(random.Intn(6))
		}
		holdAll(t, some(32, 70), counter, some(12, 30), some(random.Intn(200), 400))
	}
}

func FuzzStream(f *testing.F) {
	f.Add([]byte(nil), uint32(0), []byte(nil), []byte(nil))
	f.Add(rising(0, 31), uint32(1), mixed(12, 1), []byte(sunscreen))
	f.Add(mixed(32, 1), uint32(lastCounter), mixed(12, 2), mixed(64, 3))
	f.Add(mixed(32, 1), uint32(lastCounter), mixed(12, 2), mixed(65, 3))
	f.Add(mixed(31, 1), uint32(lastCounter), mixed(13, 2), mixed(65, 3))
	f.Fuzz(holdAll)
}

func FuzzQuarter(f *testing.F) {
	f.Add(uint32(0x11111111), uint32(0x01020304), uint32(0x9b8d6f43), uint32(0x01234567))
	f.Add(uint32(math.MaxUint32), uint32(math.MaxUint32), uint32(math.MaxUint32), uint32(math.MaxUint32))
	f.Fuzz(func(t *testing.T, a, b, c, d uint32) { wantQuarterAsSaid(t, [4]uint32{a, b, c, d}) })
}
