package aead

import (
	"bytes"
	"encoding/binary"
	"encoding/hex"
	"math/big"
	"math/rand"
	"slices"
	"testing"

	"casket/api"
	"casket/chacha"
	"casket/poly"
)

// The texts that RFC 8439 seals, in its section 2.8.2 and its appendix A.5.
const (
	sunscreen = "Ladies and Gentlemen of the class of '99: If I could offer you only one tip for the future, sunscreen would be it."
	drafts    = "Internet-Drafts are draft documents valid for a maximum of six months and may be updated, replaced, or obsoleted by other documents at any time. It is inappropriate to use Internet-Drafts as reference material or to cite them other than as /\u201cwork in progress./\u201d"
)

// named is a sealing that is written out, in hexadecimal digits but for the text.
type named struct{ key, nonce, ad, plain, c, tag string }

// namedSealings are those of RFC 8439.
func namedSealings() []named {
	return []named{
		{
			key:   "808182838485868788898a8b8c8d8e8f909192939495969798999a9b9c9d9e9f",
			nonce: "070000004041424344454647",
			ad:    "50515253c0c1c2c3c4c5c6c7",
			plain: sunscreen,
			c: "d31a8d34648e60db7b86afbc53ef7ec2a4aded51296e08fea9e2b5a736ee62d6" +
				"3dbea45e8ca9671282fafb69da92728b1a71de0a9e060b2905d6a5b67ecd3b36" +
				"92ddbd7f2d778b8c9803aee328091b58fab324e4fad675945585808b4831d7bc" +
				"3ff4def08e4b7a9de576d26586cec64b6116",
			tag: "1ae10b594f09e26a7e902ecbd0600691",
		},
		{
			key:   "1c9240a5eb55d38af333888604f6b5f0473917c1402b80099dca5cbc207075c0",
			nonce: "000000000102030405060708",
			ad:    "f33388860000000000004e91",
			plain: drafts,
			c: "64a0861575861af460f062c79be643bd5e805cfd345cf389f108670ac76c8cb2" +
				"4c6cfc18755d43eea09ee94e382d26b0bdb7b73c321b0100d4f03b7f355894cf" +
				"332f830e710b97ce98c8a84abd0b948114ad176e008d33bd60f982b1ff37c855" +
				"9797a06ef4f0ef61c186324e2b3506383606907b6a7c02b0f9f6157b53c867e4" +
				"b9166c767b804d46a59b5216cde7a4e99040c5a40433225ee282a1b0a06c523e" +
				"af4534d7f83fa1155b0047718cbc546a0d072b04b3564eea1b422273f548271a" +
				"0bb2316053fa76991955ebd63159434ecebb4e466dae5a1073a6727627097a10" +
				"49e617d91d361094fa68f0ff77987130305beaba2eda04df997b714d6c6f2c29" +
				"a6ad5cb4022b02709b",
			tag: "eead9d67890cbb22392336fea1851f38",
		},
	}
}

// mixed are n bytes that tell their places apart.
func mixed(n int, from byte) []byte {
	out := make([]byte, n)
	for i := range out {
		out[i] = byte(i*7) + from
	}
	return out
}

func someKey() []byte   { return mixed(api.KeySize, 3) }
func someNonce() []byte { return mixed(api.NonceSize, 200) }

func repeated(v byte, n int) []byte { return bytes.Repeat([]byte{v}, n) }

// nothings are the lists without bytes.
func nothings() [][]byte { return [][]byte{nil, {}, []byte{1, 2, 3}[1:1]} }

// edgeLengths are those at which a piece or a block is full, or lacks one byte, or needs one more.
func edgeLengths() []int {
	return []int{0, 1, 2, 15, 16, 17, 31, 32, 33, 63, 64, 65, 127, 128, 129, 255, 256, 257, 300, 500}
}

// fewLengths are for tests that go through much at each of them.
func fewLengths() []int { return []int{0, 1, 15, 16, 17, 33, 64, 65} }

// wrongKeys are those that are none.
func wrongKeys() [][]byte {
	out := nothings()
	for _, n := range []int{1, 12, 16, 31, 33, 64, 288} {
		out = append(out, mixed(n, 3), repeated(0, n))
	}
	return out
}

// wrongNonces are those that are none.
func wrongNonces() [][]byte {
	out := nothings()
	for _, n := range []int{1, 8, 11, 13, 16, 24, 32, 268} {
		out = append(out, mixed(n, 200), repeated(0, n))
	}
	return out
}

func unhex(t *testing.T, text string) []byte {
	t.Helper()
	b, err := hex.DecodeString(text)
	if err != nil {
		t.Fatal(err)
	}
	return b
}

// blockOf is chacha's block, of what must be a key and a nonce.
func blockOf(t *testing.T, key []byte, counter int, nonce []byte) []byte {
	t.Helper()
	block, e := chacha.Block(key, uint32(counter), nonce)
	if e != api.OK || len(block) != 64 {
		t.Fatalf("a block of %d bytes, error %d", len(block), int(e))
	}
	return block
}

// streamAsSaid holds the blocks of the counters from 1 on against b, byte by byte.
func streamAsSaid(t *testing.T, key, nonce, b []byte) []byte {
	t.Helper()
	var out, block []byte
	for i, each := range b {
		if i%64 == 0 {
			block = blockOf(t, key, 1+i/64, nonce)
		}
		out = append(out, each^block[i%64])
	}
	return out
}

// filledUpAsSaid has as few bytes 0 behind b as make its length a multiple of 16.
func filledUpAsSaid(b []byte) []byte {
	out := slices.Clone(b)
	for len(out)%16 != 0 {
		out = append(out, 0)
	}
	return out
}

// taggedAsSaid is what P17.1 tags.
func taggedAsSaid(ad, c []byte) []byte {
	out := slices.Concat(filledUpAsSaid(ad), filledUpAsSaid(c))
	out = binary.LittleEndian.AppendUint64(out, uint64(len(ad)))
	return binary.LittleEndian.AppendUint64(out, uint64(len(c)))
}

func tagAsSaid(t *testing.T, key, nonce, ad, c []byte) []byte {
	t.Helper()
	tag, e := poly.MAC(blockOf(t, key, 0, nonce)[:32], taggedAsSaid(ad, c))
	if e != api.OK || len(tag) != 16 {
		t.Fatalf("a tag of %d bytes, error %d", len(tag), int(e))
	}
	return tag
}

// sealedAsSaid is P17.1, put together of chacha's and poly's answers, by a key and a nonce.
func sealedAsSaid(t *testing.T, key, nonce, ad, plain []byte) []byte {
	t.Helper()
	c := streamAsSaid(t, key, nonce, plain)
	return slices.Concat(c, tagAsSaid(t, key, nonce, ad, c))
}

// openedAsSaid is P17.2, whatever is handed in.
func openedAsSaid(t *testing.T, key, nonce, ad, sealed []byte) ([]byte, api.Errno) {
	t.Helper()
	if len(key) != 32 || len(nonce) != 12 {
		return nil, api.ErrArg
	}
	if len(sealed) < 16 {
		return nil, api.ErrShort
	}
	c, tag := sealed[:len(sealed)-16], sealed[len(sealed)-16:]
	if !bytes.Equal(tag, tagAsSaid(t, key, nonce, ad, c)) {
		return nil, api.ErrAuth
	}
	return streamAsSaid(t, key, nonce, c), api.OK
}

func wantBytes(t *testing.T, what string, got, want []byte) {
	t.Helper()
	if !bytes.Equal(got, want) {
		t.Errorf("%s: %x; want %x", what, got, want)
	}
}

// seal is Seal's answer where there must be one.
func seal(t *testing.T, key, nonce, ad, plain []byte) []byte {
	t.Helper()
	sealed, e := Seal(key, nonce, ad, plain)
	if e != api.OK || len(sealed) != len(plain)+16 {
		t.Fatalf("Seal of %d bytes beside %d: %d bytes, error %d", len(plain), len(ad), len(sealed), int(e))
	}
	return sealed
}

// open is Open's answer where there must be one.
func open(t *testing.T, key, nonce, ad, sealed []byte) []byte {
	t.Helper()
	plain, e := Open(key, nonce, ad, sealed)
	if e != api.OK || len(plain) != len(sealed)-16 {
		t.Fatalf("Open of %d bytes beside %d: %d bytes, error %d", len(sealed), len(ad), len(plain), int(e))
	}
	return plain
}

// wantSealed holds Seal against the chapter's words, and Open of it against the text.
func wantSealed(t *testing.T, key, nonce, ad, plain []byte) []byte {
	t.Helper()
	sealed := seal(t, key, nonce, ad, plain)
	wantBytes(t, "Seal", sealed, sealedAsSaid(t, key, nonce, ad, plain))
	wantBytes(t, "Open of Seal", open(t, key, nonce, ad, sealed), plain)
	return sealed
}

func wantNoSeal(t *testing.T, key, nonce, ad, plain []byte, want api.Errno) {
	t.Helper()
	if sealed, e := Seal(key, nonce, ad, plain); e != want || len(sealed) != 0 {
		t.Errorf("Seal of %d bytes beside %d, by a key of %d and a nonce of %d: %d bytes, error %d; want error %d", len(plain), len(ad), len(key), len(nonce), len(sealed), int(e), int(want))
	}
}

func wantNoOpen(t *testing.T, what string, key, nonce, ad, sealed []byte, want api.Errno) {
	t.Helper()
	if plain, e := Open(key, nonce, ad, sealed); e != want || len(plain) != 0 {
		t.Errorf("Open of %d bytes beside %d, by a key of %d and a nonce of %d (%s): %d bytes, error %d; want error %d", len(sealed), len(ad), len(key), len(nonce), what, len(plain), int(e), int(want))
	}
}

// P17.1

func TestTheNamedSealings(t *testing.T) {
	for _, x := range namedSealings() {
		key, nonce, ad := unhex(t, x.key), unhex(t, x.nonce), unhex(t, x.ad)
		want := unhex(t, x.c+x.tag)
		wantBytes(t, "a named sealing", seal(t, key, nonce, ad, []byte(x.plain)), want)
		wantBytes(t, "the chapter's words of it", sealedAsSaid(t, key, nonce, ad, []byte(x.plain)), want)
		wantBytes(t, "a named sealing, opened", open(t, key, nonce, ad, want), []byte(x.plain))
	}
}

// The tags' keys that RFC 8439 writes out, in its sections 2.6.2 and 2.8.2 and its appendix A.4.
func TestTheNamedTagKeys(t *testing.T) {
	zeros := "0000000000000000000000000000000000000000000000000000000000000000"
	rising := "808182838485868788898a8b8c8d8e8f909192939495969798999a9b9c9d9e9f"
	for _, x := range []struct{ key, nonce, want string }{
		{rising, "000000000001020304050607", "8ad5a08b905f81cc815040274ab29471a833b637e3fd0da508dbb8e2fdd1a646"},
		{rising, "070000004041424344454647", "7bac2b252db447af09b67a55a4e955840ae1d6731075d9eb2a9375783ed553ff"},
		{zeros, zeros[:24], "76b8e0ada0f13d90405d6ae55386bd28bdd219b8a08ded1aa836efcc8b770dc7"},
		{zeros[:62] + "01", zeros[:22] + "02", "ecfa254f845f647473d3cb140da9e87606cb33066c447b87bc2666dde3fbb739"},
		{"1c9240a5eb55d38af333888604f6b5f0473917c1402b80099dca5cbc207075c0", zeros[:22] + "02", "965e3bc6f9ec7ed9560808f4d229f94b137ff275ca9b3fcbdd59deaad23310ae"},
	} {
		key, nonce := unhex(t, x.key), unhex(t, x.nonce)
		once, e := tagKey(key, nonce)
		if e != api.OK {
			t.Fatalf("a tag's key: error %d", int(e))
		}
		wantBytes(t, "a tag's key", once, unhex(t, x.want))
		tag, e := poly.MAC(unhex(t, x.want), make([]byte, 16))
		if e != api.OK {
			t.Fatalf("a tag: error %d", int(e))
		}
		wantBytes(t, "Seal of nothing, by a named tag's key", seal(t, key, nonce, nil, nil), tag)
	}
}

// What is tagged of the text of RFC 8439's section 2.8.2 is written out there.
func TestWhatIsTaggedOfTheNamedText(t *testing.T) {
	x := namedSealings()[0]
	want := unhex(t, x.ad+"00000000"+x.c+"0000000000000000000000000000"+"0c00000000000000"+"7200000000000000")
	wantBytes(t, "what is tagged", tagged(unhex(t, x.ad), unhex(t, x.c)), want)
	wantBytes(t, "what is tagged, by the chapter's words", taggedAsSaid(unhex(t, x.ad), unhex(t, x.c)), want)
}

func TestWhatIsTagged(t *testing.T) {
	for n := range 70 {
		for m := range 70 {
			ad, c := mixed(n, 9), mixed(m, 60)
			wantBytes(t, "what is tagged", tagged(ad, c), taggedAsSaid(ad, c))
		}
	}
	wantBytes(t, "what is tagged of much", tagged(mixed(65537, 9), mixed(1<<24+3, 60)), taggedAsSaid(mixed(65537, 9), mixed(1<<24+3, 60)))
}

func TestSealOfNothingIsTheTagAlone(t *testing.T) {
	for _, n := range edgeLengths() {
		ad := mixed(n, 9)
		want := tagAsSaid(t, someKey(), someNonce(), ad, nil)
		for _, plain := range nothings() {
			wantBytes(t, "Seal of nothing", wantSealed(t, someKey(), someNonce(), ad, plain), want)
		}
	}
}

// No bytes and nil are alike, in either place and in both.
func TestNothingsAreAlike(t *testing.T) {
	for _, n := range edgeLengths() {
		beside := seal(t, someKey(), someNonce(), mixed(n, 9), nil)
		text := seal(t, someKey(), someNonce(), nil, mixed(n, 60))
		for _, none := range nothings() {
			wantBytes(t, "with no text", seal(t, someKey(), someNonce(), mixed(n, 9), none), beside)
			wantBytes(t, "with nothing beside", seal(t, someKey(), someNonce(), none, mixed(n, 60)), text)
			wantBytes(t, "with nothing beside, opened", open(t, someKey(), someNonce(), none, text), mixed(n, 60))
		}
	}
	want := sealedAsSaid(t, someKey(), someNonce(), nil, nil)
	for _, ad := range nothings() {
		for _, plain := range nothings() {
			wantBytes(t, "with nothing at all", wantSealed(t, someKey(), someNonce(), ad, plain), want)
		}
	}
}

func TestSealAtTheEdges(t *testing.T) {
	for _, n := range edgeLengths() {
		for _, m := range edgeLengths() {
			wantSealed(t, someKey(), someNonce(), mixed(n, 9), mixed(m, 60))
			wantSealed(t, repeated(255, 32), repeated(255, 12), repeated(255, n), repeated(255, m))
			wantSealed(t, repeated(0, 32), repeated(0, 12), repeated(0, n), repeated(0, m))
		}
	}
}

func TestSealOfEachLength(t *testing.T) {
	for n := range 200 {
		wantSealed(t, someKey(), someNonce(), mixed(n, 9), mixed(40, 60))
		wantSealed(t, someKey(), someNonce(), mixed(13, 9), mixed(n, 60))
	}
}

func TestSealOfManyBytes(t *testing.T) {
	for _, n := range []int{4096, 65535, 65536, 65537} {
		wantSealed(t, someKey(), someNonce(), mixed(n, 9), mixed(n+1, 60))
	}
	wantSealed(t, someKey(), someNonce(), nil, mixed(api.MaxBucket, 60))
}

// The text is held against the blocks from the counter 1 on: the block of the counter 0 makes the tag's key alone.
func TestTheTextsBlocks(t *testing.T) {
	for _, n := range edgeLengths() {
		var blocks []byte
		for counter := 1; len(blocks) < n; counter++ {
			blocks = append(blocks, blockOf(t, someKey(), counter, someNonce())...)
		}
		sealed := seal(t, someKey(), someNonce(), mixed(5, 9), make([]byte, n))
		wantBytes(t, "Seal of zeros", sealed[:n], blocks[:n])
	}
}

// What is beside turns the tag alone.
func TestWhatIsBesideIsNotInTheText(t *testing.T) {
	for _, n := range fewLengths() {
		plain := mixed(n, 60)
		c := seal(t, someKey(), someNonce(), nil, plain)[:n]
		for _, m := range edgeLengths() {
			wantBytes(t, "the text beside others", seal(t, someKey(), someNonce(), mixed(m, 9), plain)[:n], c)
		}
	}
}

func TestSealOfManyKeys(t *testing.T) {
	random := rand.New(rand.NewSource(17))
	for range 2000 {
		key, nonce := make([]byte, 32), make([]byte, 12)
		ad, plain := make([]byte, random.Intn(100)), make([]byte, random.Intn(200))
		for _, b := range [][]byte{key, nonce, ad, plain} {
			random.Read(b)
		}
		wantSealed(t, key, nonce, ad, plain)
	}
}

// Each bit of the key, the nonce, what is beside and the text turns the tag.
func TestEachBitCounts(t *testing.T) {
	in := [][]byte{someKey(), someNonce(), mixed(17, 9), mixed(33, 60)}
	before := seal(t, in[0], in[1], in[2], in[3])
	for place, b := range in {
		for bit := range len(b) * 8 {
			b[bit/8] ^= 1 << (bit % 8)
			sealed := wantSealed(t, in[0], in[1], in[2], in[3])
			if bytes.Equal(sealed[33:], before[33:]) {
				t.Errorf("the bit %d of the argument %d does not turn the tag", bit, place)
			}
			b[bit/8] ^= 1 << (bit % 8)
		}
	}
}

func TestSealOfWhatIsNoKeyOrNonce(t *testing.T) {
	for _, n := range fewLengths() {
		ad, plain := mixed(n, 9), mixed(n, 60)
		for _, key := range wrongKeys() {
			wantNoSeal(t, key, someNonce(), ad, plain, api.ErrArg)
			wantNoSeal(t, key, someNonce(), nil, nil, api.ErrArg)
			for _, nonce := range wrongNonces() {
				wantNoSeal(t, key, nonce, ad, plain, api.ErrArg)
			}
		}
		for _, nonce := range wrongNonces() {
			wantNoSeal(t, someKey(), nonce, ad, plain, api.ErrArg)
			wantNoSeal(t, someKey(), nonce, nil, nil, api.ErrArg)
		}
	}
	wantNoSeal(t, someNonce(), someKey(), nil, nil, api.ErrArg)
	wantNoSeal(t, nil, nil, nil, nil, api.ErrArg)
}

// P17.2

// ErrArg comes first, whether the bytes are too short, or their tag does not fit, or all else is well.
func TestOpenOfWhatIsNoKeyOrNonce(t *testing.T) {
	sealed := seal(t, someKey(), someNonce(), mixed(5, 9), mixed(20, 60))
	turned := slices.Clone(sealed)
	turned[35] ^= 1
	for _, b := range [][]byte{nil, {}, sealed[:1], sealed[:15], sealed[:16], sealed[:17], sealed, turned} {
		for _, key := range wrongKeys() {
			wantNoOpen(t, "no key", key, someNonce(), mixed(5, 9), b, api.ErrArg)
			for _, nonce := range wrongNonces() {
				wantNoOpen(t, "no key and no nonce", key, nonce, mixed(5, 9), b, api.ErrArg)
			}
		}
		for _, nonce := range wrongNonces() {
			wantNoOpen(t, "no nonce", someKey(), nonce, mixed(5, 9), b, api.ErrArg)
		}
		wantNoOpen(t, "a key for a nonce", someNonce(), someKey(), mixed(5, 9), b, api.ErrArg)
	}
}

func TestOpenOfTooFewBytes(t *testing.T) {
	for _, m := range edgeLengths() {
		sealed := seal(t, someKey(), someNonce(), mixed(m, 9), nil)
		for n := range 16 {
			wantNoOpen(t, "a tag's beginning", someKey(), someNonce(), mixed(m, 9), sealed[:n], api.ErrShort)
			wantNoOpen(t, "a tag's end", someKey(), someNonce(), mixed(m, 9), sealed[16-n:], api.ErrShort)
			wantNoOpen(t, "others", someKey(), someNonce(), mixed(m, 9), mixed(n, 1), api.ErrShort)
		}
		for _, none := range nothings() {
			wantNoOpen(t, "none", someKey(), someNonce(), mixed(m, 9), none, api.ErrShort)
		}
	}
}

func TestOpenOfATagAlone(t *testing.T) {
	for _, n := range edgeLengths() {
		ad := mixed(n, 9)
		wantBytes(t, "a tag alone, opened", open(t, someKey(), someNonce(), ad, tagAsSaid(t, someKey(), someNonce(), ad, nil)), nil)
		for _, b := range [][]byte{repeated(0, 16), repeated(255, 16), mixed(16, 1)} {
			wantNoOpen(t, "16 other bytes", someKey(), someNonce(), ad, b, api.ErrAuth)
		}
	}
}

// Whoever makes the tag, bytes are opened that it fits.
func TestOpenOfBytesWithTheirTag(t *testing.T) {
	for _, n := range edgeLengths() {
		for _, m := range edgeLengths() {
			ad, c := mixed(n, 9), mixed(m, 60)
			sealed := slices.Concat(c, tagAsSaid(t, someKey(), someNonce(), ad, c))
			wantBytes(t, "Open", open(t, someKey(), someNonce(), ad, sealed), streamAsSaid(t, someKey(), someNonce(), c))
		}
	}
}

func TestEachTurnedBitIsRefused(t *testing.T) {
	for _, x := range namedSealings() {
		key, nonce, ad, sealed := unhex(t, x.key), unhex(t, x.nonce), unhex(t, x.ad), unhex(t, x.c+x.tag)
		wantTurnedRefused(t, key, nonce, ad, sealed)
	}
	for _, n := range fewLengths() {
		for _, m := range fewLengths() {
			ad := mixed(n, 9)
			wantTurnedRefused(t, someKey(), someNonce(), ad, seal(t, someKey(), someNonce(), ad, mixed(m, 60)))
		}
	}
}

// wantTurnedRefused turns each bit of what is sealed, and of what is beside, for itself.
func wantTurnedRefused(t *testing.T, key, nonce, ad, sealed []byte) {
	t.Helper()
	for _, b := range [][]byte{sealed, ad} {
		for bit := range len(b) * 8 {
			b[bit/8] ^= 1 << (bit % 8)
			wantNoOpen(t, "a turned bit", key, nonce, ad, sealed, api.ErrAuth)
			b[bit/8] ^= 1 << (bit % 8)
		}
	}
	open(t, key, nonce, ad, sealed)
}

// Two bits that are turned alike take nothing back of one another.
func TestTwoTurnedBytesOfTheTag(t *testing.T) {
	sealed := seal(t, someKey(), someNonce(), mixed(5, 9), mixed(20, 60))
	for i := 20; i < 36; i++ {
		for j := 20; j < i; j++ {
			for _, by := range []byte{1, 128, 255} {
				turned := slices.Clone(sealed)
				turned[i] ^= by
				turned[j] ^= by
				wantNoOpen(t, "two turned bytes", someKey(), someNonce(), mixed(5, 9), turned, api.ErrAuth)
			}
		}
	}
}

func TestOtherBytesBeside(t *testing.T) {
	for _, n := range edgeLengths() {
		for _, m := range fewLengths() {
			ad := mixed(n, 9)
			sealed := seal(t, someKey(), someNonce(), ad, mixed(m, 60))
			for _, more := range []byte{0, 1, 255} {
				wantNoOpen(t, "one more behind", someKey(), someNonce(), append(slices.Clone(ad), more), sealed, api.ErrAuth)
				wantNoOpen(t, "one more ahead", someKey(), someNonce(), append([]byte{more}, ad...), sealed, api.ErrAuth)
			}
			if n > 0 {
				wantNoOpen(t, "one fewer behind", someKey(), someNonce(), ad[:n-1], sealed, api.ErrAuth)
				wantNoOpen(t, "one fewer ahead", someKey(), someNonce(), ad[1:], sealed, api.ErrAuth)
				wantNoOpen(t, "none", someKey(), someNonce(), nil, sealed, api.ErrAuth)
			}
		}
	}
}

func TestSealedBytesCutOffOrWithMore(t *testing.T) {
	for _, n := range fewLengths() {
		for _, m := range edgeLengths() {
			ad := mixed(n, 9)
			sealed := seal(t, someKey(), someNonce(), ad, mixed(m, 60))
			for end := 16; end < len(sealed); end++ {
				wantNoOpen(t, "cut off behind", someKey(), someNonce(), ad, sealed[:end], api.ErrAuth)
				wantNoOpen(t, "cut off ahead", someKey(), someNonce(), ad, sealed[len(sealed)-end:], api.ErrAuth)
			}
			for _, more := range []byte{0, 1, 255} {
				wantNoOpen(t, "one more behind", someKey(), someNonce(), ad, append(slices.Clone(sealed), more), api.ErrAuth)
				wantNoOpen(t, "one more ahead", someKey(), someNonce(), ad, append([]byte{more}, sealed...), api.ErrAuth)
				within := slices.Concat(sealed[:m], []byte{more}, sealed[m:])
				wantNoOpen(t, "one more ahead of the tag", someKey(), someNonce(), ad, within, api.ErrAuth)
			}
			wantNoOpen(t, "the tag twice", someKey(), someNonce(), ad, slices.Concat(sealed, sealed[m:]), api.ErrAuth)
		}
	}
}

func TestAnotherKeyOrNonce(t *testing.T) {
	for _, n := range fewLengths() {
		key, nonce, ad := someKey(), someNonce(), mixed(5, 9)
		sealed := seal(t, key, nonce, ad, mixed(n, 60))
		for _, b := range [][]byte{key, nonce} {
			for bit := range len(b) * 8 {
				b[bit/8] ^= 1 << (bit % 8)
				wantNoOpen(t, "another key or nonce", key, nonce, ad, sealed, api.ErrAuth)
				b[bit/8] ^= 1 << (bit % 8)
			}
		}
		wantNoOpen(t, "the key 0", make([]byte, 32), nonce, ad, sealed, api.ErrAuth)
		wantNoOpen(t, "the nonce 0", key, make([]byte, 12), ad, sealed, api.ErrAuth)
	}
}

// Bytes 0 at the end are bytes like others, though what fills a piece up are bytes 0, too.
func TestBytesZeroAtTheEndOfWhatIsBeside(t *testing.T) {
	for n := range 34 {
		for zeros := range 18 {
			ad := slices.Concat(mixed(n, 9), make([]byte, zeros))
			sealed := wantSealed(t, someKey(), someNonce(), ad, mixed(20, 60))
			for fewer := range zeros {
				wantNoOpen(t, "fewer bytes 0 beside", someKey(), someNonce(), ad[:n+fewer], sealed, api.ErrAuth)
			}
		}
	}
}

func TestBytesZeroAtTheEndOfWhatIsSealed(t *testing.T) {
	for n := range 34 {
		for zeros := range 18 {
			c := slices.Concat(mixed(n, 60), make([]byte, zeros))
			tag := tagAsSaid(t, someKey(), someNonce(), mixed(5, 9), c)
			open(t, someKey(), someNonce(), mixed(5, 9), slices.Concat(c, tag))
			for fewer := range zeros {
				wantNoOpen(t, "fewer bytes 0", someKey(), someNonce(), mixed(5, 9), slices.Concat(c[:n+fewer], tag), api.ErrAuth)
			}
		}
	}
}

// The same bytes in all, cut in two at each place: only where they are cut as they were does the tag fit.
func TestBytesThatGoOver(t *testing.T) {
	for _, all := range [][]byte{mixed(80, 9), make([]byte, 80), repeated(255, 67)} {
		for cut := range len(all) + 1 {
			tag := tagAsSaid(t, someKey(), someNonce(), all[:cut], all[cut:])
			plain := streamAsSaid(t, someKey(), someNonce(), all[cut:])
			wantBytes(t, "Seal", seal(t, someKey(), someNonce(), all[:cut], plain), slices.Concat(all[cut:], tag))
			for other := range len(all) + 1 {
				sealed := slices.Concat(all[other:], tag)
				if other == cut {
					wantBytes(t, "Open", open(t, someKey(), someNonce(), all[:cut], sealed), plain)
				} else {
					wantNoOpen(t, "bytes that went over", someKey(), someNonce(), all[:other], sealed, api.ErrAuth)
				}
			}
		}
	}
}

func TestWhatIsBesideForWhatIsSealed(t *testing.T) {
	for _, n := range []int{1, 15, 16, 17, 32, 64} {
		ad, c := mixed(n, 9), mixed(n, 60)
		tag := tagAsSaid(t, someKey(), someNonce(), ad, c)
		open(t, someKey(), someNonce(), ad, slices.Concat(c, tag))
		wantNoOpen(t, "the one for the other", someKey(), someNonce(), c, slices.Concat(ad, tag), api.ErrAuth)
	}
}

// P17.3

// What is sealed may be sealed itself, and is opened as often.
func TestSealOfSeal(t *testing.T) {
	for _, n := range edgeLengths() {
		b := mixed(n, 60)
		for i := range 5 {
			b = wantSealed(t, someKey(), mixed(12, byte(i)), mixed(i*9, 9), b)
		}
		for i := 4; i >= 0; i-- {
			b = open(t, someKey(), mixed(12, byte(i)), mixed(i*9, 9), b)
		}
		wantBytes(t, "what was sealed five times", b, mixed(n, 60))
	}
}

func TestWhatOpensIsWhatSealTells(t *testing.T) {
	random := rand.New(rand.NewSource(17))
	for range 2000 {
		ad, c := make([]byte, random.Intn(70)), make([]byte, random.Intn(150))
		random.Read(ad)
		random.Read(c)
		sealed := slices.Concat(c, tagAsSaid(t, someKey(), someNonce(), ad, c))
		wantBytes(t, "Seal of Open", seal(t, someKey(), someNonce(), ad, open(t, someKey(), someNonce(), ad, sealed)), sealed)
	}
}

// bigOf are bytes as a number, the lowest one first.
func bigOf(b []byte) *big.Int {
	turned := slices.Clone(b)
	slices.Reverse(turned)
	return new(big.Int).SetBytes(turned)
}

// multiplier is the r of a tag's key (P16.1).
func multiplier(once []byte) *big.Int {
	r := slices.Clone(once[:16])
	for _, i := range []int{3, 7, 11, 15} {
		r[i] &= 15
	}
	for _, i := range []int{4, 8, 12} {
		r[i] &= 252
	}
	return bigOf(r)
}

// forged are two pieces of 16 bytes, other ones than these, that turn no tag by that r where they stand for these one behind the other:
// what the first one is greater by is taken off the second one, times r.
func forged(t *testing.T, r *big.Int, two []byte) []byte {
	t.Helper()
	prime := new(big.Int).Sub(new(big.Int).Lsh(big.NewInt(1), 130), big.NewInt(5))
	mark := new(big.Int).Lsh(big.NewInt(1), 128)
	first, second := bigOf(two[:16]), new(big.Int).Add(mark, bigOf(two[16:]))
	for more := range int64(1000) {
		by := big.NewInt(more + 1)
		n := new(big.Int).Sub(second, new(big.Int).Mul(by, r))
		n.Mod(n, prime)
		if n.BitLen() != 129 {
			continue
		}
		a := new(big.Int).Mod(new(big.Int).Add(first, by), mark).FillBytes(make([]byte, 16))
		b := n.Sub(n, mark).FillBytes(make([]byte, 16))
		slices.Reverse(a)
		slices.Reverse(b)
		return slices.Concat(a, b)
	}
	t.Fatal("nothing is found that has the same tag")
	return nil
}

// Who has the key makes others that have the same tag: these are opened, by it.
func TestATagThatIsThatOfOthersToo(t *testing.T) {
	r := multiplier(blockOf(t, someKey(), 0, someNonce()))
	for _, x := range []struct{ beside, at int }{{32, 0}, {48, 16}, {16, 0}, {16, 16}, {0, 0}, {32, 48}} {
		all := mixed(96, 9)
		others := slices.Concat(all[:x.at], forged(t, r, all[x.at:x.at+32]), all[x.at+32:])
		if bytes.Equal(all, others) {
			t.Fatal("the others are these")
		}
		ad, c := others[:x.beside], others[x.beside:]
		tag := tagAsSaid(t, someKey(), someNonce(), all[:x.beside], all[x.beside:])
		plain := open(t, someKey(), someNonce(), ad, slices.Concat(c, tag))
		wantBytes(t, "others of the same tag, opened", plain, streamAsSaid(t, someKey(), someNonce(), c))
		wantBytes(t, "and sealed", seal(t, someKey(), someNonce(), ad, plain), slices.Concat(c, tag))
		others[x.at] ^= 1
		wantNoOpen(t, "others of another tag", someKey(), someNonce(), ad, slices.Concat(c, tag), api.ErrAuth)
	}
}

// R3

// withRoom are b's bytes with others behind them in the same memory, which are no call's either.
func withRoom(b []byte) []byte { return append(slices.Clone(b), repeated(99, 200)...) }

func TestWhatIsHandedInIsNotChanged(t *testing.T) {
	for _, n := range fewLengths() {
		for _, m := range edgeLengths() {
			key, nonce, ad, plain := withRoom(someKey()), withRoom(someNonce()), withRoom(mixed(n, 9)), withRoom(mixed(m, 60))
			sealed := withRoom(sealedAsSaid(t, someKey(), someNonce(), mixed(n, 9), mixed(m, 60)))
			all := [][]byte{key, nonce, ad, plain, sealed}
			var before [][]byte
			for _, b := range all {
				before = append(before, slices.Clone(b))
			}
			wantBytes(t, "Seal", seal(t, key[:32], nonce[:12], ad[:n], plain[:m]), sealed[:m+16])
			wantBytes(t, "Open", open(t, key[:32], nonce[:12], ad[:n], sealed[:m+16]), plain[:m])
			wantNoOpen(t, "more bytes", key[:32], nonce[:12], ad[:n], sealed[:m+17], api.ErrAuth)
			wantNoOpen(t, "few bytes", key[:32], nonce[:12], ad[:n], sealed[:15], api.ErrShort)
			wantNoOpen(t, "no key", key[:33], nonce[:12], ad[:n], sealed[:m+16], api.ErrArg)
			wantNoSeal(t, key[:32], nonce[:13], ad[:n], plain[:m], api.ErrArg)
			for i, b := range all {
				wantBytes(t, "what was handed in", b, before[i])
			}
		}
	}
}

// One memory may stand in all places, its pieces behind each other or over each other.
func TestOneMemoryInAllPlaces(t *testing.T) {
	for n := range 100 {
		all := mixed(200, 3)
		want := sealedAsSaid(t, mixed(200, 3)[:32], mixed(200, 3)[20:32], mixed(200, 3)[:n], mixed(200, 3)[:200-n])
		sealed := seal(t, all[:32], all[20:32], all[:n], all[:200-n])
		wantBytes(t, "Seal of a memory's pieces", sealed, want)
		wantBytes(t, "Open of them", open(t, all[:32], all[20:32], all[:n], sealed), all[:200-n])
		wantBytes(t, "the memory", all, mixed(200, 3))

		behind := slices.Concat(mixed(n, 9), sealedAsSaid(t, someKey(), someNonce(), mixed(n, 9), mixed(n, 60)))
		wantBytes(t, "Open of what is behind", open(t, someKey(), someNonce(), behind[:n], behind[n:]), mixed(n, 60))
	}
}

func TestWhatIsHandedInIsNotKept(t *testing.T) {
	for _, n := range fewLengths() {
		for _, m := range edgeLengths() {
			key, nonce, ad, plain := someKey(), someNonce(), mixed(n, 9), mixed(m, 60)
			want := sealedAsSaid(t, key, nonce, ad, plain)
			sealed := seal(t, key, nonce, ad, plain)
			handed := slices.Clone(sealed)
			opened := open(t, key, nonce, ad, handed)
			for _, b := range [][]byte{key, nonce, ad, plain, handed} {
				clear(b)
			}
			wantBytes(t, "what was sealed, behind a change", sealed, want)
			wantBytes(t, "what was opened, behind a change", opened, mixed(m, 60))
			wantSealed(t, key, nonce, ad, plain)
		}
	}
}

// overwrite changes an answer's bytes, and all the memory behind them that it reaches.
func overwrite(held []byte) { _ = append(held[:0:cap(held)], repeated(7, cap(held))...) }

func TestAnAnswerIsItsHoldersOwn(t *testing.T) {
	for _, n := range fewLengths() {
		for _, m := range edgeLengths() {
			key, nonce, ad, plain := someKey(), someNonce(), mixed(n, 9), mixed(m, 60)
			want := sealedAsSaid(t, key, nonce, ad, plain)
			held, another := seal(t, key, nonce, ad, plain), seal(t, key, nonce, ad, plain)
			opened, again := open(t, key, nonce, ad, another), open(t, key, nonce, ad, another)
			overwrite(held)
			overwrite(opened)
			wantBytes(t, "another answer of Seal", another, want)
			wantBytes(t, "another answer of Open", again, plain)
			overwrite(another)
			wantBytes(t, "what was opened of it", again, mixed(m, 60))
			wantSealed(t, key, nonce, ad, plain)
			wantBytes(t, "the key", key, someKey())
			wantBytes(t, "the nonce", nonce, someNonce())
			wantBytes(t, "what is beside", ad, mixed(n, 9))
			wantBytes(t, "the text", plain, mixed(m, 60))
		}
	}
}

func TestNothingIsKeptBetweenCalls(t *testing.T) {
	first := seal(t, someKey(), someNonce(), mixed(30, 9), mixed(200, 60))
	seal(t, repeated(255, 32), repeated(255, 12), repeated(255, 99), repeated(255, 300))
	Seal(nil, nil, nil, nil)
	Open(someKey(), someNonce(), nil, first)
	Open(someKey(), nil, nil, nil)
	wantBytes(t, "the same once more", seal(t, someKey(), someNonce(), mixed(30, 9), mixed(200, 60)), first)
	wantBytes(t, "opened once more", open(t, someKey(), someNonce(), mixed(30, 9), first), mixed(200, 60))
}

// R1

// holdAll holds what both calls answer against the chapter's words, whatever is handed in.
func holdAll(t *testing.T, key, nonce, ad, b []byte) {
	t.Helper()
	want, wantE := openedAsSaid(t, key, nonce, ad, b)
	plain, e := Open(key, nonce, ad, b)
	if e != wantE {
		t.Errorf("Open of %x beside %x, by %x and %x: error %d; want %d", b, ad, key, nonce, int(e), int(wantE))
	}
	wantBytes(t, "Open", plain, want)
	if len(key) != 32 || len(nonce) != 12 {
		wantNoSeal(t, key, nonce, ad, b, api.ErrArg)
		return
	}
	wantSealed(t, key, nonce, ad, b)
}

func TestNothingPanics(t *testing.T) {
	random := rand.New(rand.NewSource(17))
	some := func(n int) []byte {
		if n == 0 && random.Intn(2) == 0 {
			return nil
		}
		b := make([]byte, n)
		random.Read(b)
		return b
	}
	about := func(n int) int {
		if random.Intn(4) == 0 {
			return random.Intn(2*n + 2)
		}
		return n
	}
	for range 3000 {
		holdAll(t, some(about(32)), some(about(12)), some(random.Intn(50)), some(random.Intn(100)))
	}
}

func FuzzBoth(f *testing.F) {
	f.Add([]byte(nil), []byte(nil), []byte(nil), []byte(nil))
	f.Add(mixed(32, 3), mixed(12, 200), mixed(12, 9), []byte(sunscreen))
	f.Add(mixed(32, 3), mixed(12, 200), []byte(nil), mixed(16, 1))
	f.Add(mixed(32, 3), mixed(12, 200), mixed(16, 9), mixed(15, 1))
	f.Add(mixed(31, 3), mixed(12, 200), mixed(17, 9), mixed(15, 1))
	f.Add(mixed(32, 3), mixed(13, 200), mixed(33, 9), mixed(40, 1))
	f.Fuzz(holdAll)
}
