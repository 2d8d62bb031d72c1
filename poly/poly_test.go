package poly

import (
	"bytes"
	"encoding/hex"
	"math/big"
	"math/rand"
	"slices"
	"strconv"
	"testing"

	"casket/api"
)

// The texts that RFC 8439 tags, in its section 2.5.2 and its appendix A.3.
const (
	forum      = "Cryptographic Forum Research Group"
	submission = "Any submission to the IETF intended by the Contributor for publication as all or part of an IETF Internet-Draft or RFC and any statement made within the context of an IETF activity is considered an \"IETF Contribution\". Such statements include oral statements in IETF sessions, as well as written and electronic communications made at any time or place, which are addressed to"
	brillig    = "'Twas brillig, and the slithy toves\nDid gyre and gimble in the wabe:\nAll mimsy were the borogoves,\nAnd the mome raths outgrabe."
	forumKey   = "85d6be7857556d337f4452fe42d506a80103808afb0db2fd4abff6af4149f51b"
)

// power is 2^n, and what is added to it.
func power(n uint, more int64) *big.Int {
	x := new(big.Int).Lsh(big.NewInt(1), n)
	return x.Add(x, big.NewInt(more))
}

func prime() *big.Int { return power(130, -5) }

func sum(a, b *big.Int) *big.Int { return new(big.Int).Add(a, b) }

// bigOf are bytes as a number, the lowest one first.
func bigOf(b []byte) *big.Int {
	turned := slices.Clone(b)
	slices.Reverse(turned)
	return new(big.Int).SetBytes(turned)
}

// bytesOf is a number modulo 2^128 in 16 bytes.
func bytesOf(x *big.Int) []byte {
	out := new(big.Int).Mod(x, power(128, 0)).FillBytes(make([]byte, 16))
	slices.Reverse(out)
	return out
}

// missing tells which bits of r are 0 instead, as P16.1 names them.
func missing(bit int) bool {
	switch bit / 8 {
	case 3, 7, 11, 15:
		return bit%8 >= 4
	case 4, 8, 12:
		return bit%8 < 2
	}
	return false
}

// rOf is a key's r.
func rOf(key []byte) *big.Int {
	r := bigOf(key[:16])
	for bit := range 128 {
		if missing(bit) {
			r.SetBit(r, bit, 0)
		}
	}
	return r
}

// stepsAsSaid are what a comes to behind each piece.
func stepsAsSaid(r *big.Int, b []byte) []*big.Int {
	a := new(big.Int)
	var steps []*big.Int
	for piece := range slices.Chunk(b, 16) {
		n := bigOf(append(slices.Clone(piece), 1))
		a = sum(a, n)
		a.Mul(a, r).Mod(a, prime())
		steps = append(steps, new(big.Int).Set(a))
	}
	return steps
}

// endAsSaid is what a comes to in the end.
func endAsSaid(r *big.Int, b []byte) *big.Int {
	steps := append([]*big.Int{new(big.Int)}, stepsAsSaid(r, b)...)
	return steps[len(steps)-1]
}

// macAsSaid is P16.1, with numbers of any length and on nothing that the package has.
func macAsSaid(key, b []byte) []byte {
	return bytesOf(sum(endAsSaid(rOf(key), b), bigOf(key[16:])))
}

// keyOf is the key of the numbers r and s.
func keyOf(r, s *big.Int) []byte { return append(bytesOf(r), bytesOf(s)...) }

// mixed are n bytes that tell their places apart.
func mixed(n int, from byte) []byte {
	out := make([]byte, n)
	for i := range out {
		out[i] = byte(i*7) + from
	}
	return out
}

func someKey() []byte { return mixed(api.KeySize, 3) }

func repeated(v byte, n int) []byte { return bytes.Repeat([]byte{v}, n) }

// nothings are the lists without bytes.
func nothings() [][]byte { return [][]byte{nil, {}, []byte{1, 2, 3}[1:1]} }

// edgeLengths are those at which a piece is full, or one more is needed, and each that a last piece may have.
func edgeLengths() []int {
	out := []int{0, 31, 32, 33, 47, 48, 49, 63, 64, 65, 255, 256, 257, 300, 500}
	for n := 1; n <= 17; n++ {
		out = append(out, n, 48+n)
	}
	return out
}

// edgeHalves are first or last halves of keys: the least and the greatest ones, and those about a limb's or a word's end.
func edgeHalves() [][]byte {
	out := [][]byte{repeated(0, 16), repeated(255, 16), mixed(16, 3), repeated(15, 16), repeated(252, 16), repeated(240, 16)}
	for _, bit := range []uint{1, 8, 26, 32, 52, 64, 78, 96, 104, 124, 127, 128} {
		for more := int64(-1); more <= 1; more++ {
			out = append(out, bytesOf(power(bit, more)))
		}
	}
	return out
}

// edgeTexts are of a length each.
func edgeTexts(n int) [][]byte {
	return [][]byte{repeated(0, n), repeated(255, n), mixed(n, 5), repeated(1, n), repeated(128, n), append(repeated(0, n), 255)[1:]}
}

// wrongKeys are those that are none.
func wrongKeys() [][]byte {
	out := nothings()
	for _, n := range []int{1, 15, 16, 17, 31, 33, 48, 64, 288} {
		out = append(out, mixed(n, 1), repeated(0, n), repeated(255, n))
	}
	return out
}

func unhex(t *testing.T, text string) []byte {
	t.Helper()
	b, err := hex.DecodeString(text)
	if err != nil {
		t.Fatal(err)
	}
	return b
}

func wantBytes(t *testing.T, what string, got, want []byte) {
	t.Helper()
	if !bytes.Equal(got, want) {
		t.Errorf("%s: %x; want %x", what, got, want)
	}
}

// mac is MAC's answer where there must be one.
func mac(t *testing.T, key, b []byte) []byte {
	t.Helper()
	tag, e := MAC(key, b)
	if e != api.OK || len(tag) != 16 {
		t.Fatalf("MAC of %d bytes by the key %x: %d bytes, error %d", len(b), key, len(tag), int(e))
	}
	return tag
}

func wantMAC(t *testing.T, key, b []byte) {
	t.Helper()
	wantBytes(t, "MAC of "+strconv.Itoa(len(b))+" bytes by the key "+hex.EncodeToString(key), mac(t, key, b), macAsSaid(key, b))
}

func wantNoMAC(t *testing.T, key, b []byte) {
	t.Helper()
	if tag, e := MAC(key, b); e != api.ErrArg || len(tag) != 0 {
		t.Errorf("MAC of %d bytes by a key of %d: %d bytes, error %d", len(b), len(key), len(tag), int(e))
	}
}

// P16.1

// The example of RFC 8439's section 2.5.2, with r and with a behind each piece.
func TestTheStepsOfTheNamedText(t *testing.T) {
	key := unhex(t, forumKey)
	if r := rOf(key).Text(16); r != "806d5400e52447c036d555408bed685" {
		t.Errorf("r: %s", r)
	}
	for i, want := range []string{"2c88c77849d64ae9147ddeb88e69c83fc", "2d8adaf23b0337fa7cccfb4ea344b30de", "28d31b7caff946c77c8844335369d03a7"} {
		beginning := []byte(forum)[:min(len(forum), (i+1)*16)]
		if got := valueOf(leastOf(gathered(beginning, multiplier(key[:16])))).Text(16); got != want {
			t.Errorf("a behind %d pieces: %s; want %s", i+1, got, want)
		}
		if got := stepsAsSaid(rOf(key), []byte(forum))[i].Text(16); got != want {
			t.Errorf("a behind %d pieces, by the chapter's words: %s; want %s", i+1, got, want)
		}
	}
	wantBytes(t, "the example", mac(t, key, []byte(forum)), unhex(t, "a8061dc1305136c6c22b8baf0c0127a9"))
}

// The tags that RFC 8439 writes out: that of 2.5.2, those of appendix A.3 in its order, and that of what section 2.8.2 tags.
func TestMACOfNamedTexts(t *testing.T) {
	zeros := "00000000000000000000000000000000"
	ones := "ffffffffffffffffffffffffffffffff"
	one, two := "01000000000000000000000000000000", "02000000000000000000000000000000"
	long := "e33594d7505e43b900000000000000003394d7505e4379cd010000000000000000000000000000000000000000000000"
	sealed := "d31a8d34648e60db7b86afbc53ef7ec2a4aded51296e08fea9e2b5a736ee62d63dbea45e8ca9671282fafb69da92728b1a71de0a9e060b2905d6a5b67ecd3b36" +
		"92ddbd7f2d778b8c9803aee328091b58fab324e4fad675945585808b4831d7bc3ff4def08e4b7a9de576d26586cec64b6116"
	for _, x := range []struct{ key, text, want string }{
		{forumKey, hex.EncodeToString([]byte(forum)), "a8061dc1305136c6c22b8baf0c0127a9"},
		{zeros + zeros, zeros + zeros + zeros + zeros, zeros},
		{zeros + "36e5f6b5c5e06070f0efca96227a863e", hex.EncodeToString([]byte(submission)), "36e5f6b5c5e06070f0efca96227a863e"},
		{"36e5f6b5c5e06070f0efca96227a863e" + zeros, hex.EncodeToString([]byte(submission)), "f3477e7cd95417af89a6b8794c310cf0"},
		{"1c9240a5eb55d38af333888604f6b5f0473917c1402b80099dca5cbc207075c0", hex.EncodeToString([]byte(brillig)), "4541669a7eaaee61e708dc7cbcc5eb62"},
		{two + zeros, ones, "03000000000000000000000000000000"},
		{two + ones, two, "03000000000000000000000000000000"},
		{one + zeros, ones + "f0ffffffffffffffffffffffffffffff" + "11000000000000000000000000000000", "05000000000000000000000000000000"},
		{one + zeros, ones + "fbfefefefefefefefefefefefefefefe" + "01010101010101010101010101010101", zeros},
		{two + zeros, "fdffffffffffffffffffffffffffffff", "faffffffffffffffffffffffffffffff"},
		{"01000000000000000400000000000000" + zeros, long + one, "14000000000000005500000000000000"},
		{"01000000000000000400000000000000" + zeros, long, "13000000000000000000000000000000"},
		{
			"7bac2b252db447af09b67a55a4e955840ae1d6731075d9eb2a9375783ed553ff",
			"50515253c0c1c2c3c4c5c6c7" + "00000000" + sealed + "0000000000000000000000000000" + "0c00000000000000" + "7200000000000000",
			"1ae10b594f09e26a7e902ecbd0600691",
		},
	} {
		key, b := unhex(t, x.key), unhex(t, x.text)
		wantBytes(t, "MAC of a named text", mac(t, key, b), unhex(t, x.want))
		wantBytes(t, "the chapter's words of a named text", macAsSaid(key, b), unhex(t, x.want))
	}
}

func TestMACAtTheEdges(t *testing.T) {
	for _, n := range edgeLengths() {
		for _, b := range edgeTexts(n) {
			for _, r := range edgeHalves() {
				for _, s := range [][]byte{repeated(0, 16), repeated(255, 16), mixed(16, 77)} {
					wantMAC(t, slices.Concat(r, s), b)
				}
			}
		}
	}
}

func TestMACByEdgesOfS(t *testing.T) {
	for _, n := range edgeLengths() {
		for _, s := range edgeHalves() {
			wantMAC(t, slices.Concat(mixed(16, 3), s), mixed(n, 5))
			wantMAC(t, slices.Concat(repeated(255, 16), s), repeated(255, n))
		}
	}
}

// Of pieces and of a last one each length, with bytes of all kinds at its end.
func TestMACOfEachLength(t *testing.T) {
	for n := range 200 {
		wantMAC(t, someKey(), mixed(n, 5))
		wantMAC(t, repeated(255, 32), repeated(255, n))
		wantMAC(t, repeated(15, 32), repeated(0, n))
	}
}

func TestMACOfManyBytes(t *testing.T) {
	for _, n := range []int{4096, 65535, 65536, 65537} {
		wantMAC(t, someKey(), mixed(n, 5))
		wantMAC(t, repeated(255, 32), repeated(255, n))
	}
}

func TestTheMissingBitsOfR(t *testing.T) {
	texts := [][]byte{[]byte(forum), repeated(255, 16), repeated(1, 16), mixed(33, 5)}
	count := 0
	for bit := range 128 {
		for _, half := range [][]byte{repeated(0, 16), repeated(255, 16), mixed(16, 3)} {
			set, not := slices.Concat(half, mixed(16, 9)), slices.Concat(half, mixed(16, 9))
			set[bit/8] |= 1 << (bit % 8)
			not[bit/8] &^= 1 << (bit % 8)
			for _, b := range texts {
				wantMAC(t, set, b)
				wantMAC(t, not, b)
				if bytes.Equal(mac(t, set, b), mac(t, not, b)) != missing(bit) {
					t.Errorf("the bit %d of r, in %x, of %x", bit, half, b)
				}
			}
		}
		if missing(bit) {
			count++
		}
	}
	if count != 22 {
		t.Errorf("%d bits are missing", count)
	}
}

// No bit of s is missing.
func TestEachBitOfS(t *testing.T) {
	for bit := range 128 {
		for _, b := range [][]byte{nil, []byte(forum), repeated(255, 49)} {
			key := someKey()
			before := mac(t, key, b)
			key[16+bit/8] ^= 1 << (bit % 8)
			wantMAC(t, key, b)
			if bytes.Equal(mac(t, key, b), before) {
				t.Errorf("the bit %d of s turns nothing", bit)
			}
		}
	}
}

func TestEachBitOfTheText(t *testing.T) {
	for _, n := range []int{1, 15, 16, 17, 32, 40} {
		b := mixed(n, 5)
		before := mac(t, someKey(), b)
		for bit := range n * 8 {
			b[bit/8] ^= 1 << (bit % 8)
			wantMAC(t, someKey(), b)
			if bytes.Equal(mac(t, someKey(), b), before) {
				t.Errorf("the bit %d of %d bytes turns nothing", bit, n)
			}
			b[bit/8] ^= 1 << (bit % 8)
		}
	}
}

// whole are pieces of 16 bytes that come to a modulo p where r is 1.
func whole(a *big.Int, count int64) ([]byte, bool) {
	marks := new(big.Int).Mul(power(128, 0), big.NewInt(count))
	rest := new(big.Int).Sub(a, marks)
	for rest.Sign() < 0 {
		rest.Add(rest, prime())
	}
	var out []byte
	for range count {
		part := power(128, -1)
		if rest.Cmp(part) < 0 {
			part.Set(rest)
		}
		out = append(out, bytesOf(part)...)
		rest.Sub(rest, part)
	}
	return out, rest.Sign() == 0
}

// edgeEnds are what a comes to in the end: about p, 2^130 and 2^128, and about the limbs' ends.
func edgeEnds() []*big.Int {
	out := []*big.Int{new(big.Int), big.NewInt(1), big.NewInt(2), big.NewInt(4), big.NewInt(5), big.NewInt(6)}
	for _, bit := range []uint{26, 52, 78, 104, 127, 128, 129} {
		for more := int64(-6); more <= 6; more++ {
			out = append(out, power(bit, more))
		}
	}
	for more := int64(-12); more <= 6; more++ {
		out = append(out, power(130, more))
	}
	return append(out, sum(power(128, 0), power(129, -1)), sum(power(128, 0), power(129, 0)), sum(power(128, 0), power(129, 1)))
}

// With r 1, what a comes to is what the pieces sum up to: each end is come to in several ways, with and without going beyond 2^130.
func TestEdgesOfWhatAComesTo(t *testing.T) {
	for _, a := range edgeEnds() {
		ways := 0
		for count := int64(1); count <= 12; count++ {
			b, ok := whole(a, count)
			if !ok {
				continue
			}
			ways++
			least := new(big.Int).Mod(a, prime())
			if endAsSaid(big.NewInt(1), b).Cmp(least) != 0 {
				t.Fatalf("%d pieces do not come to %x", count, a)
			}
			for _, s := range []*big.Int{new(big.Int), big.NewInt(1), big.NewInt(5), power(127, 0), power(128, -6), power(128, -5), power(128, -1)} {
				wantBytes(t, "MAC where a is "+a.Text(16), mac(t, keyOf(big.NewInt(1), s), b), bytesOf(sum(least, s)))
			}
		}
		if ways < 3 {
			t.Errorf("%x is come to in %d ways alone", a, ways)
		}
	}
}

// The last piece is chosen so that a product comes to each end, by an r of many bits.
func TestEdgesOfProducts(t *testing.T) {
	random := rand.New(rand.NewSource(16))
	for _, a := range edgeEnds() {
		for found := 0; found < 5; {
			r := make([]byte, 32)
			random.Read(r)
			first := make([]byte, 16*random.Intn(3))
			random.Read(first)
			n := new(big.Int).ModInverse(rOf(r), prime())
			n.Mul(n, a).Sub(n, endAsSaid(rOf(r), first)).Mod(n, prime())
			if n.BitLen() != 129 {
				continue
			}
			found++
			b := append(first, bytesOf(n)...)
			if endAsSaid(rOf(r), b).Cmp(new(big.Int).Mod(a, prime())) != 0 {
				t.Fatalf("the piece does not bring a to %x", a)
			}
			wantMAC(t, r, b)
			wantMAC(t, slices.Concat(r[:16], repeated(0, 16)), b)
			wantMAC(t, slices.Concat(r[:16], repeated(255, 16)), b)
		}
	}
}

// A byte 0 at the end of a piece is a byte like others, since the byte 1 stands behind it.
func TestBytesZeroAtTheEnd(t *testing.T) {
	for _, first := range []int{0, 16, 32} {
		for n := range 16 {
			seen := map[string]int{}
			for zeros := 0; n+zeros <= 16; zeros++ {
				b := slices.Concat(mixed(first+n, 5), repeated(0, zeros))
				wantMAC(t, someKey(), b)
				tag := string(mac(t, someKey(), b))
				if other, ok := seen[tag]; ok {
					t.Errorf("behind %d bytes, %d and %d bytes 0 have the same tag", first+n, other, zeros)
				}
				seen[tag] = zeros
			}
		}
	}
}

func TestMACOfManyKeys(t *testing.T) {
	random := rand.New(rand.NewSource(16))
	for range 5000 {
		key, b := make([]byte, 32), make([]byte, random.Intn(120))
		random.Read(key)
		random.Read(b)
		wantMAC(t, key, b)
	}
}

func TestMACOfWhatIsNoKey(t *testing.T) {
	for _, key := range wrongKeys() {
		for _, b := range nothings() {
			wantNoMAC(t, key, b)
		}
		for _, n := range edgeLengths() {
			wantNoMAC(t, key, mixed(n, 5))
		}
	}
	wantNoMAC(t, []byte(forum), unhex(t, forumKey))
}

// P16.1, in limbs: numbers that no text is known to bring about are held, too.

// valueOf is the number that limbs are, settled or not.
func valueOf(n number) *big.Int {
	out := new(big.Int)
	for i := len(n) - 1; i >= 0; i-- {
		out.Lsh(out, 26).Add(out, new(big.Int).SetUint64(n[i]))
	}
	return out
}

func wantSettled(t *testing.T, what string, n number) {
	t.Helper()
	for _, limb := range n {
		if limb >= 1<<26 {
			t.Errorf("%s is not settled: %x", what, n)
		}
	}
}

// someLimbs are those of settled numbers, at their edges most of all.
func someLimbs(random *rand.Rand) number {
	var n number
	for i := range n {
		switch random.Intn(4) {
		case 0:
			n[i] = 1<<26 - 1
		case 1:
			n[i] = uint64(random.Intn(6))
		case 2:
			n[i] = 1<<26 - 1 - uint64(random.Intn(6))
		default:
			n[i] = uint64(random.Intn(1 << 26))
		}
	}
	return n
}

func TestTimesOfLimbs(t *testing.T) {
	random := rand.New(rand.NewSource(16))
	full := number{1<<26 - 1, 1<<26 - 1, 1<<26 - 1, 1<<26 - 1, 1<<26 - 1}
	hold := func(a, r number) {
		got := times(a, r)
		wantSettled(t, "a product", got)
		want := new(big.Int).Mul(valueOf(a), valueOf(r))
		if want.Mod(want, prime()).Cmp(new(big.Int).Mod(valueOf(got), prime())) != 0 {
			t.Errorf("%x times %x: %x", a, r, got)
		}
		least := leastOf(got)
		wantSettled(t, "a least number", least)
		if want.Cmp(valueOf(least)) != 0 {
			t.Errorf("%x times %x modulo p: %x", a, r, least)
		}
	}
	hold(full, full)
	hold(plus(full, full), full)
	for range 20000 {
		hold(plus(someLimbs(random), someLimbs(random)), someLimbs(random))
	}
}

func TestLeastOfLimbs(t *testing.T) {
	for more := int64(-12); more < 0; more++ {
		x := power(130, more)
		var n number
		for i := range n {
			n[i] = new(big.Int).And(new(big.Int).Rsh(x, uint(26*i)), big.NewInt(1<<26-1)).Uint64()
		}
		if want := new(big.Int).Mod(x, prime()); valueOf(leastOf(n)).Cmp(want) != 0 {
			t.Errorf("2^130 and %d modulo p: %x; want %x", more, leastOf(n), want)
		}
		wantSettled(t, "a least number", leastOf(n))
	}
}

// The first time brings in below what makes the second one go beyond once more, and that what the third one has to carry.
func TestCarriedTimeAndAgain(t *testing.T) {
	random := rand.New(rand.NewSource(16))
	most := uint64(1<<58 - 1)
	for range 20000 {
		n := someLimbs(random)
		for i := range n {
			if random.Intn(3) == 0 {
				n[i] = most - uint64(random.Intn(3))
			}
		}
		got := carried(n)
		wantSettled(t, "what is carried", got)
		if new(big.Int).Mod(valueOf(got), prime()).Cmp(new(big.Int).Mod(valueOf(n), prime())) != 0 {
			t.Errorf("%x is carried to %x", n, got)
		}
	}
}

// P16.2

func TestWhereRIsZero(t *testing.T) {
	unseen := repeated(0, 16)
	for bit := range 128 {
		if missing(bit) {
			unseen[bit/8] |= 1 << (bit % 8)
		}
	}
	for _, r := range [][]byte{repeated(0, 16), unseen} {
		for _, s := range edgeHalves() {
			for _, n := range edgeLengths() {
				for _, b := range edgeTexts(n) {
					wantBytes(t, "MAC where r is 0", mac(t, slices.Concat(r, s), b), s)
				}
			}
		}
	}
}

func TestMACOfNothing(t *testing.T) {
	for _, r := range edgeHalves() {
		for _, s := range edgeHalves() {
			for _, b := range nothings() {
				wantBytes(t, "MAC of nothing", mac(t, slices.Concat(r, s), b), s)
			}
		}
	}
}

func TestWhatTagsDifferBy(t *testing.T) {
	for _, r := range [][]byte{mixed(16, 3), repeated(255, 16), repeated(1, 16)} {
		for _, n := range []int{0, 1, 15, 16, 17, 48, 300} {
			for _, b := range edgeTexts(n) {
				one := mac(t, slices.Concat(r, mixed(16, 40)), b)
				for _, s := range edgeHalves() {
					other := mac(t, slices.Concat(r, s), b)
					got := bytesOf(new(big.Int).Sub(bigOf(other), bigOf(one)))
					wantBytes(t, "what tags differ by", got, bytesOf(new(big.Int).Sub(bigOf(s), bigOf(mixed(16, 40)))))
				}
			}
		}
	}
}

// R3

// withRoom are b's bytes with others behind them in the same memory, which are no call's either.
func withRoom(b []byte) []byte { return append(slices.Clone(b), repeated(99, 40)...) }

func TestWhatIsHandedInIsNotChanged(t *testing.T) {
	for _, n := range edgeLengths() {
		key, b := withRoom(repeated(255, 32)), withRoom(mixed(n, 5))
		keyBefore, before := slices.Clone(key), slices.Clone(b)
		wantBytes(t, "with room behind", mac(t, key[:32], b[:n]), macAsSaid(key[:32], b[:n]))
		wantNoMAC(t, key[:31], b[:n])
		wantNoMAC(t, key[:33], b[:n])
		wantBytes(t, "the key", key, keyBefore)
		wantBytes(t, "the bytes", b, before)
	}
}

func TestOneMemoryInBothPlaces(t *testing.T) {
	for n := range 33 {
		key := repeated(255, 32)
		wantBytes(t, "a key's own bytes", mac(t, key, key[:n]), macAsSaid(repeated(255, 32), repeated(255, n)))
		wantBytes(t, "a key's last bytes", mac(t, key, key[n:]), macAsSaid(repeated(255, 32), repeated(255, 32-n)))
	}
}

func TestWhatIsHandedInIsNotKept(t *testing.T) {
	for _, n := range edgeLengths() {
		key, b := someKey(), mixed(n, 5)
		tag := mac(t, key, b)
		clear(key)
		clear(b)
		wantBytes(t, "a tag whose key is changed", tag, macAsSaid(someKey(), mixed(n, 5)))
		wantMAC(t, key, b)
	}
}

func TestAnAnswerIsItsHoldersOwn(t *testing.T) {
	for _, n := range edgeLengths() {
		key, b := someKey(), mixed(n, 5)
		want := macAsSaid(key, b)
		held, another := mac(t, key, b), mac(t, key, b)
		_ = append(held[:0:cap(held)], repeated(7, cap(held))...)
		wantBytes(t, "another answer", another, want)
		wantBytes(t, "one that is asked later", mac(t, key, b), want)
		wantBytes(t, "the key", key, someKey())
		wantBytes(t, "the bytes", b, mixed(n, 5))
	}
}

func TestNothingIsKeptBetweenCalls(t *testing.T) {
	first := mac(t, someKey(), mixed(200, 5))
	mac(t, repeated(255, 32), repeated(255, 300))
	MAC(nil, nil)
	MAC(mixed(33, 1), mixed(33, 1))
	wantBytes(t, "the same once more", mac(t, someKey(), mixed(200, 5)), first)
}

// R1

// holdAll holds what MAC answers against the chapter's words, whatever is handed in.
func holdAll(t *testing.T, key, b []byte) {
	t.Helper()
	if len(key) != 32 {
		wantNoMAC(t, key, b)
		return
	}
	wantMAC(t, key, b)
}

func TestNothingPanics(t *testing.T) {
	random := rand.New(rand.NewSource(16))
	some := func(n int) []byte {
		if n == 0 && random.Intn(2) == 0 {
			return nil
		}
		b := make([]byte, n)
		random.Read(b)
		for i := range b {
			if random.Intn(3) > 0 {
				b[i] = byte(-random.Intn(2))
			}
		}
		return b
	}
	for range 5000 {
		n := 32
		if random.Intn(4) == 0 {
			n = random.Intn(70)
		}
		holdAll(t, some(n), some(random.Intn(100)))
	}
}

func FuzzMAC(f *testing.F) {
	f.Add([]byte(nil), []byte(nil))
	f.Add(mixed(32, 1), []byte(forum))
	f.Add(repeated(255, 32), repeated(255, 48))
	f.Add(append([]byte{1}, make([]byte, 31)...), append(repeated(255, 16), make([]byte, 32)...))
	f.Add(mixed(31, 1), mixed(17, 3))
	f.Fuzz(holdAll)
}
