package hmac

import (
	"bytes"
	"crypto/hkdf"
	libhmac "crypto/hmac"
	"crypto/sha256"
	"encoding/hex"
	"math"
	"math/rand"
	"slices"
	"strconv"
	"strings"
	"testing"

	"casket/api"
	"casket/sha"
)

const tagOfJefe = "5bdcc146bf60754e6a042426089575c75a003f089d2739839dec58b964ec3843"

// keyLengths are those at which a key is filled up, is whole, or is summed up.
func keyLengths() []int { return []int{0, 1, 2, 20, 31, 32, 33, 63, 64, 65, 127, 128, 129, 131, 200} }

// textLengths are those at which what is summed up, with the key's 64 bytes ahead, fills a piece or begins a new one.
func textLengths() []int {
	return []int{0, 1, 31, 32, 33, 54, 55, 56, 57, 63, 64, 65, 118, 119, 120, 121, 127, 128, 129, 191, 192, 193}
}

// expandLengths are those at which one more piece is needed, and the least and the greatest ones.
func expandLengths() []int {
	return []int{0, 1, 31, 32, 33, 63, 64, 65, 95, 96, 97, 255, 256, 257, 8127, 8128, 8129, 8159, 8160}
}

// mixed are n bytes, none of which is 0: a key of them is not one that is filled up.
func mixed(n int, from byte) []byte {
	out := make([]byte, n)
	for i := range out {
		out[i] = byte((i*7+int(from))%250 + 1)
	}
	return out
}

// nothings are the lists without bytes.
func nothings() [][]byte { return [][]byte{nil, {}, []byte{1, 2, 3}[1:1]} }

func repeated(v byte, n int) []byte { return bytes.Repeat([]byte{v}, n) }

// rising are the bytes from first to last.
func rising(first, last int) []byte {
	var out []byte
	for v := first; v <= last; v++ {
		out = append(out, byte(v))
	}
	return out
}

func unhex(t *testing.T, text string) []byte {
	t.Helper()
	b, err := hex.DecodeString(text)
	if err != nil {
		t.Fatal(err)
	}
	return b
}

// reference is the library's HMAC-SHA256: another one's work, held against this one.
func reference(key, b []byte) []byte {
	m := libhmac.New(sha256.New, key)
	m.Write(b)
	return m.Sum(nil)
}

// asSaid is P14.1, word by word.
func asSaid(key, b []byte) []byte {
	k := slices.Clone(key)
	if len(k) > 64 {
		k = sha.Sum(k)
	}
	for len(k) < 64 {
		k = append(k, 0)
	}
	var inner, outer []byte
	for _, v := range k {
		inner = append(inner, v^54)
		outer = append(outer, v^92)
	}
	return sha.Sum(append(outer, sha.Sum(append(inner, b...))...))
}

// expandAsSaid is P14.3, word by word, of all 8160 bytes.
func expandAsSaid(key, info []byte) []byte {
	var out, ahead []byte
	for i := 1; i <= 255; i++ {
		ahead = reference(key, slices.Concat(ahead, info, []byte{byte(i)}))
		out = append(out, ahead...)
	}
	return out
}

func wantBytes(t *testing.T, what string, got, want []byte) {
	t.Helper()
	if !bytes.Equal(got, want) {
		t.Errorf("%s: %x; want %x", what, got, want)
	}
}

func wantTag(t *testing.T, what string, key, b []byte) {
	t.Helper()
	wantBytes(t, what, MAC(key, b), reference(key, b))
	wantBytes(t, what+", as the chapter says it", MAC(key, b), asSaid(key, b))
}

func wantSame(t *testing.T, what string, a, b []byte, want bool) {
	t.Helper()
	if Same(a, b) != want || Same(b, a) != want {
		t.Errorf("%s: Same of %d and %d bytes is not %v both ways", what, len(a), len(b), want)
	}
}

func wantCheck(t *testing.T, what string, key, b, tag []byte, want bool) {
	t.Helper()
	if Check(key, b, tag) != want {
		t.Errorf("%s: Check is not %v", what, want)
	}
}

// expanded is Expand's answer where there must be one.
func expanded(t *testing.T, key, info []byte, n int) []byte {
	t.Helper()
	out, e := Expand(key, info, n)
	if e != api.OK || len(out) != n {
		t.Errorf("Expand of %d bytes: %d bytes, error %d", n, len(out), int(e))
	}
	return out
}

// P14.1

// The test cases of RFC 4231; the fifth one's tag is cut off there.
func TestMACOfNamedTexts(t *testing.T) {
	for _, x := range []struct {
		key, b []byte
		want   string
	}{
		{repeated(0x0b, 20), []byte("Hi There"), "b0344c61d8db38535ca8afceaf0bf12b881dc200c9833da726e9376c2e32cff7"},
		{[]byte("Jefe"), []byte("what do ya want for nothing?"), tagOfJefe},
		{repeated(0xaa, 20), repeated(0xdd, 50), "773ea91e36800e46854db8ebd09181a72959098b3ef8c122d9635514ced565fe"},
		{rising(1, 25), repeated(0xcd, 50), "82558a389a443c0ea4cc819899f2083a85f0faa3e578f8077a2e3ff46729665b"},
		{repeated(0x0c, 20), []byte("Test With Truncation"), "a3b6167473100ee06e0c796c2955552b"},
		{repeated(0xaa, 131), []byte("Test Using Larger Than Block-Size Key - Hash Key First"), "60e431591ee0b67f0d8a26aacbf5b77f8e0bc6213728c5140546040f0ee37f54"},
		{
			repeated(0xaa, 131),
			[]byte("This is a test using a larger than block-size key and a larger than block-size data. The key needs to be hashed before being used by the HMAC algorithm."),
			"9b09ffa71b942fcb27635fbcd5b0e944bfdc63644f0713938a7f51535c3a35e2",
		},
	} {
		got := hex.EncodeToString(MAC(x.key, x.b))
		if !strings.HasPrefix(got, x.want) {
			t.Errorf("MAC of %q: %s; want %s", x.b, got, x.want)
		}
	}
}

func TestTheChaptersExample(t *testing.T) {
	got := MAC([]byte("Jefe"), []byte("what do ya want for nothing?"))
	wantBytes(t, "the first bytes", got[:4], []byte{91, 220, 193, 70})
	wantBytes(t, "all bytes", got, unhex(t, tagOfJefe))
}

func TestNoKeyAndNoBytes(t *testing.T) {
	want := unhex(t, "b613679a0814d9ec772f95d778c35fc5ff1697c493715653c6c712144292c5ad")
	for _, key := range nothings() {
		for _, b := range nothings() {
			wantBytes(t, "MAC of nothing by nothing", MAC(key, b), want)
		}
		wantBytes(t, "MAC by nothing", MAC(key, []byte("abc")), reference(nil, []byte("abc")))
		wantBytes(t, "MAC of nothing", MAC([]byte("abc"), key), reference([]byte("abc"), nil))
	}
}

func TestMACAtTheEdges(t *testing.T) {
	for _, keyLength := range keyLengths() {
		for _, length := range textLengths() {
			what := "MAC by " + strconv.Itoa(keyLength) + " of " + strconv.Itoa(length) + " bytes"
			wantTag(t, what, mixed(keyLength, 3), mixed(length, 90))
			wantTag(t, what+" 0", repeated(0, keyLength), repeated(0, length))
			wantTag(t, what+" 255", repeated(255, keyLength), repeated(255, length))
		}
	}
}

func TestMACByKeysOfEveryLength(t *testing.T) {
	for n := range 300 {
		wantTag(t, "MAC by "+strconv.Itoa(n)+" bytes", mixed(n, 11), []byte("some bytes"))
	}
}

func TestMACOfEveryLength(t *testing.T) {
	for n := range 300 {
		wantTag(t, "MAC of "+strconv.Itoa(n)+" bytes", mixed(32, 1), mixed(n, 2))
	}
}

func TestMACByEveryByte(t *testing.T) {
	for v := range 256 {
		wantTag(t, "MAC by the byte "+strconv.Itoa(v), []byte{byte(v)}, []byte{byte(255 - v)})
	}
}

func TestMACOfManyBytes(t *testing.T) {
	for _, n := range []int{8191, 8192, 65536, 1000003} {
		wantTag(t, "MAC of "+strconv.Itoa(n)+" bytes", mixed(32, 5), mixed(n, 6))
		wantTag(t, "MAC by "+strconv.Itoa(n)+" bytes", mixed(n, 5), mixed(32, 6))
	}
}

func TestMACHas32Bytes(t *testing.T) {
	for _, keyLength := range keyLengths() {
		if got := len(MAC(mixed(keyLength, 1), mixed(keyLength, 2))); got != api.HashSize {
			t.Errorf("MAC by %d bytes has %d", keyLength, got)
		}
	}
}

func TestALongKeyIsItsSum(t *testing.T) {
	b := []byte("some bytes")
	for _, n := range []int{65, 66, 96, 128, 129, 131, 500} {
		key := mixed(n, 17)
		wantBytes(t, "MAC by the sum of "+strconv.Itoa(n)+" bytes", MAC(sha.Sum(key), b), MAC(key, b))
	}
	for _, n := range []int{0, 1, 31, 32, 33, 63, 64} {
		key := mixed(n, 17)
		if bytes.Equal(MAC(sha.Sum(key), b), MAC(key, b)) {
			t.Errorf("MAC by %d bytes is that by their sum", n)
		}
	}
}

func TestZerosBehindAKey(t *testing.T) {
	b := []byte("some bytes")
	for n := range 65 {
		key := mixed(n, 29)
		for zeros := range 64 - n + 1 {
			filled := slices.Concat(key, repeated(0, zeros))
			wantBytes(t, strconv.Itoa(n)+" bytes, and "+strconv.Itoa(zeros)+" bytes 0", MAC(filled, b), MAC(key, b))
		}
		if beyond := slices.Concat(key, repeated(0, 65-n)); bytes.Equal(MAC(beyond, b), MAC(key, b)) {
			t.Errorf("%d bytes, and bytes 0 up to 65, are the same key", n)
		}
	}
}

func TestZerosAheadOfAKeyCount(t *testing.T) {
	for n := 1; n < 63; n++ {
		key := mixed(n, 29)
		if bytes.Equal(MAC(slices.Concat([]byte{0}, key), nil), MAC(key, nil)) {
			t.Errorf("a byte 0 ahead of %d bytes turns nothing", n)
		}
	}
}

func TestEachBitCounts(t *testing.T) {
	for _, n := range []int{64, 65, 130} {
		key, b := mixed(n, 1), mixed(n, 2)
		before := MAC(key, b)
		for _, turned := range [][]byte{key, b} {
			for place := range n * 8 {
				turned[place/8] ^= 1 << (place % 8)
				if bytes.Equal(MAC(key, b), before) {
					t.Errorf("the bit %d turns nothing", place)
				}
				wantTag(t, "a bit is turned", key, b)
				turned[place/8] ^= 1 << (place % 8)
			}
		}
	}
}

// P14.2

func TestSameOfEqualBytes(t *testing.T) {
	for n := range 140 {
		wantSame(t, "equal bytes", mixed(n, 4), mixed(n, 4), true)
		one := mixed(n, 4)
		wantSame(t, "bytes and themselves", one, one, true)
	}
	wantSame(t, "many bytes", mixed(100000, 4), mixed(100000, 4), true)
	for v := range 256 {
		wantSame(t, "one byte", []byte{byte(v)}, []byte{byte(v)}, true)
	}
}

func TestSameOfNothing(t *testing.T) {
	for _, a := range nothings() {
		for _, b := range nothings() {
			wantSame(t, "nothing", a, b, true)
		}
		wantSame(t, "nothing and a byte 0", a, []byte{0}, false)
		wantSame(t, "nothing and a byte", a, []byte{1}, false)
		wantSame(t, "nothing and many", a, mixed(32, 1), false)
	}
}

func TestSameOfOtherLengths(t *testing.T) {
	b := mixed(70, 8)
	for n := range len(b) {
		wantSame(t, "cut off", b, b[:n], false)
		wantSame(t, "the first ones cut off", b, b[len(b)-n:], false)
	}
	wantSame(t, "a byte more", b, append(slices.Clone(b), 1), false)
	wantSame(t, "a byte 0 more", b, append(slices.Clone(b), 0), false)
	wantSame(t, "a byte 0 ahead", b, append([]byte{0}, b...), false)
	wantSame(t, "twice", b, slices.Concat(b, b), false)
	wantSame(t, "bytes 0", repeated(0, 5), repeated(0, 6), false)
	wantSame(t, "256 more", mixed(3, 1), slices.Concat(mixed(3, 1), repeated(0, 256)), false)
}

func TestSameOfOneOtherByte(t *testing.T) {
	for _, n := range []int{1, 2, 3, 16, 32, 33, 64, 65} {
		for place := range n {
			for turn := 1; turn < 256; turn++ {
				other := mixed(n, 8)
				other[place] ^= byte(turn)
				wantSame(t, "the byte "+strconv.Itoa(place)+" is another one", mixed(n, 8), other, false)
			}
		}
	}
}

// What differs in one place must not make up for what differs in another one.
func TestSameOfTwoOtherBytes(t *testing.T) {
	for first := range 16 {
		for second := range first {
			for turn := 1; turn < 256; turn++ {
				other := mixed(16, 8)
				other[first] ^= byte(turn)
				other[second] ^= byte(turn)
				wantSame(t, "two bytes are turned alike", mixed(16, 8), other, false)
				other = mixed(16, 8)
				other[first] += byte(turn)
				other[second] -= byte(turn)
				wantSame(t, "two bytes have the same sum", mixed(16, 8), other, false)
			}
		}
	}
}

func TestSameOfAnotherOrder(t *testing.T) {
	b := mixed(32, 8)
	turned := slices.Clone(b)
	slices.Reverse(turned)
	wantSame(t, "the other way round", b, turned, false)
	turned = slices.Clone(b)
	turned[3], turned[4] = turned[4], turned[3]
	wantSame(t, "two in each other's place", b, turned, false)
}

func TestCheckOfTheTag(t *testing.T) {
	wantCheck(t, "the example", []byte("Jefe"), []byte("what do ya want for nothing?"), unhex(t, tagOfJefe), true)
	for _, keyLength := range keyLengths() {
		for _, length := range textLengths() {
			key, b := mixed(keyLength, 3), mixed(length, 90)
			wantCheck(t, "the tag itself", key, b, MAC(key, b), true)
			wantCheck(t, "the reference's", key, b, reference(key, b), true)
		}
	}
	wantCheck(t, "nothing by nothing", nil, nil, MAC([]byte{}, []byte{}), true)
}

func TestCheckOfOtherKeysAndBytes(t *testing.T) {
	key, b := mixed(32, 1), mixed(50, 2)
	tag := MAC(key, b)
	wantCheck(t, "another key", mixed(32, 3), b, tag, false)
	wantCheck(t, "no key", nil, b, tag, false)
	wantCheck(t, "a shorter key", key[:31], b, tag, false)
	wantCheck(t, "other bytes", key, mixed(50, 4), tag, false)
	wantCheck(t, "no bytes", key, nil, tag, false)
	wantCheck(t, "a byte fewer", key, b[:49], tag, false)
	wantCheck(t, "a byte more", key, append(slices.Clone(b), 0), tag, false)
	wantCheck(t, "key and bytes in each other's place", b, key, tag, false)
	wantCheck(t, "the sum of the bytes", key, b, sha.Sum(b), false)
}

func TestCheckOfTagsThatAreNone(t *testing.T) {
	for _, tag := range [][]byte{nil, {}, {0}, repeated(0, 32), repeated(255, 32), repeated(0, 16), repeated(0, 64)} {
		wantCheck(t, "no tag", mixed(32, 1), mixed(50, 2), tag, false)
		wantCheck(t, "no tag of nothing", nil, nil, tag, false)
	}
}

// P14.3

// What RFC 5869's test cases make of their keys.
func TestExpandOfNamedKeys(t *testing.T) {
	for _, x := range []struct {
		key  string
		info []byte
		n    int
		want string
	}{
		{
			"077709362c2e32df0ddc3f0dc47bba6390b6c73bb50f9c3122ec844ad7c2b3e5", rising(0xf0, 0xf9), 42,
			"3cb25f25faacd57a90434f64d0362f2a2d2d0a90cf1a5a4c5db02d56ecc4c5bf34007208d5b887185865",
		},
		{
			"06a6b88c5853361a06104c9ceb35b45cef760014904671014a193f40c15fc244", rising(0xb0, 0xff), 82,
			"b11e398dc80327a1c8e7f78c596a49344f012eda2d4efad8a050cc4c19afa97c" +
				"59045a99cac7827271cb41c65e590e09da3275600c2f09b8367793a9aca3db71cc30c58179ec3e87c14c01d5c1f3434f1d87",
		},
		{
			"19ef24a32c717b167f33a91d6f648bdf96596776afdb6377ac434c1c293ccb04", nil, 42,
			"8da4e775a563c18f715f802a063c5a31b8a11f5c5ee1879ec3454e5f3c738d2d9d201395faa4b61a96c8",
		},
	} {
		wantBytes(t, "Expand of "+x.key, expanded(t, unhex(t, x.key), x.info, x.n), unhex(t, x.want))
	}
}

func TestExpandAtTheEdges(t *testing.T) {
	for _, keyLength := range []int{0, 1, 32, 63, 64, 65, 129} {
		for _, infoLength := range []int{0, 1, 22, 23, 24, 31, 32, 54, 55, 64, 65, 200} {
			key, info := mixed(keyLength, 7), mixed(infoLength, 70)
			whole := expandAsSaid(key, info)
			for _, n := range expandLengths() {
				what := "Expand of " + strconv.Itoa(n) + " bytes, of " + strconv.Itoa(keyLength) + " and " + strconv.Itoa(infoLength)
				wantBytes(t, what, expanded(t, key, info, n), whole[:n])
			}
		}
	}
}

func TestExpandIsTheLibrarys(t *testing.T) {
	key, info := mixed(32, 12), mixed(40, 13)
	for _, n := range expandLengths() {
		want, err := hkdf.Expand(sha256.New, key, string(info), n)
		if err != nil {
			t.Fatal(err)
		}
		wantBytes(t, "Expand of "+strconv.Itoa(n), expanded(t, key, info, n), want)
	}
}

func TestThePiecesAreChained(t *testing.T) {
	key, info := []byte("key"), []byte("info")
	out := expanded(t, key, info, 8160)
	wantBytes(t, "T(1)", out[:32], MAC(key, []byte("info\x01")))
	for i := 2; i <= 255; i++ {
		ahead := out[(i-2)*32 : (i-1)*32]
		want := MAC(key, slices.Concat(ahead, info, []byte{byte(i)}))
		wantBytes(t, "T("+strconv.Itoa(i)+")", out[(i-1)*32:i*32], want)
	}
}

func TestThePiecesAreThoseWithANumber(t *testing.T) {
	var all []byte
	count := 0
	for piece := range pieces([]byte("key"), []byte("info")) {
		count++
		all = append(all, piece...)
	}
	if count != 255 {
		t.Errorf("%d pieces; want 255", count)
	}
	wantBytes(t, "all pieces", all, expandAsSaid([]byte("key"), []byte("info")))
	for piece := range pieces([]byte("key"), []byte("info")) {
		wantBytes(t, "the first one, where no more is asked for", piece, all[:32])
		break
	}
}

func TestExpandOfNothing(t *testing.T) {
	whole := expandAsSaid(nil, nil)
	for _, key := range nothings() {
		for _, info := range nothings() {
			for _, n := range expandLengths() {
				wantBytes(t, "Expand of nothing by nothing", expanded(t, key, info, n), whole[:n])
			}
		}
	}
}

func TestExpandOfLengthsThatMayNotBe(t *testing.T) {
	for _, n := range []int{-1, -2, -32, -8160, -8161, 8161, 8162, 8192, 65536, 1<<31 - 1, 1 << 31, math.MinInt, math.MinInt + 1, math.MaxInt} {
		for _, key := range [][]byte{nil, {}, mixed(32, 1), mixed(100, 1)} {
			if b, e := Expand(key, []byte("info"), n); e != api.ErrArg || len(b) != 0 {
				t.Errorf("Expand of %d: %d bytes, error %d", n, len(b), int(e))
			}
		}
	}
}

func TestExpandHangsOnKeyAndInfo(t *testing.T) {
	key, info := mixed(32, 1), mixed(20, 2)
	before := expanded(t, key, info, 100)
	for _, turned := range [][]byte{key, info} {
		for place := range len(turned) * 8 {
			turned[place/8] ^= 1 << (place % 8)
			if after := expanded(t, key, info, 100); bytes.Equal(after[:32], before[:32]) || bytes.Equal(after[32:], before[32:]) {
				t.Errorf("the bit %d turns nothing", place)
			}
			turned[place/8] ^= 1 << (place % 8)
		}
	}
}

// P14.4

func TestALongerExpandBeginsWithAShorterOne(t *testing.T) {
	for _, keyLength := range []int{0, 32, 65} {
		key, info := mixed(keyLength, 7), mixed(keyLength, 70)
		longest := expanded(t, key, info, 8160)
		shorter := []byte(nil)
		for n := range 400 {
			longer := expanded(t, key, info, n)
			wantBytes(t, "the beginning of all, "+strconv.Itoa(n), longer, longest[:n])
			wantBytes(t, "the beginning of "+strconv.Itoa(n), longer[:len(shorter)], shorter)
			shorter = longer
		}
		for _, n := range expandLengths() {
			wantBytes(t, "the beginning, "+strconv.Itoa(n), expanded(t, key, info, n), longest[:n])
		}
	}
}

func TestATurnedTagIsRefused(t *testing.T) {
	for _, keyLength := range keyLengths() {
		key, b := mixed(keyLength, 3), mixed(keyLength, 90)
		tag := MAC(key, b)
		for place := range len(tag) * 8 {
			tag[place/8] ^= 1 << (place % 8)
			wantCheck(t, "the bit "+strconv.Itoa(place)+" is turned", key, b, tag, false)
			tag[place/8] ^= 1 << (place % 8)
		}
		wantCheck(t, "with all bits back", key, b, tag, true)
	}
}

func TestATagOfAnotherLengthIsRefused(t *testing.T) {
	key, b := mixed(32, 3), mixed(40, 90)
	tag := MAC(key, b)
	for n := range len(tag) {
		wantCheck(t, "cut off at "+strconv.Itoa(n), key, b, tag[:n], false)
		wantCheck(t, "the first ones cut off", key, b, tag[len(tag)-n:], false)
	}
	for v := range 256 {
		wantCheck(t, "a byte more", key, b, append(slices.Clone(tag), byte(v)), false)
		wantCheck(t, "a byte ahead", key, b, append([]byte{byte(v)}, tag...), false)
	}
	wantCheck(t, "twice", key, b, slices.Concat(tag, tag), false)
}

// R3

// withRoom are b's bytes with others behind them in the same memory, which are no call's either.
func withRoom(b []byte) []byte { return append(slices.Clone(b), repeated(99, 200)...) }

func TestWhatIsHandedInIsNotChanged(t *testing.T) {
	for _, n := range keyLengths() {
		key, b := withRoom(mixed(n, 1)), withRoom(mixed(n, 2))
		tag := withRoom(MAC(key[:n], b[:n]))
		keyBefore, before, tagBefore := slices.Clone(key), slices.Clone(b), slices.Clone(tag)
		MAC(key[:n], b[:n])
		Check(key[:n], b[:n], tag[:32])
		Expand(key[:n], b[:n], 100)
		Expand(key[:n], b[:n], -1)
		Same(key[:n], b[:n])
		wantBytes(t, "the key", key, keyBefore)
		wantBytes(t, "the bytes", b, before)
		wantBytes(t, "the tag", tag, tagBefore)
	}
}

func TestOneMemoryInAllPlaces(t *testing.T) {
	for _, n := range keyLengths() {
		b := mixed(n, 1)
		wantTag(t, "MAC of a key by itself", b, b)
		wantBytes(t, "Expand of a key by itself", expanded(t, b, b, 100), expandAsSaid(mixed(n, 1), mixed(n, 1))[:100])
		wantCheck(t, "all the same", b, b, b, false)
	}
}

func TestWhatIsHandedInIsNotKept(t *testing.T) {
	for _, n := range keyLengths() {
		key, b := mixed(n, 1), mixed(n, 2)
		tag, made := MAC(key, b), expanded(t, key, b, 100)
		clear(key)
		clear(b)
		wantBytes(t, "a tag whose key and bytes are changed", tag, reference(mixed(n, 1), mixed(n, 2)))
		wantBytes(t, "bytes whose key is changed", made, expandAsSaid(mixed(n, 1), mixed(n, 2))[:100])
		wantTag(t, "the key as it is now", key, b)
		wantBytes(t, "the key as it is now", expanded(t, key, b, 100), expandAsSaid(repeated(0, n), repeated(0, n))[:100])
	}
}

func TestAnAnswerIsItsHoldersOwn(t *testing.T) {
	for _, n := range keyLengths() {
		key, b := mixed(n, 1), mixed(n, 2)
		for _, ask := range []func() []byte{
			func() []byte { return MAC(key, b) },
			func() []byte { return expanded(t, key, b, 32) },
			func() []byte { return expanded(t, key, b, 100) },
			func() []byte { return expanded(t, key, b, 8160) },
		} {
			want := slices.Clone(ask())
			held, another := ask(), ask()
			clear(held)
			_ = append(held[:0:cap(held)], repeated(7, cap(held))...)
			wantBytes(t, "another answer", another, want)
			wantBytes(t, "one that is asked later", ask(), want)
		}
		wantBytes(t, "the key", key, mixed(n, 1))
		wantBytes(t, "the bytes", b, mixed(n, 2))
	}
}

func TestNothingIsKeptBetweenCalls(t *testing.T) {
	first := expanded(t, []byte("one"), []byte("text"), 64)
	MAC([]byte("another"), []byte("one"))
	expanded(t, []byte("another"), nil, 8160)
	Expand(nil, nil, -1)
	wantBytes(t, "the same once more", expanded(t, []byte("one"), []byte("text"), 64), first)
}

// R1

func TestNothingPanics(t *testing.T) {
	random := rand.New(rand.NewSource(14))
	some := func() []byte {
		if random.Intn(8) == 0 {
			return nil
		}
		b := make([]byte, random.Intn(200))
		random.Read(b)
		return b
	}
	for range 3000 {
		key, b, tag, n := some(), some(), some(), random.Intn(9000)-400
		wantTag(t, "random bytes", key, b)
		wantCheck(t, "random bytes", key, b, tag, false)
		wantSame(t, "random bytes", b, tag, bytes.Equal(b, tag))
		out, e := Expand(key, b, n)
		if within := n >= 0 && n <= 8160; within != (e == api.OK) || within && len(out) != n || !within && (len(out) != 0 || e != api.ErrArg) {
			t.Errorf("Expand of %d: %d bytes, error %d", n, len(out), int(e))
		}
	}
}

func FuzzTags(f *testing.F) {
	f.Add([]byte(nil), []byte(nil), []byte(nil), 0)
	f.Add([]byte("Jefe"), []byte("what do ya want for nothing?"), repeated(0, 32), 42)
	f.Add(mixed(64, 1), mixed(64, 2), mixed(32, 3), 8160)
	f.Add(mixed(65, 1), mixed(55, 2), mixed(33, 3), 8161)
	f.Add(mixed(131, 1), mixed(1, 2), mixed(31, 3), -1)
	f.Fuzz(func(t *testing.T, key, b, tag []byte, n int) {
		wantTag(t, "the tag", key, b)
		wantCheck(t, "any tag", key, b, tag, bytes.Equal(tag, reference(key, b)))
		wantSame(t, "any bytes", b, tag, bytes.Equal(b, tag))
		if n < 0 || n > 8160 {
			if out, e := Expand(key, b, n); e != api.ErrArg || len(out) != 0 {
				t.Errorf("Expand of %d: %d bytes, error %d", n, len(out), int(e))
			}
			return
		}
		wantBytes(t, "what is made of the key", expanded(t, key, b, n), expandAsSaid(key, b)[:n])
	})
}
