package keys

import (
	"bytes"
	libhmac "crypto/hmac"
	"crypto/sha256"
	"encoding/binary"
	"encoding/hex"
	"math"
	"math/rand"
	"slices"
	"strconv"
	"strings"
	"testing"

	"casket/api"
	"casket/cursor"
	"casket/hmac"
)

// mixed are n bytes that tell their places apart.
func mixed(n int, from byte) []byte {
	out := make([]byte, n)
	for i := range out {
		out[i] = byte(i*7) + from
	}
	return out
}

func someKey() []byte { return mixed(32, 3) }

func repeated(v byte, n int) []byte { return bytes.Repeat([]byte{v}, n) }

// someKeys are keys, those with nothing but bytes 0 and 255 among them.
func someKeys() [][]byte {
	return [][]byte{someKey(), mixed(32, 200), repeated(0, 32), repeated(255, 32), []byte("0123456789abcdef0123456789abcdef")}
}

// wrongKeys are those that are none.
func wrongKeys() [][]byte {
	out := [][]byte{nil, {}, []byte{1, 2, 3}[1:1], someKey()[:31], someKey()[1:]}
	for _, n := range []int{1, 12, 16, 31, 33, 63, 64, 65, 288, 65536 + 32} {
		out = append(out, mixed(n, 3), repeated(0, n))
	}
	return out
}

// names are of all lengths that may be, with letters, with bytes 0, and with bytes that are no text.
func names() []string {
	var out []string
	for n := range 65 {
		out = append(out, strings.Repeat("x", n))
	}
	for _, n := range []int{1, 2, 32, 63, 64} {
		out = append(out, string(repeated(0, n)), string(repeated(255, n)), string(mixed(n, 120)), string(repeated(128, n)))
	}
	for v := range 256 {
		out = append(out, string([]byte{byte(v)}))
	}
	return append(out, "ab", "ba", "a\x00", "\x00a", "a\x00b", "tenant", "Tenant", "tenant ", strings.Repeat("é", 32), strings.Repeat("\xff\x00", 32))
}

// fewNames are for tests that go through much at each of them.
func fewNames() []string {
	return []string{"", "a", "ab", "\x00", "\x00\x00", "a\x00", "\x80\xff", strings.Repeat("x", 63), strings.Repeat("x", 64), string(repeated(255, 64)), string(repeated(0, 64))}
}

// longNames have more than 64 bytes; a few of them have fewer runes.
func longNames() []string {
	out := []string{strings.Repeat("é", 33), strings.Repeat("€", 22), string(repeated(255, 65)), string(repeated(0, 65))}
	for _, n := range []int{65, 66, 127, 128, 129, 255, 256, 257, 320, 16384, 1 << 20} {
		out = append(out, strings.Repeat("x", n))
	}
	return out
}

func versions() []uint64 {
	return []uint64{0, 1, 2, 127, 128, 255, 256, 258, 65535, 65536, 1<<32 - 1, 1 << 32, 1<<32 + 1, 0x0102030405060708, 1<<63 - 1, 1 << 63, math.MaxUint64 - 1, math.MaxUint64}
}

func indexes() []int {
	return []int{0, 1, 2, 3, 127, 128, 255, 256, 257, 65535, 65536, 65537, 0xfedcb, 1<<20 - 2, 1<<20 - 1}
}

// wrongIndexes are out of range; the lowest bits of many of them are those of indexes that are not.
func wrongIndexes() []int {
	return []int{-1, -2, -256, -1 << 20, 1 << 20, 1<<20 + 1, 1 << 21, math.MaxInt32, math.MinInt32, 1 << 32, 1<<32 + 1, -1 << 32, math.MinInt, math.MinInt + 1, math.MaxInt, math.MaxInt - 1}
}

func unhex(t *testing.T, text string) []byte {
	t.Helper()
	b, err := hex.DecodeString(text)
	if err != nil {
		t.Fatal(err)
	}
	return b
}

// reference is the library's HMAC-SHA256: another one's work, held against this one.
func reference(key []byte, parts ...[]byte) []byte {
	m := libhmac.New(sha256.New, key)
	for _, part := range parts {
		m.Write(part)
	}
	return m.Sum(nil)
}

// textAsSaid is what goes into Expand, by P18.1's words.
func textAsSaid(purpose byte, name string) []byte {
	text := []byte{purpose}
	return append(text, cursor.Block([]byte(name))...)
}

// keyAsSaid is P18.1, word by word, of what may be derived.
func keyAsSaid(t *testing.T, key []byte, purpose byte, name string) []byte {
	t.Helper()
	out, e := hmac.Expand(key, textAsSaid(purpose, name), 32)
	if e != api.OK || len(out) != 32 {
		t.Fatalf("Expand: %d bytes, error %d", len(out), int(e))
	}
	return out
}

// nonceAsSaid is P18.3, word by word.
func nonceAsSaid(t *testing.T, tenant []byte, version uint64, index int) []byte {
	t.Helper()
	var text []byte
	for shift := 56; shift >= 0; shift -= 8 {
		text = append(text, byte(version>>shift))
	}
	for shift := 24; shift >= 0; shift -= 8 {
		text = append(text, byte(index>>shift))
	}
	return hmac.MAC(keyAsSaid(t, tenant, 3, ""), text)[:12]
}

func wantBytes(t *testing.T, what string, got, want []byte) {
	t.Helper()
	if !bytes.Equal(got, want) {
		t.Errorf("%s: %x; want %x", what, got, want)
	}
}

// made are the bytes that a call answers where there must be some.
func made(t *testing.T, size int) func([]byte, api.Errno) []byte {
	return func(b []byte, e api.Errno) []byte {
		t.Helper()
		if e != api.OK || len(b) != size {
			t.Errorf("%d bytes, error %d; want %d bytes", len(b), int(e), size)
		}
		return b
	}
}

func key32(t *testing.T) func([]byte, api.Errno) []byte   { return made(t, 32) }
func nonce12(t *testing.T) func([]byte, api.Errno) []byte { return made(t, 12) }

// wantNone holds a call's answer against an error, beside which there are no bytes.
func wantNone(t *testing.T, what string, want api.Errno) func([]byte, api.Errno) {
	return func(b []byte, e api.Errno) {
		t.Helper()
		if e != want || len(b) != 0 {
			t.Errorf("%s: %d bytes, error %d; want none, and %d", what, len(b), int(e), int(want))
		}
	}
}

// P18.1

func TestTheChaptersExample(t *testing.T) {
	wantNone(t, "Derive of a key of 31 bytes", api.ErrArg)(Derive(someKey()[:31], 1, "a"))
	wantNone(t, "Derive of a name of 65 bytes", api.ErrLong)(Derive(someKey(), 1, strings.Repeat("x", 65)))
	wantNone(t, "Nonce of the index 2^20", api.ErrArg)(Nonce(someKey(), 1, 1<<20))
}

// These were made by another program's HMAC-SHA256.
func TestDeriveOfNamedTexts(t *testing.T) {
	var high []byte
	for v := 192; v < 256; v++ {
		high = append(high, byte(v))
	}
	for _, x := range []struct {
		purpose byte
		name    string
		want    string
	}{
		{0, "", "0e312ff6a2c579173bb94d6e3966dda854c084974eed4683942b9ebc5aa76d50"},
		{1, "", "25b40e1d0c32c24e9bc9b482e6db16e4f6905586fd56a1baa95d56d007d02309"},
		{1, "ab", "86fc913ab7205817e04dfe0827badbbc825adea238a58a0b255840c6b9d4f999"},
		{1, "\x00", "19541fb5846e0a717f714800f0dbda4d78e5003b35e3a583a7d7ea889d455273"},
		{2, "", "01020fb298acf1fda9061b693f111d155ceea3add098cbe563d8af0401b62049"},
		{3, "", "2aa342ac1acc7fde78eece0587820fef0fabb124857897800a16a0430fcbae55"},
		{4, "", "35d434362499962fe4e5580d48f75a1555379ae366f7504828631f987ebd2a18"},
		{5, strings.Repeat("x", 63), "8fb29cfddf18dfdd6804b6cc164a4344accf6e418e9e4af835c0db6bb807782e"},
		{255, string(high), "b215aa1cee4d1e37cdfd195ce197d686652dfd9116d66d649a969ed43dbc071b"},
	} {
		got := key32(t)(Derive(someKey(), x.purpose, x.name))
		wantBytes(t, "Derive by "+strconv.Itoa(int(x.purpose))+" of "+strconv.Quote(x.name), got, unhex(t, x.want))
	}
}

// wantDerived holds a key against the chapter's words, and against the library's HMAC of bytes that are laid by hand.
func wantDerived(t *testing.T, key []byte, purpose byte, name string) {
	t.Helper()
	got := key32(t)(Derive(key, purpose, name))
	what := "Derive by " + strconv.Itoa(int(purpose)) + " of " + strconv.Quote(name)
	wantBytes(t, what+", as the chapter says it", got, keyAsSaid(t, key, purpose, name))
	wantBytes(t, what, got, reference(key, []byte{purpose, byte(len(name))}, []byte(name), []byte{1}))
}

func TestDeriveOfEveryPurpose(t *testing.T) {
	for purpose := range 256 {
		for _, name := range fewNames() {
			wantDerived(t, someKey(), byte(purpose), name)
		}
	}
}

func TestDeriveOfNames(t *testing.T) {
	for _, name := range names() {
		for _, purpose := range []byte{0, 1, 4, 255} {
			wantDerived(t, someKey(), purpose, name)
		}
	}
}

func TestDeriveOfKeys(t *testing.T) {
	for _, key := range someKeys() {
		for _, name := range fewNames() {
			wantDerived(t, key, 1, name)
			wantDerived(t, key, 200, name)
		}
	}
}

func TestEveryBitOfTheKeyTurnsAll(t *testing.T) {
	key := someKey()
	calls := map[string]func() []byte{
		"Derive":   func() []byte { return key32(t)(Derive(key, 9, "a")) },
		"Tenant":   func() []byte { return key32(t)(Tenant(key, "a")) },
		"Seal":     func() []byte { return key32(t)(Seal(key)) },
		"Manifest": func() []byte { return key32(t)(Manifest(key)) },
		"Nonce":    func() []byte { return nonce12(t)(Nonce(key, 1, 2)) },
	}
	for what, call := range calls {
		before := call()
		for bit := range 256 {
			key[bit/8] ^= 1 << (bit % 8)
			if bytes.Equal(call(), before) {
				t.Errorf("%s: the key's bit %d turns nothing", what, bit)
			}
			key[bit/8] ^= 1 << (bit % 8)
		}
		wantBytes(t, what+" with all bits back", call(), before)
	}
}

func TestWrongKeysInEveryCall(t *testing.T) {
	for _, key := range wrongKeys() {
		what := " by a key of " + strconv.Itoa(len(key)) + " bytes"
		for _, name := range append(fewNames(), longNames()...) {
			wantNone(t, "Derive"+what, api.ErrArg)(Derive(key, 1, name))
			wantNone(t, "Tenant"+what, api.ErrArg)(Tenant(key, name))
		}
		wantNone(t, "Seal"+what, api.ErrArg)(Seal(key))
		wantNone(t, "Manifest"+what, api.ErrArg)(Manifest(key))
		for _, index := range append(indexes(), wrongIndexes()...) {
			wantNone(t, "Nonce"+what, api.ErrArg)(Nonce(key, 1, index))
		}
	}
}

func TestEveryLengthOfAKeyButOne(t *testing.T) {
	all := mixed(300, 3)
	for n := range all {
		if n == 32 {
			wantDerived(t, all[:n], 1, "a")
			continue
		}
		wantNone(t, "Derive", api.ErrArg)(Derive(all[:n], 1, "a"))
		wantNone(t, "Seal", api.ErrArg)(Seal(all[:n]))
		wantNone(t, "Manifest", api.ErrArg)(Manifest(all[:n]))
		wantNone(t, "Nonce", api.ErrArg)(Nonce(all[:n], 0, 0))
	}
}

func TestLongNames(t *testing.T) {
	for _, name := range longNames() {
		what := "a name of " + strconv.Itoa(len(name)) + " bytes"
		for _, purpose := range []byte{0, 1, 2, 3, 4, 255} {
			wantNone(t, what, api.ErrLong)(Derive(someKey(), purpose, name))
		}
		wantNone(t, what, api.ErrLong)(Tenant(someKey(), name))
		wantDerived(t, someKey(), 1, name[:64])
	}
}

// P18.2

func TestTenantIsDerivedByOne(t *testing.T) {
	for _, key := range someKeys() {
		for _, name := range names() {
			got := key32(t)(Tenant(key, name))
			wantBytes(t, "Tenant of "+strconv.Quote(name), got, key32(t)(Derive(key, 1, name)))
			wantBytes(t, "Tenant of "+strconv.Quote(name)+", as the chapter says it", got, keyAsSaid(t, key, 1, name))
		}
	}
}

func TestSealIsDerivedByTwo(t *testing.T) {
	for _, key := range someKeys() {
		got := key32(t)(Seal(key))
		wantBytes(t, "Seal", got, key32(t)(Derive(key, 2, "")))
		wantBytes(t, "Seal, as the chapter says it", got, keyAsSaid(t, key, 2, ""))
	}
}

func TestManifestIsDerivedByFour(t *testing.T) {
	for _, key := range someKeys() {
		got := key32(t)(Manifest(key))
		wantBytes(t, "Manifest", got, key32(t)(Derive(key, 4, "")))
		wantBytes(t, "Manifest, as the chapter says it", got, keyAsSaid(t, key, 4, ""))
	}
}

// A tenant's key is made of the master, and the tenant's other keys of that.
func TestKeysOfATenantsKey(t *testing.T) {
	for _, master := range someKeys() {
		for _, name := range fewNames() {
			tenant := key32(t)(Tenant(master, name))
			byHand := reference(master, []byte{1, byte(len(name))}, []byte(name), []byte{1})
			wantBytes(t, "Tenant", tenant, byHand)
			wantBytes(t, "Seal of it", key32(t)(Seal(tenant)), reference(byHand, []byte{2, 0, 1}))
			wantBytes(t, "Nonce of it", nonce12(t)(Nonce(tenant, 7, 5)), reference(reference(byHand, []byte{3, 0, 1}), []byte{0, 0, 0, 0, 0, 0, 0, 7, 0, 0, 0, 5})[:12])
		}
	}
}

// P18.3

// These were made by another program's HMAC-SHA256.
func TestNonceOfNamedPlaces(t *testing.T) {
	for _, x := range []struct {
		version uint64
		index   int
		want    string
	}{
		{0, 0, "4901ea238efa107cde6411e8"},
		{1, 0, "291ab6c8b1f4349482b72718"},
		{0, 1, "7b5d6c79a026521d2b3a678a"},
		{255, 255, "c05efcfeec018d49605ab070"},
		{256, 256, "3a7759e80f02f39dbfef6714"},
		{1 << 32, 65535, "febcb4bb059f11cca0f7e95f"},
		{1<<64 - 1, 65536, "2936fa941d6dab159cbe8ec0"},
		{0x0102030405060708, 0xfedcb, "a433e80167d26bf705c9e006"},
		{1<<64 - 1, 1<<20 - 1, "0d69347e9a3996fa68311c1d"},
	} {
		got := nonce12(t)(Nonce(someKey(), x.version, x.index))
		wantBytes(t, placeName(x.version, x.index), got, unhex(t, x.want))
	}
}

func placeName(version uint64, index int) string {
	return "Nonce of the version " + strconv.FormatUint(version, 10) + " and the index " + strconv.Itoa(index)
}

// wantNonce holds a nonce against the chapter's words, and against the library's HMAC of bytes that are laid by hand.
func wantNonce(t *testing.T, tenant []byte, version uint64, index int) {
	t.Helper()
	got := nonce12(t)(Nonce(tenant, version, index))
	wantBytes(t, placeName(version, index)+", as the chapter says it", got, nonceAsSaid(t, tenant, version, index))
	text := binary.BigEndian.AppendUint32(binary.BigEndian.AppendUint64(nil, version), uint32(index))
	wantBytes(t, placeName(version, index), got, reference(reference(tenant, []byte{3, 0, 1}), text)[:12])
	wantBytes(t, placeName(version, index)+", by Derive", got, hmac.MAC(key32(t)(Derive(tenant, 3, "")), text)[:12])
}

func TestNonceOfVersionsAndIndexes(t *testing.T) {
	for _, key := range someKeys() {
		for _, version := range versions() {
			for _, index := range indexes() {
				wantNonce(t, key, version, index)
			}
		}
	}
}

func TestNonceOfEveryBit(t *testing.T) {
	for bit := range 64 {
		wantNonce(t, someKey(), 1<<bit, 0)
	}
	for bit := range 20 {
		wantNonce(t, someKey(), 0, 1<<bit)
	}
}

func TestNoncesOfPlacesDiffer(t *testing.T) {
	type place struct {
		version uint64
		index   int
	}
	seen := map[string]place{}
	for _, version := range versions() {
		for _, index := range indexes() {
			nonce := string(nonce12(t)(Nonce(someKey(), version, index)))
			if other, ok := seen[nonce]; ok {
				t.Errorf("%s is that of %v too", placeName(version, index), other)
			}
			seen[nonce] = place{version, index}
		}
	}
}

func TestIndexesOutOfRange(t *testing.T) {
	for _, key := range someKeys() {
		for _, version := range versions() {
			for _, index := range wrongIndexes() {
				wantNone(t, placeName(version, index), api.ErrArg)(Nonce(key, version, index))
			}
		}
	}
}

// P18.4

// The text tells purpose and name by itself, so that no two have the same one; and it is this text that goes into Expand.
func TestTheTextTellsPurposeAndName(t *testing.T) {
	for purpose := range 256 {
		for _, name := range append(fewNames(), "\x01", "\x02", "\x01\x00", "\x00\x01", "\x02ab") {
			c := cursor.New(info(byte(purpose), name))
			first, e := c.Byte()
			if e != api.OK || first != byte(purpose) {
				t.Errorf("the purpose %d: %d, error %d", purpose, first, int(e))
			}
			rest, e := c.Block(64)
			if e != api.OK || string(rest) != name || c.End() != api.OK {
				t.Errorf("the name %q: %q, error %d, %d bytes left", name, rest, int(e), c.Left())
			}
			wantBytes(t, "Derive", key32(t)(Derive(someKey(), byte(purpose), name)), keyAsSaid(t, someKey(), byte(purpose), name))
		}
	}
}

type purposeAndName struct {
	purpose byte
	name    string
}

// wantAllOther: no two of these have the same text, nor the same key.
func wantAllOther(t *testing.T, all []purposeAndName) {
	t.Helper()
	texts, derived := map[string]purposeAndName{}, map[string]purposeAndName{}
	for _, x := range all {
		text, key := string(info(x.purpose, x.name)), string(key32(t)(Derive(someKey(), x.purpose, x.name)))
		if other, ok := texts[text]; ok && other != x {
			t.Errorf("the text of %q is that of %q", x, other)
		}
		if other, ok := derived[key]; ok && other != x {
			t.Errorf("the key of %q is that of %q", x, other)
		}
		texts[text], derived[key] = x, x
	}
}

func TestPurposesAndNamesHaveTheirOwnKeys(t *testing.T) {
	var all []purposeAndName
	for purpose := range 256 {
		for _, name := range fewNames() {
			all = append(all, purposeAndName{byte(purpose), name})
		}
	}
	for _, name := range names() {
		all = append(all, purposeAndName{1, name}, purposeAndName{2, name})
	}
	wantAllOther(t, all)
}

// Names that are another one's block, or its whole text, or begin or end with a purpose or a length: without a length, or with the purpose elsewhere, their bytes would be others' bytes.
func TestBytesThatWouldRunTogether(t *testing.T) {
	var all []purposeAndName
	for purpose := range byte(6) {
		for _, name := range []string{"", "a", "ab", "\x00", "\x01", strings.Repeat("x", 61)} {
			block, text := string(cursor.Block([]byte(name))), string(textAsSaid(purpose, name))
			for _, other := range []string{name, block, text, name + "\x00", name + "\x01", "\x00" + name, "\x01" + name, name + string([]byte{purpose})} {
				for by := range byte(6) {
					all = append(all, purposeAndName{by, other})
				}
			}
		}
	}
	wantAllOther(t, all)
}

func TestPairsThatWouldRunTogether(t *testing.T) {
	for _, x := range []struct{ one, other purposeAndName }{
		{purposeAndName{2, ""}, purposeAndName{2, "\x00"}},
		{purposeAndName{1, "a"}, purposeAndName{1, "\x01a"}},
		{purposeAndName{1, "ab"}, purposeAndName{1, "\x02ab"}},
		{purposeAndName{1, "\x02ab"}, purposeAndName{2, "ab"}},
		{purposeAndName{1, ""}, purposeAndName{1, "\x01"}},
		{purposeAndName{'a', "b"}, purposeAndName{'b', "a"}},
		{purposeAndName{'a', ""}, purposeAndName{0, "a"}},
		{purposeAndName{3, ""}, purposeAndName{0, "\x03"}},
		{purposeAndName{1, "a\x00"}, purposeAndName{1, "a"}},
		{purposeAndName{1, strings.Repeat("x", 64)}, purposeAndName{1, strings.Repeat("x", 63)}},
	} {
		one := key32(t)(Derive(someKey(), x.one.purpose, x.one.name))
		other := key32(t)(Derive(someKey(), x.other.purpose, x.other.name))
		if bytes.Equal(one, other) {
			t.Errorf("%q and %q have the same key", x.one, x.other)
		}
	}
}

func TestKeysOfOneKeyDiffer(t *testing.T) {
	for _, key := range someKeys() {
		all := [][]byte{key, key32(t)(Tenant(key, "")), key32(t)(Seal(key)), key32(t)(Derive(key, 3, "")), key32(t)(Manifest(key))}
		for i, one := range all {
			for _, other := range all[:i] {
				if bytes.Equal(one[:12], other[:12]) {
					t.Errorf("two keys made of %x begin with %x", key, one[:12])
				}
			}
		}
	}
}

// R3

// call is one of the calls, with all but its key.
type call struct {
	what string
	size int
	ask  func(key []byte) ([]byte, api.Errno)
}

func calls() []call {
	out := []call{{"Seal", 32, Seal}, {"Manifest", 32, Manifest}}
	for _, name := range fewNames() {
		out = append(out,
			call{"Derive", 32, func(key []byte) ([]byte, api.Errno) { return Derive(key, 77, name) }},
			call{"Tenant", 32, func(key []byte) ([]byte, api.Errno) { return Tenant(key, name) }})
	}
	for _, index := range indexes() {
		out = append(out, call{"Nonce", 12, func(key []byte) ([]byte, api.Errno) { return Nonce(key, 258, index) }})
	}
	return out
}

// withRoom are b's bytes with others behind them in the same memory, which are no call's either.
func withRoom(b []byte) []byte { return append(slices.Clone(b), repeated(99, 200)...) }

func TestWhatIsHandedInIsNotChanged(t *testing.T) {
	for _, x := range calls() {
		for _, key := range append(someKeys(), wrongKeys()...) {
			handed := withRoom(key)
			before := slices.Clone(handed)
			x.ask(handed[:len(key)])
			wantBytes(t, x.what+": the key", handed, before)
		}
		handed := withRoom(someKey())
		Derive(handed[:32], 1, strings.Repeat("x", 65))
		Nonce(handed[:32], 1, -1)
		wantBytes(t, "the key", handed, withRoom(someKey()))
	}
}

func TestWhatIsHandedInIsNotKept(t *testing.T) {
	for _, x := range calls() {
		key := withRoom(someKey())
		want := slices.Clone(made(t, x.size)(x.ask(someKey())))
		answer := made(t, x.size)(x.ask(key[:32]))
		clear(key)
		wantBytes(t, x.what+", whose key is changed", answer, want)
		wantBytes(t, x.what+" of the key as it is now", made(t, x.size)(x.ask(key[:32])), made(t, x.size)(x.ask(repeated(0, 32))))
		if bytes.Equal(made(t, x.size)(x.ask(key[:32])), want) {
			t.Errorf("%s: the key as it was is kept", x.what)
		}
	}
}

// overwrite changes an answer's bytes, and all the memory behind them that it reaches.
func overwrite(held []byte) { _ = append(held[:0:cap(held)], repeated(7, cap(held))...) }

func TestAnAnswerIsItsHoldersOwn(t *testing.T) {
	for _, x := range calls() {
		key := withRoom(someKey())
		want := slices.Clone(made(t, x.size)(x.ask(key[:32])))
		held, another := made(t, x.size)(x.ask(key[:32])), made(t, x.size)(x.ask(key[:32]))
		overwrite(held)
		wantBytes(t, x.what+": another answer", another, want)
		wantBytes(t, x.what+": one that is asked later", made(t, x.size)(x.ask(key[:32])), want)
		wantBytes(t, x.what+": the key", key, withRoom(someKey()))
	}
}

// An answer of one call may be another one's key, and is then its holder's still.
func TestAnAnswerHandedIn(t *testing.T) {
	tenant := key32(t)(Tenant(someKey(), "ab"))
	before := slices.Clone(tenant)
	for _, x := range calls() {
		overwrite(made(t, x.size)(x.ask(tenant)))
		wantBytes(t, x.what+": the tenant's key", tenant, before)
	}
}

// Nobody finds what a nonce was made of behind it.
func TestNothingStandsBehindAnAnswer(t *testing.T) {
	for _, version := range versions() {
		nonce := nonce12(t)(Nonce(someKey(), version, 1))
		tag := reference(reference(someKey(), []byte{3, 0, 1}), binary.BigEndian.AppendUint32(binary.BigEndian.AppendUint64(nil, version), 1))
		if all := nonce[:cap(nonce)]; len(all) > 12 && bytes.Contains(all, tag[:13]) {
			t.Errorf("behind the nonce its tag goes on: %x", all)
		}
	}
}

func TestNothingIsKeptBetweenCalls(t *testing.T) {
	var first [][]byte
	for _, x := range calls() {
		first = append(first, slices.Clone(made(t, x.size)(x.ask(someKey()))))
	}
	for i, x := range calls() {
		x.ask(nil)
		x.ask(repeated(255, 32))
		Derive(someKey(), 1, strings.Repeat("x", 65))
		Nonce(someKey(), math.MaxUint64, math.MaxInt)
		wantBytes(t, x.what+" once more", made(t, x.size)(x.ask(someKey())), first[i])
	}
}

// R1

// holdAll holds what all calls answer against the chapter's words, whatever is handed in.
func holdAll(t *testing.T, key []byte, purpose byte, name string, version uint64, index int) {
	t.Helper()
	if len(key) != 32 {
		wantNone(t, "Derive", api.ErrArg)(Derive(key, purpose, name))
		wantNone(t, "Tenant", api.ErrArg)(Tenant(key, name))
		wantNone(t, "Seal", api.ErrArg)(Seal(key))
		wantNone(t, "Manifest", api.ErrArg)(Manifest(key))
		wantNone(t, "Nonce", api.ErrArg)(Nonce(key, version, index))
		return
	}
	wantBytes(t, "Seal", key32(t)(Seal(key)), keyAsSaid(t, key, 2, ""))
	wantBytes(t, "Manifest", key32(t)(Manifest(key)), keyAsSaid(t, key, 4, ""))
	if len(name) > 64 {
		wantNone(t, "Derive", api.ErrLong)(Derive(key, purpose, name))
		wantNone(t, "Tenant", api.ErrLong)(Tenant(key, name))
	} else {
		wantDerived(t, key, purpose, name)
		wantBytes(t, "Tenant", key32(t)(Tenant(key, name)), keyAsSaid(t, key, 1, name))
	}
	if index < 0 || index >= 1<<20 {
		wantNone(t, placeName(version, index), api.ErrArg)(Nonce(key, version, index))
	} else {
		wantNonce(t, key, version, index)
	}
}

func TestNothingPanics(t *testing.T) {
	random := rand.New(rand.NewSource(18))
	some := func(n int) []byte {
		if n == 0 && random.Intn(2) == 0 {
			return nil
		}
		b := make([]byte, n)
		random.Read(b)
		return b
	}
	for range 5000 {
		size, index := 32, random.Intn(1<<20)
		if random.Intn(4) == 0 {
			size = random.Intn(100)
		}
		if random.Intn(4) == 0 {
			index = int(random.Uint64()) >> random.Intn(64)
		}
		holdAll(t, some(size), byte(random.Intn(256)), string(some(random.Intn(80))), random.Uint64()>>random.Intn(64), index)
	}
}

func FuzzAll(f *testing.F) {
	f.Add([]byte(nil), byte(0), "", uint64(0), 0)
	f.Add(mixed(32, 3), byte(1), "ab", uint64(258), 3)
	f.Add(mixed(32, 3), byte(255), strings.Repeat("x", 64), uint64(math.MaxUint64), 1<<20-1)
	f.Add(mixed(32, 3), byte(4), strings.Repeat("x", 65), uint64(1), 1<<20)
	f.Add(mixed(31, 3), byte(2), "\x00\xff", uint64(1)<<32, -1)
	f.Add(mixed(33, 3), byte(3), strings.Repeat("x", 65), uint64(1), math.MinInt)
	f.Fuzz(holdAll)
}
