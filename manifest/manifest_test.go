package manifest

import (
	"bytes"
	libhmac "crypto/hmac"
	"crypto/sha256"
	"encoding/hex"
	"fmt"
	"math"
	"math/rand"
	"reflect"
	"slices"
	"strings"
	"testing"

	"casket/api"
	"casket/hmac"
	"casket/keys"
	"casket/pad"
)

// mixed are n bytes that tell their places apart.
func mixed(n int, from byte) []byte {
	out := make([]byte, n)
	for i := range out {
		out[i] = byte(i*7) + from
	}
	return out
}

func repeated(v byte, n int) []byte { return bytes.Repeat([]byte{v}, n) }

func somePrev() []byte { return mixed(32, 1) }

func someRoot() []byte { return mixed(32, 100) }

func someMaster() []byte { return mixed(32, 3) }

// masters are keys, those with nothing but bytes 0 and 255 among them.
func masters() [][]byte {
	return [][]byte{someMaster(), mixed(32, 200), repeated(0, 32), repeated(255, 32), []byte("0123456789abcdef0123456789abcdef")}
}

// wrongMasters are those that are no keys.
func wrongMasters() [][]byte {
	out := [][]byte{nil, {}, someMaster()[:0], someMaster()[:31], someMaster()[1:]}
	for _, n := range []int{1, 16, 31, 33, 63, 64, 65, 288, 65536 + 32} {
		out = append(out, mixed(n, 3), repeated(0, n))
	}
	return out
}

// of is a manifest with these entries.
func of(entries ...api.Entry) api.Manifest {
	return api.Manifest{Version: 258, Prev: somePrev(), Entries: entries, Root: someRoot()}
}

// ofTenants has an entry for each tenant, with one bucket behind the other.
func ofTenants(tenants ...string) api.Manifest {
	m := of()
	for i, tenant := range tenants {
		m.Entries = append(m.Entries, api.Entry{Tenant: tenant, Bucket: i % 9})
	}
	return m
}

func versioned(version uint64, m api.Manifest) api.Manifest {
	m.Version = version
	return m
}

func backwards(tenants []string) []string {
	slices.Reverse(tenants)
	return tenants
}

// edgeTenants have no bytes, one, as many as may be, bytes that are no letters, and such that begin with each other.
func edgeTenants() []string {
	return []string{
		"", "\x00", "\x00\x00", "\x00a", "a", "a\x00", "aa", "ab", "abc", "b", "ba", "Z", "z", "10", "9", "\x7f", "\x80", "\x80\x00", "\xff", "\xff\x00", "\xff\xff",
		"\xc3", "\xc3\xa9", "é", "e\u0301", "日本", "\xed\xa0\x80", "\ufffd", "a\nb", "tenant", "Tenant", "tenant ",
		strings.Repeat("x", 63), strings.Repeat("x", 64), strings.Repeat("x", 63) + "y", strings.Repeat("\x00", 64), strings.Repeat("\xff", 63), strings.Repeat("\xff", 64), strings.Repeat("é", 32),
	}
}

// numbered are n tenants that differ, rising; each has three bytes.
func numbered(n int) []string {
	out := make([]string, n)
	for i := range out {
		out[i] = string([]byte{byte(i >> 16), byte(i >> 8), byte(i)})
	}
	return out
}

func versions() []uint64 {
	return []uint64{0, 1, 2, 127, 128, 255, 256, 258, 65535, 65536, 1<<32 - 1, 1 << 32, 0x0102030405060708, 1<<63 - 1, 1 << 63, math.MaxUint64 - 256, math.MaxUint64 - 2, math.MaxUint64 - 1}
}

// wrongBuckets are none; the lowest bytes of many of them are those of buckets.
func wrongBuckets() []int {
	return []int{9, 10, 16, 64, 127, 128, 255, 256, 257, 264, 1 << 16, 1 << 20, 1 << 32, 1<<32 + 8, 1 << 40, math.MaxInt - 1, math.MaxInt, -1, -2, -8, -9, -248, -256, -1 << 32, math.MinInt, math.MinInt + 1, math.MinInt + 8}
}

// wrongSums have another length than 32.
func wrongSums() [][]byte {
	out := [][]byte{nil, {}, somePrev()[:31], somePrev()[:0]}
	for _, n := range []int{1, 16, 31, 33, 64, 288} {
		out = append(out, mixed(n, 5))
	}
	return out
}

func longTenants() []string {
	return []string{strings.Repeat("x", 65), strings.Repeat("\x00", 65), strings.Repeat("\xff", 65), strings.Repeat("é", 33), strings.Repeat("x", 127), strings.Repeat("x", 128), strings.Repeat("x", 320), strings.Repeat("x", 1<<16)}
}

// What the chapter says, by a plain way of its own: no map, no panic, and nothing of the layers below but pad's and the tags'.

// eight is a number in eight bytes, the highest first.
func eight(v uint64) []byte {
	var out []byte
	for shift := 56; shift >= 0; shift -= 8 {
		out = append(out, byte(v>>shift))
	}
	return out
}

func varintAsSaid(v uint64) []byte {
	if v < 128 {
		return []byte{byte(v)}
	}
	return append([]byte{byte(v%128) + 128}, varintAsSaid(v/128)...)
}

func blockAsSaid(text string) []byte {
	return append(varintAsSaid(uint64(len(text))), text...)
}

// ahead: does a stand ahead of b, byte by byte, and ahead of what begins with it?
func ahead(a, b string) bool {
	for i := range min(len(a), len(b)) {
		if a[i] != b[i] {
			return a[i] < b[i]
		}
	}
	return len(a) < len(b)
}

func tenantsAsSaid(entries []api.Entry) []string {
	var out []string
	for _, entry := range entries {
		at := 0
		for at < len(out) && ahead(out[at], entry.Tenant) {
			at++
		}
		if at == len(out) || out[at] != entry.Tenant {
			out = slices.Insert(out, at, entry.Tenant)
		}
	}
	return out
}

// errorAsSaid is what P21.1 says ahead of its bytes.
func errorAsSaid(m api.Manifest) api.Errno {
	if m.Version > math.MaxUint64-1 || len(m.Prev) != 32 || len(m.Root) != 32 {
		return api.ErrArg
	}
	for _, entry := range m.Entries {
		if entry.Bucket < 0 || entry.Bucket > 8 {
			return api.ErrArg
		}
	}
	if len(m.Entries) > 1048576 {
		return api.ErrLong
	}
	for _, entry := range m.Entries {
		if len(entry.Tenant) > 64 {
			return api.ErrLong
		}
	}
	return api.OK
}

// begin are the bytes ahead of the tenants.
func begin(version uint64, prev []byte) []byte {
	return slices.Concat([]byte{67, 83, 75, 49}, eight(version), prev)
}

// encodeAsSaid is P21.1, word by word.
func encodeAsSaid(m api.Manifest) ([]byte, api.Errno) {
	if e := errorAsSaid(m); e != api.OK {
		return nil, e
	}
	tenants := tenantsAsSaid(m.Entries)
	out := begin(m.Version, m.Prev)
	out = append(out, varintAsSaid(uint64(len(tenants)))...)
	for _, tenant := range tenants {
		out = append(out, blockAsSaid(tenant)...)
	}
	out = append(out, varintAsSaid(uint64(len(m.Entries)))...)
	for _, entry := range m.Entries {
		out = append(out, varintAsSaid(uint64(slices.Index(tenants, entry.Tenant)))...)
		out = append(out, byte(entry.Bucket))
	}
	return append(out, m.Root...), api.OK
}

// reading is bytes that are read; once something is wrong, it stays so, and nothing more is read.
type reading struct {
	b []byte
	e api.Errno
}

func (r *reading) fail(e api.Errno) {
	if r.e == api.OK {
		r.e = e
	}
}

func (r *reading) failIf(wrong bool, e api.Errno) {
	if wrong {
		r.fail(e)
	}
}

// take answers bytes 0 where there is an error, so that what asks them goes on.
func (r *reading) take(n int) []byte {
	r.failIf(n > len(r.b), api.ErrShort)
	if r.e != api.OK {
		return make([]byte, n)
	}
	out := r.b[:n]
	r.b = r.b[n:]
	return out
}

func (r *reading) varint() uint64 {
	v := uint64(0)
	for i := 0; r.e == api.OK; i++ {
		each := r.take(1)[0]
		if r.e != api.OK {
			return 0
		}
		r.failIf(i == 9 && each > 1, api.ErrForm)
		v += uint64(each%128) << (7 * i)
		if each < 128 {
			r.failIf(i > 0 && each == 0, api.ErrForm)
			return v
		}
	}
	return 0
}

func (r *reading) block(most uint64) string {
	n := r.varint()
	r.failIf(n > most, api.ErrLong)
	if r.e != api.OK {
		return ""
	}
	return string(r.take(int(n)))
}

func (r *reading) count() uint64 {
	n := r.varint()
	r.failIf(n > 1048576, api.ErrLong)
	return n
}

// decodeAsSaid is P21.2, in the order in which bytes are read.
func decodeAsSaid(b []byte) (api.Manifest, api.Errno) {
	r := &reading{b: b}
	r.failIf(!bytes.Equal(r.take(4), []byte{67, 83, 75, 49}), api.ErrForm)
	version := uint64(0)
	for _, each := range r.take(8) {
		version = version*256 + uint64(each)
	}
	r.failIf(version == 1<<64-1, api.ErrForm)
	m := api.Manifest{Version: version, Prev: r.take(32)}
	var tenants []string
	for n := r.count(); n > 0 && r.e == api.OK; n-- {
		tenants = append(tenants, r.block(64))
		if k := len(tenants); k > 1 {
			r.failIf(!ahead(tenants[k-2], tenants[k-1]), api.ErrForm)
		}
	}
	named := make([]int, len(tenants))
	for n := r.count(); n > 0 && r.e == api.OK; n-- {
		place := r.varint()
		r.failIf(place >= uint64(len(tenants)), api.ErrForm)
		bucket := int(r.take(1)[0])
		r.failIf(bucket > 8, api.ErrForm)
		if r.e == api.OK {
			m.Entries = append(m.Entries, api.Entry{Tenant: tenants[place], Bucket: bucket})
			named[place]++
		}
	}
	m.Root = r.take(32)
	r.failIf(len(r.b) > 0, api.ErrForm)
	r.failIf(slices.Contains(named, 0), api.ErrForm)
	if r.e != api.OK {
		return api.Manifest{}, r.e
	}
	return m, api.OK
}

// tagAsSaid is P21.3's, by the layers below.
func tagAsSaid(t *testing.T, master, b []byte) []byte {
	t.Helper()
	key, e := keys.Manifest(master)
	if e != api.OK {
		t.Fatalf("keys.Manifest: error %d", int(e))
	}
	return hmac.MAC(key, b)
}

// reference is the library's HMAC-SHA256: another one's work, held against this one.
func reference(key []byte, parts ...[]byte) []byte {
	h := libhmac.New(sha256.New, key)
	for _, part := range parts {
		h.Write(part)
	}
	return h.Sum(nil)
}

// tagByLibrary is the same tag: its key is the first piece of Expand, of the purpose 4 and a block of nothing.
func tagByLibrary(master, b []byte) []byte {
	return reference(reference(master, []byte{4, 0, 1}), b)
}

func signedAs(t *testing.T, master, b []byte) []byte {
	t.Helper()
	return slices.Concat(b, tagAsSaid(t, master, b))
}

// What is wanted.

func same(a, b api.Manifest) bool {
	return a.Version == b.Version && bytes.Equal(a.Prev, b.Prev) && slices.Equal(a.Entries, b.Entries) && bytes.Equal(a.Root, b.Root)
}

// isNothing asks for the zero manifest itself, whose lists are nil.
func isNothing(m api.Manifest) bool { return reflect.DeepEqual(m, api.Manifest{}) }

// brief and briefly are beginnings, since some manifests are long.
func brief(b []byte) string { return fmt.Sprintf("%d of %v", len(b), b[:min(len(b), 120)]) }

func briefly(m api.Manifest) string {
	entries := m.Entries[:min(len(m.Entries), 12)]
	return fmt.Sprintf("version %d, prev %x, %d entries %.200q, root %x", m.Version, m.Prev, len(m.Entries), fmt.Sprint(entries), m.Root)
}

func wantBytes(t *testing.T, what string, got, want []byte) {
	t.Helper()
	if !bytes.Equal(got, want) {
		t.Errorf("%s: %s; want %s", what, brief(got), brief(want))
	}
}

func wantEncoded(t *testing.T, m api.Manifest, want []byte) {
	t.Helper()
	if got, e := Encode(m); !bytes.Equal(got, want) || e != api.OK {
		t.Errorf("Encode(%s): %s, error %d; want %s", briefly(m), brief(got), int(e), brief(want))
	}
}

func wantDecoded(t *testing.T, b []byte, want api.Manifest) {
	t.Helper()
	if got, e := Decode(b); !same(got, want) || e != api.OK {
		t.Errorf("Decode(%s): %s, error %d; want %s", brief(b), briefly(got), int(e), briefly(want))
	}
}

// wantPair says that b is m's Encode, and m is b's Decode; and what is signed and checked is so, too.
func wantPair(t *testing.T, m api.Manifest, b []byte) {
	t.Helper()
	wantEncoded(t, m, b)
	wantDecoded(t, b, m)
	wantSigned(t, someMaster(), m, b)
}

// wantSigned says that m's Sign is b and a tag behind it, and that Check brings m back.
func wantSigned(t *testing.T, master []byte, m api.Manifest, b []byte) {
	t.Helper()
	signed, e := Sign(master, m)
	if e != api.OK || len(signed) != len(b)+32 {
		t.Fatalf("Sign(%x, %s): %d bytes, error %d; want %d", master, briefly(m), len(signed), int(e), len(b)+32)
	}
	wantBytes(t, "what is signed", signed[:len(b)], b)
	wantBytes(t, "the tag", signed[len(b):], tagAsSaid(t, master, b))
	wantBytes(t, "the tag by the library", signed[len(b):], tagByLibrary(master, b))
	wantChecked(t, master, signed, m)
}

func wantChecked(t *testing.T, master, b []byte, want api.Manifest) {
	t.Helper()
	if got, e := Check(master, b); !same(got, want) || e != api.OK {
		t.Errorf("Check(%x, %s): %s, error %d; want %s", master, brief(b), briefly(got), int(e), briefly(want))
	}
}

// wantAsSaid holds a manifest's bytes, and what is read of them, against the chapter's words.
func wantAsSaid(t *testing.T, m api.Manifest) {
	t.Helper()
	b, e := encodeAsSaid(m)
	if e != api.OK {
		wantNoBytes(t, m, e)
		return
	}
	wantPair(t, m, b)
}

// wantNoBytes says that neither Encode nor Sign answers anything but this error.
func wantNoBytes(t *testing.T, m api.Manifest, want api.Errno) {
	t.Helper()
	if got, e := Encode(m); got != nil || e != want {
		t.Errorf("Encode(%s): %s, error %d; want nil, %d", briefly(m), brief(got), int(e), int(want))
	}
	if got, e := Sign(someMaster(), m); got != nil || e != want {
		t.Errorf("Sign(%s): %s, error %d; want nil, %d", briefly(m), brief(got), int(e), int(want))
	}
}

// wantNone says that b is nobody's bytes; where they are signed, too.
func wantNone(t *testing.T, b []byte, want api.Errno) {
	t.Helper()
	if got, e := Decode(b); !isNothing(got) || e != want {
		t.Errorf("Decode(%s): %s, error %d; want nothing, %d", brief(b), briefly(got), int(e), int(want))
	}
	wantUnchecked(t, "signed, and no manifest's", someMaster(), signedAs(t, someMaster(), b), want)
}

func wantUnchecked(t *testing.T, what string, master, b []byte, want api.Errno) {
	t.Helper()
	if got, e := Check(master, b); !isNothing(got) || e != want {
		t.Errorf("%s: Check(%x, %s): %s, error %d; want nothing, %d", what, master, brief(b), briefly(got), int(e), int(want))
	}
}

// wantReadAsSaid holds what is read of any bytes against the chapter's words, and what Encode writes of it against the bytes.
func wantReadAsSaid(t *testing.T, b []byte) api.Errno {
	t.Helper()
	want, wantE := decodeAsSaid(b)
	got, e := Decode(b)
	if e != wantE || !same(got, want) || e != api.OK && !isNothing(got) {
		t.Errorf("Decode(%s): %s, error %d; want %s, %d", brief(b), briefly(got), int(e), briefly(want), int(wantE))
	}
	if wantE == api.OK {
		wantEncoded(t, want, b)
	}
	return wantE
}

// wantCheckedAsSaid is the same for bytes that are signed as they are.
func wantCheckedAsSaid(t *testing.T, master, b []byte) api.Errno {
	t.Helper()
	want, e := decodeAsSaid(b)
	if e != api.OK {
		wantUnchecked(t, "signed", master, signedAs(t, master, b), e)
	} else {
		wantSigned(t, master, want, b)
	}
	return e
}

// tail are bytes behind a right beginning, and ahead of a root.
func tail(b ...byte) []byte { return slices.Concat(begin(258, somePrev()), b, someRoot()) }

// cut are bytes behind a right beginning, with no root behind them.
func cut(b ...byte) []byte { return slices.Concat(begin(258, somePrev()), b) }

// P21.1

func TestTheChaptersExample(t *testing.T) {
	m := api.Manifest{Version: 1, Prev: somePrev(), Root: someRoot()}
	b := slices.Concat([]byte{67, 83, 75, 49, 0, 0, 0, 0, 0, 0, 0, 1}, somePrev(), []byte{0, 0}, someRoot())
	if len(b) != 78 {
		t.Fatalf("the example has %d bytes", len(b))
	}
	wantPair(t, m, b)
	m.Entries = []api.Entry{}
	wantPair(t, m, b)
	m.Entries = []api.Entry{{Tenant: "a", Bucket: 1}}[:0]
	wantPair(t, m, b)
}

func TestNamedManifests(t *testing.T) {
	for _, x := range []struct {
		entries []api.Entry
		tail    []byte
	}{
		{nil, []byte{0, 0}},
		{[]api.Entry{{Tenant: "", Bucket: 0}}, []byte{1, 0, 1, 0, 0}},
		{[]api.Entry{{Tenant: "\x00", Bucket: 0}}, []byte{1, 1, 0, 1, 0, 0}},
		{[]api.Entry{{Tenant: "a", Bucket: 8}}, []byte{1, 1, 97, 1, 0, 8}},
		{[]api.Entry{{Tenant: "b", Bucket: 2}, {Tenant: "a", Bucket: 0}, {Tenant: "b", Bucket: 8}}, []byte{2, 1, 97, 1, 98, 3, 1, 2, 0, 0, 1, 8}},
		{[]api.Entry{{Tenant: "a", Bucket: 3}, {Tenant: "a", Bucket: 3}, {Tenant: "a", Bucket: 4}}, []byte{1, 1, 97, 3, 0, 3, 0, 3, 0, 4}},
		{[]api.Entry{{Tenant: "ab", Bucket: 1}, {Tenant: "a", Bucket: 1}, {Tenant: "", Bucket: 1}}, []byte{3, 0, 1, 97, 2, 97, 98, 3, 2, 1, 1, 1, 0, 1}},
		{[]api.Entry{{Tenant: "b", Bucket: 5}, {Tenant: "ab", Bucket: 6}}, []byte{2, 2, 97, 98, 1, 98, 2, 1, 5, 0, 6}}, // the shorter one is not the first
		{[]api.Entry{{Tenant: "\xff", Bucket: 0}, {Tenant: "\x7f", Bucket: 1}, {Tenant: "\x80\x00", Bucket: 2}, {Tenant: "\x80", Bucket: 7}}, []byte{4, 1, 127, 1, 128, 2, 128, 0, 1, 255, 4, 3, 0, 0, 1, 2, 2, 1, 7}},
		{[]api.Entry{{Tenant: "é", Bucket: 0}, {Tenant: "z", Bucket: 0}, {Tenant: "Z", Bucket: 0}}, []byte{3, 1, 90, 1, 122, 2, 195, 169, 3, 2, 0, 1, 0, 0, 0}},
	} {
		wantPair(t, of(x.entries...), tail(x.tail...))
	}
}

func TestNumbersOfEntriesAndTenants(t *testing.T) {
	for _, n := range []int{1, 2, 3, 4, 7, 30, 126, 127, 128, 129, 130, 255, 256, 257, 300, 1000} {
		for _, k := range []int{1, 2, 3, 5, 29, 127, 128, 129, 200, 1000} {
			m := of()
			for i := range n {
				tenant := fmt.Sprint("tenant ", i*31%k)
				m.Entries = append(m.Entries, api.Entry{Tenant: tenant, Bucket: i * 5 % 9})
			}
			wantAsSaid(t, m)
		}
	}
}

// The tenants come in all orders that few have, and each stands where it belongs.
func TestTenantsInAnyOrderOfTheEntries(t *testing.T) {
	tenants := []string{"", "\x00", "a", "a\x00", "ab", "\xff"}
	places := []int{0, 1, 2, 3, 4, 5}
	tried := 0
	var order func(k int)
	order = func(k int) {
		if k == len(places) {
			tried++
			m := of()
			want := []byte{6, 0, 1, 0, 1, 97, 2, 97, 0, 2, 97, 98, 1, 255, 6}
			for _, place := range places {
				m.Entries = append(m.Entries, api.Entry{Tenant: tenants[place], Bucket: place})
				want = append(want, byte(place), byte(place))
			}
			wantPair(t, m, tail(want...))
			return
		}
		for i := k; i < len(places); i++ {
			places[k], places[i] = places[i], places[k]
			order(k + 1)
			places[k], places[i] = places[i], places[k]
		}
	}
	order(0)
	if tried != 720 {
		t.Errorf("%d orders were tried", tried)
	}
}

func TestEveryTwoEdgeTenants(t *testing.T) {
	for _, one := range edgeTenants() {
		wantAsSaid(t, ofTenants(one))
		for _, other := range edgeTenants() {
			wantAsSaid(t, ofTenants(one, other))
			wantAsSaid(t, ofTenants(one, other, one))
			wantAsSaid(t, ofTenants(one, one, other, other))
		}
	}
}

func TestAllEdgeTenantsTogether(t *testing.T) {
	random := rand.New(rand.NewSource(21))
	for range 50 {
		tenants := slices.Concat(edgeTenants(), edgeTenants(), []string{"a", "b", "a"})
		random.Shuffle(len(tenants), func(i, j int) { tenants[i], tenants[j] = tenants[j], tenants[i] })
		wantAsSaid(t, ofTenants(tenants...))
	}
}

// A tenant's bytes are all that count: no two that differ are taken as one, whatever letters they are.
func TestTenantsOfOneByte(t *testing.T) {
	var tenants []string
	for v := range 256 {
		tenants = append(tenants, string([]byte{byte(255 - v)}))
	}
	want := []byte{128, 2}
	for v := range 256 {
		want = append(want, 1, byte(v))
	}
	want = append(want, 128, 2)
	for v := range 256 {
		want = append(want, varintAsSaid(uint64(255-v))...)
		want = append(want, byte(v%9))
	}
	wantPair(t, ofTenants(tenants...), tail(want...))
}

func TestTenantsOfEveryLength(t *testing.T) {
	for n := range 65 {
		tenant := strings.Repeat("\xe9", n)
		wantPair(t, of(api.Entry{Tenant: tenant, Bucket: 4}), tail(slices.Concat([]byte{1, byte(n)}, []byte(tenant), []byte{1, 0, 4})...))
	}
	var tenants []string
	for n := range 65 { // the longest first, so that all are turned round
		tenants = append(tenants, strings.Repeat("x", 64-n))
	}
	wantAsSaid(t, ofTenants(tenants...))
}

func TestOneTenantWithManyEntries(t *testing.T) {
	for _, x := range []struct {
		n     int
		count []byte
	}{
		{1, []byte{1}}, {127, []byte{127}}, {128, []byte{128, 1}}, {129, []byte{129, 1}}, {16383, []byte{255, 127}}, {16384, []byte{128, 128, 1}},
	} {
		m := of(slices.Repeat([]api.Entry{{Tenant: "a", Bucket: 3}}, x.n)...)
		wantPair(t, m, tail(slices.Concat([]byte{1, 1, 97}, x.count, bytes.Repeat([]byte{0, 3}, x.n))...))
	}
}

// As many tenants as entries: their number, and from the 129th one on their place, takes two bytes.
func TestManyTenants(t *testing.T) {
	for _, n := range []int{126, 127, 128, 129, 130, 16383, 16384, 16385} {
		tenants := numbered(n)
		want := varintAsSaid(uint64(n))
		for _, tenant := range tenants {
			want = append(append(want, 3), tenant...)
		}
		want = append(want, varintAsSaid(uint64(n))...)
		for i := range n { // turned round
			want = append(want, varintAsSaid(uint64(n-1-i))...)
			want = append(want, byte(i%9))
		}
		wantPair(t, ofTenants(backwards(tenants)...), tail(want...))
	}
}

func TestVersions(t *testing.T) {
	for _, version := range versions() {
		for _, m := range []api.Manifest{of(), ofTenants("b", "a")} {
			m.Version = version
			wantAsSaid(t, m)
		}
	}
	m := of()
	for i, version := range []uint64{0, 1, 256, 0x0102030405060708, math.MaxUint64 - 1} {
		m.Version = version
		b, _ := Encode(m)
		wantBytes(t, "the version", b[4:12], [][]byte{repeated(0, 8), {0, 0, 0, 0, 0, 0, 0, 1}, {0, 0, 0, 0, 0, 0, 1, 0}, {1, 2, 3, 4, 5, 6, 7, 8}, {255, 255, 255, 255, 255, 255, 255, 254}}[i])
	}
}

func TestPrevAndRootOfAnyBytes(t *testing.T) {
	for _, prev := range [][]byte{repeated(0, 32), repeated(255, 32), mixed(32, 9), repeated(67, 32)} {
		for _, root := range [][]byte{repeated(0, 32), repeated(255, 32), mixed(32, 200), prev} {
			for _, m := range []api.Manifest{of(), ofTenants("b", "a", "b")} {
				m.Prev, m.Root = prev, root
				wantAsSaid(t, m)
			}
		}
	}
}

func TestEachBucket(t *testing.T) {
	for k := range 9 {
		wantPair(t, of(api.Entry{Tenant: "a", Bucket: k}), tail(1, 1, 97, 1, 0, byte(k)))
		if pad.Size(k) == 0 {
			t.Errorf("%d is no bucket", k)
		}
	}
	wantAsSaid(t, ofTenants("a", "a", "b", "a", "c", "a", "b", "a", "a"))
}

// asManyAsMayBe are MaxChunks entries with as many tenants, or one, and the bytes behind the beginning.
func asManyAsMayBe(all bool) (api.Manifest, []byte) {
	m := of(make([]api.Entry, api.MaxChunks)...)
	most := []byte{128, 128, 64} // 2^20
	if !all {
		return m, slices.Concat([]byte{1, 0}, most, make([]byte, 2*api.MaxChunks))
	}
	tenants := numbered(api.MaxChunks)
	want := slices.Clone(most)
	for _, tenant := range tenants {
		want = append(append(want, 3), tenant...)
	}
	want = append(want, most...)
	for i := range m.Entries {
		place := i ^ 0xaaaaa
		m.Entries[i] = api.Entry{Tenant: tenants[place], Bucket: i % 9}
		want = append(want, varintAsSaid(uint64(place))...)
		want = append(want, byte(i%9))
	}
	return m, want
}

func TestMaxChunksEntries(t *testing.T) {
	for _, all := range []bool{false, true} {
		m, want := asManyAsMayBe(all)
		wantPair(t, m, tail(want...))
		m.Entries = append(m.Entries, m.Entries[0])
		wantNoBytes(t, m, api.ErrLong)
	}
}

func TestTooManyEntries(t *testing.T) {
	for _, n := range []int{api.MaxChunks + 1, api.MaxChunks + 2, 2 * api.MaxChunks} {
		wantNoBytes(t, of(make([]api.Entry, n)...), api.ErrLong)
	}
}

func TestNoSuchVersion(t *testing.T) {
	for _, m := range []api.Manifest{of(), ofTenants("b", "a")} {
		m.Version = math.MaxUint64
		wantNoBytes(t, m, api.ErrArg)
	}
}

func TestWrongPrevAndRoot(t *testing.T) {
	for _, wrong := range wrongSums() {
		for _, m := range []api.Manifest{of(), ofTenants("b", "a")} {
			prev, root, both := m, m, m
			prev.Prev, root.Root, both.Prev, both.Root = wrong, wrong, wrong, wrong
			for _, each := range []api.Manifest{prev, root, both} {
				wantNoBytes(t, each, api.ErrArg)
			}
		}
	}
	m := of() // as long together as two right ones are
	m.Prev, m.Root = mixed(31, 1), mixed(33, 1)
	wantNoBytes(t, m, api.ErrArg)
	m.Prev, m.Root = mixed(64, 1), nil
	wantNoBytes(t, m, api.ErrArg)
	wantNoBytes(t, api.Manifest{}, api.ErrArg)
}

func TestWrongBuckets(t *testing.T) {
	for _, wrong := range wrongBuckets() {
		wantNoBytes(t, of(api.Entry{Tenant: "a", Bucket: wrong}), api.ErrArg)
		for at := range 4 { // wherever it stands
			m := ofTenants("b", "a", "b", "c")
			m.Entries[at].Bucket = wrong
			wantNoBytes(t, m, api.ErrArg)
		}
	}
}

func TestLongTenantsAreNotEncoded(t *testing.T) {
	for _, long := range longTenants() {
		wantNoBytes(t, of(api.Entry{Tenant: long, Bucket: 1}), api.ErrLong)
		for at := range 4 {
			m := ofTenants("b", "a", "b", "c")
			m.Entries[at].Tenant = long
			wantNoBytes(t, m, api.ErrLong)
		}
	}
}

// wrongs turn a manifest into one that may not be, or one that passes a limit.
func wrongs() (args, longs []func(*api.Manifest)) {
	args = []func(*api.Manifest){
		func(m *api.Manifest) { m.Version = math.MaxUint64 },
		func(m *api.Manifest) { m.Prev = nil },
		func(m *api.Manifest) { m.Root = mixed(33, 1) },
		func(m *api.Manifest) { m.Entries = append(m.Entries, api.Entry{Tenant: "a", Bucket: 9}) },
		func(m *api.Manifest) { m.Entries = append(m.Entries, api.Entry{Bucket: math.MinInt}) },
	}
	longs = []func(*api.Manifest){
		func(m *api.Manifest) {
			m.Entries = append(m.Entries, api.Entry{Tenant: strings.Repeat("x", 65)})
		},
		func(m *api.Manifest) { m.Entries = append(m.Entries, make([]api.Entry, api.MaxChunks)...) },
	}
	return args, longs
}

// A wrong Bucket is ErrArg also where it stands behind a long tenant, or behind as many entries as may be.
func TestSeveralFaultsOfAManifest(t *testing.T) {
	args, longs := wrongs()
	for _, arg := range args {
		for _, other := range args {
			m := ofTenants("b", "a")
			arg(&m)
			other(&m)
			wantNoBytes(t, m, api.ErrArg)
		}
		for _, long := range longs {
			first, behind := ofTenants("b", "a"), ofTenants("b", "a")
			arg(&first)
			long(&first)
			wantNoBytes(t, first, api.ErrArg)
			long(&behind)
			arg(&behind)
			wantNoBytes(t, behind, api.ErrArg)
		}
	}
	m := ofTenants("b", "a")
	for _, long := range longs {
		long(&m)
	}
	wantNoBytes(t, m, api.ErrLong)
	wantNoBytes(t, of(api.Entry{Tenant: strings.Repeat("x", 65), Bucket: 9}), api.ErrArg)
}

// P21.2

func TestNoBytes(t *testing.T) {
	wantNone(t, nil, api.ErrShort)
	wantNone(t, []byte{}, api.ErrShort)
	wantNone(t, tail()[:0], api.ErrShort)
}

// somePairs are manifests of many kinds.
func somePairs() []api.Manifest {
	many := ofTenants(numbered(140)...)
	many.Entries = append(many.Entries, many.Entries...)
	return []api.Manifest{
		of(), ofTenants(""), ofTenants("a"), ofTenants("b", "a", "b"), ofTenants("", "\x00", strings.Repeat("x", 64), "a", "\xff\xfe"), ofTenants(edgeTenants()...), many,
	}
}

func TestAnyBeginning(t *testing.T) {
	for _, m := range somePairs() {
		b, _ := encodeAsSaid(m)
		for n := range b {
			wantNone(t, b[:n], api.ErrShort)
		}
		wantPair(t, m, b)
	}
}

func TestBytesThatAreLeft(t *testing.T) {
	for _, m := range somePairs() {
		b, _ := encodeAsSaid(m)
		for v := range 256 {
			wantNone(t, append(slices.Clone(b), byte(v)), api.ErrForm)
		}
		wantNone(t, slices.Concat(b, someRoot()), api.ErrForm)
		wantNone(t, slices.Concat(b, b), api.ErrForm)
		wantNone(t, slices.Concat(b, make([]byte, 1000)), api.ErrForm)
	}
}

func TestOtherFirstBytes(t *testing.T) {
	for _, m := range []api.Manifest{of(), ofTenants("b", "a")} {
		b, _ := encodeAsSaid(m)
		for at := range 4 {
			for v := range 256 {
				turned := slices.Clone(b)
				turned[at] = byte(v)
				if turned[at] == b[at] {
					continue
				}
				wantNone(t, turned, api.ErrForm)
				wantNone(t, turned[:4], api.ErrForm) // they are there, and what is behind is not asked
				wantNone(t, turned[:11], api.ErrForm)
				wantNone(t, turned[:3], api.ErrShort) // the four are read at once
			}
		}
	}
	for _, wrong := range []string{"CSK0", "CSK2", "csk1", "1KSC", "CSK\x01", "\x00\x00\x00\x00", "\xff\xff\xff\xff", "CKS1"} {
		wantNone(t, slices.Concat([]byte(wrong), tail(0, 0)[4:]), api.ErrForm)
	}
	wantNone(t, tail(0, 0)[1:], api.ErrForm)
	wantNone(t, slices.Concat([]byte{0}, tail(0, 0)), api.ErrForm)
}

func TestTheVersionThatIsNone(t *testing.T) {
	none := slices.Concat([]byte("CSK1"), repeated(255, 8))
	for _, behind := range [][]byte{nil, {1}, somePrev(), slices.Concat(somePrev(), []byte{0, 0}), slices.Concat(somePrev(), []byte{0, 0}, someRoot())} {
		wantNone(t, slices.Concat(none, behind), api.ErrForm)
	}
	wantNone(t, none[:11], api.ErrShort)
	for at := range 8 { // with any bit turned it is one
		for bit := range 8 {
			b := slices.Concat(none, somePrev(), []byte{0, 0}, someRoot())
			b[4+at] ^= 1 << bit
			if wantReadAsSaid(t, b) != api.OK {
				t.Errorf("no version: %v", b[4:12])
			}
		}
	}
}

// wrongVarints are none, or numbers above MaxChunks, each with its error where nothing or something stands behind.
func wrongVarints() []struct {
	b []byte
	e api.Errno
} {
	return []struct {
		b []byte
		e api.Errno
	}{
		{[]byte{128, 0}, api.ErrForm},
		{[]byte{129, 0}, api.ErrForm},
		{[]byte{255, 0}, api.ErrForm},
		{[]byte{129, 128, 0}, api.ErrForm},
		{[]byte{129, 128, 192, 0}, api.ErrForm}, // 2^20 + 1, and it could be shorter: the varint's error first
		{slices.Concat(repeated(128, 9), []byte{0}), api.ErrForm},
		{slices.Concat(repeated(128, 9), []byte{2}), api.ErrForm},
		{repeated(255, 10), api.ErrForm},
		{slices.Concat(repeated(255, 9), []byte{128}), api.ErrForm},
		{slices.Concat(repeated(255, 9), []byte{127}), api.ErrForm},
		{slices.Concat(repeated(128, 10), []byte{1}), api.ErrForm},
		{repeated(128, 20), api.ErrForm},
		{[]byte{129, 128, 64}, api.ErrLong}, // 2^20 + 1
		{[]byte{128, 128, 65}, api.ErrLong},
		{[]byte{128, 128, 128, 1}, api.ErrLong},
		{[]byte{128, 128, 128, 128, 16}, api.ErrLong},       // 2^32
		{[]byte{129, 128, 128, 128, 16}, api.ErrLong},       // and one more
		{varintAsSaid(1<<63 - 1), api.ErrLong},              // the greatest int
		{varintAsSaid(1 << 63), api.ErrLong},                // which no int is
		{varintAsSaid(math.MaxUint64), api.ErrLong},         // nor this
		{varintAsSaid(math.MaxUint64 - 1<<20), api.ErrLong}, // nor this
	}
}

func TestTheNumberOfTenants(t *testing.T) {
	for _, x := range wrongVarints() {
		wantNone(t, cut(x.b...), x.e)
		wantNone(t, tail(append(slices.Clone(x.b), 0)...), x.e)
		wantNone(t, tail(append(slices.Clone(x.b), 1, 97, 1, 0, 0)...), x.e)
	}
	for _, short := range [][]byte{{}, {128}, {255, 255}, repeated(128, 9), {128, 128, 192}} {
		wantNone(t, cut(short...), api.ErrShort)
	}
	wantNone(t, cut(128, 128, 64), api.ErrShort) // as many as may be, and none is there
	wantNone(t, cut(255, 255, 63), api.ErrShort)
	wantNone(t, cut(128, 128, 64, 0, 1, 97), api.ErrShort)
}

func TestTheNumberOfEntries(t *testing.T) {
	for _, x := range wrongVarints() {
		for _, tenants := range [][]byte{{0}, {1, 0}, {2, 1, 97, 1, 98}} {
			wantNone(t, cut(slices.Concat(tenants, x.b)...), x.e)
			wantNone(t, tail(slices.Concat(tenants, x.b, []byte{0, 0})...), x.e)
		}
	}
	for _, short := range [][]byte{{}, {128}, {255, 255}, repeated(128, 9), {128, 128, 192}} {
		wantNone(t, cut(slices.Concat([]byte{1, 0}, short)...), api.ErrShort)
	}
	wantNone(t, cut(1, 0, 128, 128, 64), api.ErrShort)
	wantNone(t, cut(1, 0, 128, 128, 64, 0, 0), api.ErrShort)
	wantNone(t, cut(0, 128, 128, 64), api.ErrShort) // no tenant, and many entries that are not there
	wantNone(t, cut(0, 128, 128, 64, 0), api.ErrForm)
}

func TestTheTenantsBlocks(t *testing.T) {
	for _, n := range []int{65, 66, 127, 128, 300} {
		length := varintAsSaid(uint64(n))
		wantNone(t, cut(append([]byte{1}, length...)...), api.ErrLong) // too long, whatever is left
		wantNone(t, tail(slices.Concat([]byte{1}, length, mixed(n, 1), []byte{1, 0, 0})...), api.ErrLong)
		wantNone(t, tail(slices.Concat([]byte{2, 0}, length, mixed(n, 1), []byte{2, 0, 0, 1, 0})...), api.ErrLong)
	}
	for _, x := range wrongVarints() {
		wantNone(t, cut(append([]byte{1}, x.b...)...), x.e)
		wantNone(t, tail(slices.Concat([]byte{1}, x.b, []byte{97, 1, 0, 0})...), x.e)
		wantNone(t, tail(slices.Concat([]byte{2, 0}, x.b, []byte{97, 1, 0, 0})...), x.e)
	}
	for _, short := range [][]byte{{1}, {1, 128}, {1, 1}, {1, 2, 97}, {1, 64}, append([]byte{1, 64}, mixed(63, 1)...), {2, 0}, {2, 1, 97}, {2, 1, 97, 1}, {2, 1, 97, 1, 98}} {
		wantNone(t, cut(short...), api.ErrShort)
	}
	wantNone(t, tail(1, 64), api.ErrShort) // the root's 32 bytes are fewer
	wantNone(t, tail(1, 33), api.ErrShort)
	longest := strings.Repeat("x", 64)
	wantDecoded(t, tail(slices.Concat([]byte{1, 64}, []byte(longest), []byte{1, 0, 5})...), of(api.Entry{Tenant: longest, Bucket: 5}))
}

// pairOfTenants are bytes with these two, rising or not, and an entry for each.
func pairOfTenants(one, other string) []byte {
	return tail(slices.Concat([]byte{2}, blockAsSaid(one), blockAsSaid(other), []byte{2, 0, 1, 1, 2})...)
}

func TestTenantsThatDoNotRise(t *testing.T) {
	rising := 0
	for _, one := range edgeTenants() {
		for _, other := range edgeTenants() {
			b := pairOfTenants(one, other)
			if ahead(one, other) {
				rising++
				wantDecoded(t, b, of(api.Entry{Tenant: one, Bucket: 1}, api.Entry{Tenant: other, Bucket: 2}))
				continue
			}
			wantNone(t, b, api.ErrForm)
		}
	}
	if n := len(edgeTenants()); rising != n*(n-1)/2-1 { // one of them is there in two spellings
		t.Errorf("%d of %d pairs rise", rising, n*n)
	}
	for _, x := range [][]byte{
		{2, 0, 0, 2, 0, 1, 1, 2},                          // the same, of no bytes
		{2, 1, 97, 1, 97, 2, 0, 1, 1, 2},                  // of one
		{2, 1, 98, 1, 97, 2, 0, 1, 1, 2},                  // turned round
		{2, 1, 97, 0, 2, 0, 1, 1, 2},                      // one that the other begins with behind it
		{2, 2, 97, 98, 1, 97, 2, 0, 1, 1, 2},              // likewise
		{2, 1, 98, 2, 97, 98, 2, 0, 1, 1, 2},              // the longer one is the lesser
		{2, 1, 128, 1, 127, 2, 0, 1, 1, 2},                // above 127 is behind
		{3, 1, 97, 1, 99, 1, 98, 3, 0, 0, 1, 0, 2, 0},     // the last one
		{3, 1, 97, 1, 98, 1, 97, 3, 0, 0, 1, 0, 2, 0},     // the first one once more, apart
		{3, 1, 97, 1, 98, 1, 98, 3, 0, 0, 1, 0, 2, 0},     // the one ahead once more
		{3, 1, 98, 1, 97, 1, 99, 3, 0, 0, 1, 0, 2, 0},     // the second one
		{3, 0, 1, 0, 0, 3, 0, 0, 1, 0, 2, 0},              // nothing behind something
		{2, 3, 97, 98, 99, 3, 97, 98, 99, 2, 0, 1, 1, 2},  // the same, longer
		{2, 3, 97, 98, 100, 3, 97, 98, 99, 2, 0, 1, 1, 2}, // in the last byte alone
	} {
		wantNone(t, tail(x...), api.ErrForm)
	}
}

func TestPlacesThatAreNone(t *testing.T) {
	for n := range 4 {
		var tenants []byte
		for v := range n {
			tenants = append(tenants, 1, byte(97+v))
		}
		tenants = append([]byte{byte(n)}, tenants...)
		for _, place := range []uint64{uint64(n), uint64(n) + 1, 127, 128, 255, 256, 1<<20 - 1, 1 << 20, 1<<20 + 1, 1 << 32, 1<<32 + 1, 1<<63 - 1, 1 << 63, 1<<63 + 1, math.MaxUint64} {
			all := []byte{byte(n + 1)}
			for v := range n {
				all = append(all, byte(v), 0)
			}
			all = append(all, varintAsSaid(place)...)
			wantNone(t, tail(slices.Concat(tenants, all, []byte{0})...), api.ErrForm)
			wantNone(t, cut(slices.Concat(tenants, all)...), api.ErrForm) // its Bucket is not asked
		}
	}
	for _, wrong := range wrongVarints() { // all are ErrForm here, being no varints or no places
		wantNone(t, tail(slices.Concat([]byte{1, 0, 1}, wrong.b, []byte{0})...), api.ErrForm)
		wantNone(t, cut(slices.Concat([]byte{1, 0, 1}, wrong.b)...), api.ErrForm)
	}
	for _, short := range [][]byte{{}, {128}, {255, 255}, repeated(128, 9)} {
		wantNone(t, cut(slices.Concat([]byte{1, 0, 1}, short)...), api.ErrShort)
	}
}

func TestBucketsThatAreNone(t *testing.T) {
	for k := 9; k < 256; k++ {
		wantNone(t, tail(1, 1, 97, 1, 0, byte(k)), api.ErrForm)
		wantNone(t, cut(1, 1, 97, 1, 0, byte(k)), api.ErrForm) // ahead of a root that is not there
		wantNone(t, tail(1, 1, 97, 2, 0, byte(k), 0, 0), api.ErrForm)
		wantNone(t, tail(1, 1, 97, 2, 0, 0, 0, byte(k)), api.ErrForm)
	}
	wantNone(t, cut(1, 1, 97, 1, 0), api.ErrShort)
	wantNone(t, cut(1, 1, 97, 2, 0, 0, 0), api.ErrShort)
}

func TestTenantsWithoutAnEntry(t *testing.T) {
	for _, x := range [][]byte{
		{1, 0, 0},                              // none has one
		{1, 1, 97, 0},                          // likewise
		{2, 1, 97, 1, 98, 0},                   // likewise
		{2, 1, 97, 1, 98, 1, 0, 0},             // the last one has none
		{2, 1, 97, 1, 98, 1, 1, 0},             // the first one
		{2, 1, 97, 1, 98, 2, 1, 0, 1, 0},       // there are as many entries as tenants
		{2, 1, 97, 1, 98, 3, 0, 0, 0, 1, 0, 2}, // or more
		{3, 0, 1, 97, 1, 98, 2, 0, 0, 2, 0},    // the one between
		{3, 0, 1, 97, 1, 98, 3, 1, 0, 2, 0, 1, 1},
	} {
		wantNone(t, tail(x...), api.ErrForm)
		wantNone(t, slices.Concat(tail(x...), []byte{0}), api.ErrForm)
		for n := range 32 { // that is asked in the end, behind the root
			b := tail(x...)
			wantNone(t, b[:len(b)-32+n], api.ErrShort)
		}
	}
}

func TestSeveralFaultsOfBytes(t *testing.T) {
	wrongMark := func(b []byte) []byte { return slices.Concat([]byte("CSK2"), b[4:]) }
	noVersion := func(b []byte) []byte { return slices.Concat(b[:4], repeated(255, 8), b[12:]) }
	long := append([]byte{65}, mixed(65, 1)...)
	for _, x := range []struct {
		what string
		b    []byte
		e    api.Errno
	}{
		{"other first bytes, and no version behind them", []byte("CSK2"), api.ErrForm},
		{"other first bytes, and a number that is too great", wrongMark(tail(129, 128, 64)), api.ErrForm},
		{"other first bytes that are too few", []byte("XYZ"), api.ErrShort},
		{"a version that is none, and no prev", noVersion(tail(0, 0))[:12], api.ErrForm},
		{"a version that is none, and a number that is too great", noVersion(tail(129, 128, 64)), api.ErrForm},
		{"a prev that is cut off, of whatever bytes", tail(129, 128, 64)[:43], api.ErrShort},
		{"too many tenants, and a long one", tail(slices.Concat([]byte{129, 128, 64}, long)...), api.ErrLong},
		{"too many tenants, and the same twice", tail(129, 128, 64, 0, 0), api.ErrLong},
		{"a number that could be shorter, and a long tenant", tail(slices.Concat([]byte{129, 0}, long)...), api.ErrForm},
		{"the same twice, ahead of a long tenant", tail(slices.Concat([]byte{3, 0, 0}, long, []byte{0})...), api.ErrForm},
		{"a long tenant, ahead of the same twice", tail(slices.Concat([]byte{3}, long, []byte{0, 0, 0})...), api.ErrLong},
		{"a long tenant, ahead of what it is behind", tail(slices.Concat([]byte{2, 1, 255}, long, []byte{0})...), api.ErrLong},
		{"the same twice, and nothing behind", cut(3, 0, 0), api.ErrForm},
		{"the same twice, ahead of a length that could be shorter", tail(3, 0, 0, 129, 0, 97, 0), api.ErrForm},
		{"a tenant that is cut off, and would not rise", cut(2, 1, 98, 2, 97), api.ErrShort},
		{"a long tenant that is cut off", cut(1, 65, 97), api.ErrLong},
		{"the same twice, ahead of too many entries", tail(2, 0, 0, 129, 128, 64), api.ErrForm},
		{"a long tenant, ahead of a number that could be shorter", tail(slices.Concat([]byte{1}, long, []byte{128, 0})...), api.ErrLong},
		{"too many entries, ahead of a place that is none", tail(1, 0, 129, 128, 64, 5, 0), api.ErrLong},
		{"too many entries, and no root", cut(1, 0, 129, 128, 64), api.ErrLong},
		{"a place that is none, and no Bucket", cut(1, 0, 1, 1), api.ErrForm},
		{"a place that is none, and a Bucket that is none", tail(1, 0, 1, 1, 9), api.ErrForm},
		{"a place that is cut off", cut(1, 0, 2, 0, 0, 129), api.ErrShort},
		{"a Bucket that is none, ahead of a place that is cut off", cut(1, 0, 2, 0, 9, 129), api.ErrForm},
		{"a Bucket that is none, ahead of entries that are not there", cut(1, 0, 3, 0, 9), api.ErrForm},
		{"a Bucket that is none, ahead of a root that is cut off", tail(1, 0, 1, 0, 9)[:60], api.ErrForm},
		{"entries that are not there, and a tenant without one", cut(2, 0, 1, 97, 2, 0, 0), api.ErrShort},
		{"a root that is cut off, and a tenant without an entry", tail(1, 0, 0)[:78], api.ErrShort},
		{"a root that is not there, and a tenant without an entry", cut(1, 0, 0), api.ErrShort},
		{"a byte that is left, and a tenant without an entry", append(tail(1, 0, 0), 1), api.ErrForm},
		{"no tenant, and an entry", tail(0, 1, 0, 0), api.ErrForm},
		{"no tenant, and an entry that is cut off", cut(0, 1), api.ErrShort},
	} {
		t.Run(x.what, func(t *testing.T) {
			wantNone(t, x.b, x.e)
			if e := wantReadAsSaid(t, x.b); e != x.e { // the words' plain way is held against these, too
				t.Errorf("by the chapter's words error %d; want %d", int(e), int(x.e))
			}
		})
	}
}

func TestPartsThatAreRightAndWrong(t *testing.T) {
	long := append([]byte{65}, mixed(65, 1)...)
	parts := [][][]byte{
		{[]byte("CSK1"), []byte("CSK2"), []byte("CSK")},
		{eight(0), eight(math.MaxUint64), eight(math.MaxUint64 - 1)},
		{somePrev(), somePrev()[:31]},
		{{0}, {1, 0}, {1, 1, 97}, {2, 1, 97, 1, 98}, {2, 1, 98, 1, 97}, {2, 0, 0}, append([]byte{1}, long...), {1, 129, 0, 97}, {128, 0}, {129, 128, 64}, {2, 1, 97}},
		{{0}, {1}, {2}, {128, 0}, {129, 128, 64}, slices.Concat(repeated(255, 9), []byte{1})},
		{{}, {0, 0}, {0, 8, 1, 0}, {0, 0, 0, 0}, {1, 0}, {0, 9}, {2, 0}, {128, 0, 0}, {0}},
		{someRoot(), someRoot()[:31], {}},
		{{}, {0}},
	}
	var seen [9]int
	var try func(int, []byte)
	try = func(i int, before []byte) {
		if i == len(parts) {
			seen[wantReadAsSaid(t, before)]++
			return
		}
		for _, part := range parts[i] {
			try(i+1, slices.Concat(before, part))
		}
	}
	try(0, nil)
	for _, e := range []api.Errno{api.OK, api.ErrShort, api.ErrForm, api.ErrLong} {
		if seen[e] == 0 {
			t.Errorf("nothing that was tried is answered by %d", int(e))
		}
	}
	if seen[api.ErrArg] > 0 || seen[api.ErrAuth] > 0 {
		t.Error("Decode has no other errors")
	}
}

func TestEveryByteOfEveryKind(t *testing.T) {
	var seen [9]int
	for _, m := range []api.Manifest{of(), ofTenants("b", "a", "b"), ofTenants("", "\x00", "ab", "a")} {
		b, _ := encodeAsSaid(m)
		for at := range b {
			for v := range 256 {
				turned := slices.Clone(b)
				turned[at] = byte(v)
				seen[wantReadAsSaid(t, turned)]++
			}
		}
	}
	b, _ := encodeAsSaid(ofTenants(numbered(130)...)) // longer, and so not of every kind
	for at := range b {
		for _, v := range []byte{0, 1, 2, 3, 8, 9, 64, 65, 127, 128, 129, 255, b[at] ^ 1, b[at] ^ 128} {
			turned := slices.Clone(b)
			turned[at] = v
			seen[wantReadAsSaid(t, turned)]++
		}
	}
	if seen[api.OK] == 0 || seen[api.ErrShort] == 0 || seen[api.ErrForm] == 0 || seen[api.ErrLong] == 0 {
		t.Errorf("not every answer was tried: %v", seen)
	}
}

func TestAllFewBytes(t *testing.T) {
	for _, before := range [][]byte{{}, {0}, {1, 0}, {1, 0, 1}, {2, 1, 97}, {2, 1, 97, 1}, {2, 0, 1, 0, 2, 0, 0}} {
		for first := range 256 {
			wantReadAsSaid(t, cut(append(slices.Clone(before), byte(first))...))
			for second := range 256 {
				wantReadAsSaid(t, tail(append(slices.Clone(before), byte(first), byte(second))...))
			}
		}
	}
}

// P21.3

func TestSignAndCheckByAnyMaster(t *testing.T) {
	for _, master := range masters() {
		for _, m := range somePairs() {
			b, _ := encodeAsSaid(m)
			wantSigned(t, master, m, b)
		}
	}
}

// The tags that another program wrote, of the same bytes.
func TestWrittenOutTags(t *testing.T) {
	for _, x := range []struct {
		master []byte
		m      api.Manifest
		length int
		tag    string
	}{
		{someMaster(), versioned(1, of()), 78, "71ab13f84b65bb65afcfa951cce774063c67f4994288286d613a6e3571b17d4c"},
		{someMaster(), ofTenants("b", "a", "b"), 88, "1e8270a341c97100b277fc05fb579d608505d2ae7594534cb5105cbaa2b4d09d"},
		{repeated(0, 32), versioned(math.MaxUint64-1, ofTenants("\xff", "", "\x00", "a\x00", "a")), 98, "0af8a582749ecb08e61fc56d80e9c9a55d4ccdef2d6cab0fbb7c6671c09118ab"},
		{repeated(255, 32), versioned(0, ofTenants(backwards(numbered(300))...)), 2052, "8e2920102f1bcd1d0fcea425ed658b12fc61321d6ff0f8b43974a5816baffb52"},
	} {
		signed, e := Sign(x.master, x.m)
		if e != api.OK || len(signed) != x.length+32 {
			t.Fatalf("Sign: %d bytes, error %d", len(signed), int(e))
		}
		if got := hex.EncodeToString(signed[x.length:]); got != x.tag {
			t.Errorf("Sign(%x, %s): tag %s; want %s", x.master, briefly(x.m), got, x.tag)
		}
		wantChecked(t, x.master, signed, x.m)
	}
}

func TestWrongMasters(t *testing.T) {
	right := signedAs(t, someMaster(), tail(0, 0))
	args, longs := wrongs()
	for _, master := range wrongMasters() {
		wrong := []api.Manifest{of(), ofTenants("b", "a")}
		for _, fault := range append(args, longs...) {
			m := of()
			fault(&m)
			wrong = append(wrong, m)
		}
		for _, m := range wrong {
			if b, e := Sign(master, m); b != nil || e != api.ErrArg {
				t.Errorf("Sign by a master of %d bytes: %d bytes, error %d", len(master), len(b), int(e))
			}
		}
		for _, b := range [][]byte{right, nil, {}, right[:31], right[:32], right[1:], tail(0, 0), reference(master), slices.Concat(tail(0, 0), tagByLibrary(master, tail(0, 0)))} {
			wantUnchecked(t, "a wrong master", master, b, api.ErrArg)
		}
	}
}

// Encode's error comes behind the master's, and is all that Sign answers; wantNoBytes asks it of every other wrong manifest.
func TestSignTellsEncodesError(t *testing.T) {
	args, longs := wrongs()
	for _, master := range masters() {
		for _, fault := range args {
			m := ofTenants("a")
			fault(&m)
			if b, e := Sign(master, m); b != nil || e != api.ErrArg {
				t.Errorf("Sign(%s): %s, error %d", briefly(m), brief(b), int(e))
			}
		}
		for _, fault := range longs {
			m := ofTenants("a")
			fault(&m)
			if b, e := Sign(master, m); b != nil || e != api.ErrLong {
				t.Errorf("Sign(%s): %s, error %d", briefly(m), brief(b), int(e))
			}
		}
	}
}

func TestCheckOfFewBytes(t *testing.T) {
	for _, master := range masters() {
		wantUnchecked(t, "nil", master, nil, api.ErrShort)
		for n := range 32 {
			wantUnchecked(t, "few bytes", master, make([]byte, n), api.ErrShort)
			wantUnchecked(t, "a beginning of a tag", master, tagAsSaid(t, master, nil)[:n], api.ErrShort)
			wantUnchecked(t, "a beginning of what is signed", master, signedAs(t, master, tail(0, 0))[:n], api.ErrShort)
		}
		wantUnchecked(t, "32 bytes", master, mixed(32, 1), api.ErrAuth)
		wantUnchecked(t, "32 bytes 0", master, make([]byte, 32), api.ErrAuth)
		wantUnchecked(t, "33 bytes", master, mixed(33, 1), api.ErrAuth)
		wantUnchecked(t, "the tag of nothing", master, signedAs(t, master, nil), api.ErrShort) // it fits, and Decode of nothing is ErrShort
		wantUnchecked(t, "the tag of a byte", master, signedAs(t, master, []byte{67}), api.ErrShort)
		wantUnchecked(t, "a manifest without a tag", master, tail(0, 0), api.ErrAuth)
	}
}

func TestBytesThatAreSignedButNoManifests(t *testing.T) {
	for _, master := range masters() {
		for _, x := range []struct {
			b []byte
			e api.Errno
		}{
			{tail(0, 0)[:77], api.ErrShort},
			{append(tail(0, 0), 0), api.ErrForm},
			{slices.Concat([]byte("CSK2"), tail(0, 0)[4:]), api.ErrForm},
			{tail(129, 128, 64), api.ErrLong},
			{tail(1, 1, 97, 0), api.ErrForm},
			{[]byte("a text"), api.ErrForm},
			{signedAs(t, master, tail(0, 0)), api.ErrForm}, // signed twice
			{repeated(0, 78), api.ErrForm},
		} {
			wantUnchecked(t, "signed", master, signedAs(t, master, x.b), x.e)
			wantUnchecked(t, "with a tag by another", master, signedAs(t, mixed(32, 77), x.b), api.ErrAuth) // ahead of all that Decode says
		}
	}
}

func TestAnotherMaster(t *testing.T) {
	for i, master := range masters() {
		for j, other := range masters() {
			if i == j {
				continue
			}
			for _, m := range []api.Manifest{of(), ofTenants("b", "a", "b")} {
				signed, _ := Sign(master, m)
				wantUnchecked(t, "another master", other, signed, api.ErrAuth)
			}
		}
	}
	signed, _ := Sign(someMaster(), of())
	for at := range 32 {
		for bit := range 8 {
			turned := someMaster()
			turned[at] ^= 1 << bit
			wantUnchecked(t, "a master with a bit turned", turned, signed, api.ErrAuth)
		}
	}
}

// Tags by keys that stand near the right one are none.
func TestTagsByOtherKeys(t *testing.T) {
	master, b := someMaster(), tail(1, 1, 97, 1, 0, 0)
	others := map[string][]byte{"no key": nil, "the master": master}
	for purpose := range 256 {
		if purpose != 4 {
			others[fmt.Sprint("the purpose ", purpose)], _ = keys.Derive(master, byte(purpose), "")
		}
	}
	others["a name"], _ = keys.Derive(master, 4, "a")
	others["the tenant"], _ = keys.Tenant(master, "a")
	key, _ := keys.Manifest(master)
	others["twice"], _ = keys.Manifest(key)
	for what, key := range others {
		wantUnchecked(t, what, master, slices.Concat(b, hmac.MAC(key, b)), api.ErrAuth)
	}
	sum := sha256.Sum256(b)
	wantUnchecked(t, "a sum", master, slices.Concat(b, sum[:]), api.ErrAuth)
}

func TestTheTagOfOtherBytes(t *testing.T) {
	master := someMaster()
	var all [][]byte
	for _, m := range somePairs() {
		b, _ := encodeAsSaid(m)
		all = append(all, b)
	}
	for i, b := range all {
		for j, other := range all {
			if i != j {
				wantUnchecked(t, "another manifest's tag", master, slices.Concat(b, tagAsSaid(t, master, other)), api.ErrAuth)
			}
		}
		tag := tagAsSaid(t, master, b)
		wantUnchecked(t, "the tag of nothing", master, slices.Concat(b, tagAsSaid(t, master, nil)), api.ErrAuth)
		wantUnchecked(t, "the tag of all but the root", master, slices.Concat(b, tagAsSaid(t, master, b[:len(b)-32])), api.ErrAuth)
		wantUnchecked(t, "the tag ahead", master, slices.Concat(tag, b), api.ErrAuth)
		wantUnchecked(t, "the tag turned round", master, slices.Concat(b, tag[16:], tag[:16]), api.ErrAuth)
		wantUnchecked(t, "half the tag", master, slices.Concat(b, tag[:16]), api.ErrAuth)
		wantUnchecked(t, "the tag twice", master, slices.Concat(b, tag, tag), api.ErrAuth)
		wantUnchecked(t, "a byte behind it", master, slices.Concat(b, tag, []byte{0}), api.ErrAuth)
		wantUnchecked(t, "a byte ahead of it", master, slices.Concat(b, []byte{0}, tag), api.ErrAuth)
		wantUnchecked(t, "bytes 0", master, slices.Concat(b, make([]byte, 32)), api.ErrAuth)
	}
}

// P21.4

func TestAnyBitTurned(t *testing.T) {
	for _, m := range []api.Manifest{of(), ofTenants("b", "a", "b"), ofTenants("", strings.Repeat("x", 64))} {
		for _, master := range masters()[:2] {
			signed, _ := Sign(master, m)
			for at := range signed {
				for bit := range 8 {
					turned := slices.Clone(signed)
					turned[at] ^= 1 << bit
					wantUnchecked(t, "a bit turned", master, turned, api.ErrAuth)
				}
			}
			wantChecked(t, master, signed, m)
		}
	}
}

func TestAnyByteTakenOutOrPutIn(t *testing.T) {
	master := someMaster()
	signed, _ := Sign(master, ofTenants("b", "a", "b"))
	for n := range signed {
		want := api.ErrAuth
		if n < 32 {
			want = api.ErrShort
		}
		wantUnchecked(t, "a beginning", master, signed[:n], want)
		if n > 0 {
			want = api.ErrAuth
			if len(signed)-n < 32 {
				want = api.ErrShort
			}
			wantUnchecked(t, "an end", master, signed[n:], want)
		}
		wantUnchecked(t, "a byte taken out", master, slices.Delete(slices.Clone(signed), n, n+1), api.ErrAuth)
		wantUnchecked(t, "a byte put in", master, slices.Insert(slices.Clone(signed), n, signed[n]^1), api.ErrAuth)
	}
}

// Bytes that are turned are taken again where the tag is theirs, too: then they are what Decode says of them.
func TestTurnedWithATagOfTheirOwn(t *testing.T) {
	b := tail(2, 1, 97, 1, 98, 3, 1, 2, 0, 0, 1, 8)
	taken := 0
	for at := range b {
		for bit := range 8 {
			turned := slices.Clone(b)
			turned[at] ^= 1 << bit
			if wantCheckedAsSaid(t, someMaster(), turned) == api.OK {
				taken++
			}
		}
	}
	if taken < 70*8 {
		t.Errorf("%d were taken: the test asks too little", taken)
	}
}

// someManifest has tenants of few kinds, so that many are the same or begin with each other.
func someManifest(random *rand.Rand) api.Manifest {
	m := api.Manifest{Version: random.Uint64() >> random.Intn(64), Prev: make([]byte, 32), Root: make([]byte, 32)}
	m.Version = min(m.Version, math.MaxUint64-1)
	random.Read(m.Prev)
	random.Read(m.Root)
	few := 1 + random.Intn(40)
	for range random.Intn(1 << random.Intn(9)) {
		tenant := edgeTenants()[random.Intn(few)%len(edgeTenants())]
		if random.Intn(3) == 0 {
			letters := make([]byte, random.Intn(6))
			for i := range letters {
				letters[i] = "\x00a\x7f\x80\xff"[random.Intn(5)]
			}
			tenant = string(letters)
		}
		m.Entries = append(m.Entries, api.Entry{Tenant: tenant, Bucket: random.Intn(9)})
	}
	return m
}

func TestThereAndBack(t *testing.T) {
	random := rand.New(rand.NewSource(22))
	for range 2000 {
		wantAsSaid(t, someManifest(random))
	}
}

func TestManifestsThatDifferHaveOtherBytes(t *testing.T) {
	m := ofTenants("b", "a", "b")
	others := []api.Manifest{of(), ofTenants("b", "a"), ofTenants("a", "b", "b"), ofTenants("b", "b", "a"), ofTenants("c", "a", "c"), ofTenants("ba", "", "b"), ofTenants("b", "a", "b", "b")}
	for _, turn := range []func(*api.Manifest){
		func(m *api.Manifest) { m.Version++ },
		func(m *api.Manifest) { m.Prev = mixed(32, 2) },
		func(m *api.Manifest) { m.Root = mixed(32, 2) },
		func(m *api.Manifest) { m.Prev, m.Root = m.Root, m.Prev },
		func(m *api.Manifest) { m.Entries[1].Bucket = 7 },
	} {
		other := ofTenants("b", "a", "b")
		turn(&other)
		others = append(others, other)
	}
	b, _ := Encode(m)
	for _, other := range others {
		wantAsSaid(t, other)
		if c, _ := Encode(other); bytes.Equal(b, c) {
			t.Errorf("the same bytes: %s, and %s", briefly(m), briefly(other))
		}
	}
}

// turned is b with a byte turned, put in, or taken out.
func turned(random *rand.Rand, b []byte) []byte {
	at := random.Intn(len(b))
	if random.Intn(3) > 0 { // most of them behind the beginning and ahead of the root
		at = 44 + random.Intn(max(len(b)-44-32, 1))
	}
	at = min(at, len(b)-1)
	switch random.Intn(4) {
	case 0:
		return slices.Concat(b[:at], b[at+1:])
	case 1:
		return slices.Concat(b[:at], []byte{byte(random.Intn(256))}, b[at:])
	case 2:
		return slices.Concat(b[:at], []byte{b[at] ^ 1<<random.Intn(8)}, b[at+1:])
	default:
		return slices.Concat(b[:at], []byte{byte(random.Intn(4))}, b[at+1:])
	}
}

func TestOneWayAlone(t *testing.T) {
	random := rand.New(rand.NewSource(23))
	var seen [9]int
	for range 20000 {
		b, _ := encodeAsSaid(someManifest(random))
		for range 1 + random.Intn(2) {
			b = turned(random, b)
		}
		seen[wantReadAsSaid(t, b)]++
	}
	if seen[api.OK] == 0 || seen[api.ErrShort] == 0 || seen[api.ErrForm] == 0 || seen[api.ErrLong] == 0 {
		t.Errorf("not every answer was tried: %v", seen)
	}
}

// An answer hangs on nothing but what is handed in, not on the order in which anything is gone through.
func TestTheSameAlways(t *testing.T) {
	m := ofTenants(slices.Concat(edgeTenants(), numbered(200))...)
	want, _ := encodeAsSaid(m)
	for range 200 {
		wantEncoded(t, m, want)
	}
}

// R3

// withRoom are b's bytes with others behind them in the same memory, which are no call's either.
func withRoom(b []byte) []byte {
	all := slices.Clip(append(slices.Clone(b), repeated(99, 100)...))
	return all[:len(b)]
}

func entriesWithRoom(entries []api.Entry) []api.Entry {
	all := slices.Clip(append(slices.Clone(entries), api.Entry{Tenant: "behind", Bucket: 1}, api.Entry{Tenant: "it", Bucket: 77}))
	return all[:len(entries)]
}

// handed is what the calls are handed.
type handed struct {
	master, b []byte
	m         api.Manifest
}

func (h handed) withRoom() handed {
	m := api.Manifest{Version: h.m.Version, Prev: withRoom(h.m.Prev), Entries: entriesWithRoom(h.m.Entries), Root: withRoom(h.m.Root)}
	return handed{withRoom(h.master), withRoom(h.b), m}
}

// memory is all that is in it, and what stands behind its ends.
type memory struct {
	lists   [][]byte
	entries []api.Entry
}

func (h handed) all() memory {
	var out memory
	for _, list := range [][]byte{h.master, h.b, h.m.Prev, h.m.Root} {
		out.lists = append(out.lists, list[:cap(list)])
	}
	out.entries = h.m.Entries[:cap(h.m.Entries)]
	return out
}

func (m memory) clone() memory {
	var out memory
	for _, list := range m.lists {
		out.lists = append(out.lists, slices.Clone(list))
	}
	out.entries = slices.Clone(m.entries)
	return out
}

func (m memory) overwrite() {
	for _, list := range m.lists {
		for i := range list {
			list[i] ^= 255
		}
	}
	for i := range m.entries {
		m.entries[i] = api.Entry{Tenant: "overwritten", Bucket: 8 - i%9}
	}
}

func wantMemory(t *testing.T, what string, got, want memory) {
	t.Helper()
	if !slices.EqualFunc(got.lists, want.lists, bytes.Equal) || !slices.Equal(got.entries, want.entries) {
		t.Errorf("%s is %v; want %v", what, got, want)
	}
}

// answer is what a call answers: bytes, or a manifest.
type answer struct {
	b []byte
	m api.Manifest
	e api.Errno
}

// held are an answer's lists, as far as whoever holds it sees without asking for more.
func (a answer) held() memory { return memory{[][]byte{a.b, a.m.Prev, a.m.Root}, a.m.Entries} }

// reached is all the memory that whoever holds an answer reaches, behind its ends, too.
func (a answer) reached() memory {
	return memory{[][]byte{a.b[:cap(a.b)], a.m.Prev[:cap(a.m.Prev)], a.m.Root[:cap(a.m.Root)]}, a.m.Entries[:cap(a.m.Entries)]}
}

// call is one of the package's, with what it is handed.
type call struct {
	what string
	h    handed
	ask  func(h handed) answer
}

func encode(h handed) (a answer) { a.b, a.e = Encode(h.m); return a }
func decode(h handed) (a answer) { a.m, a.e = Decode(h.b); return a }
func sign(h handed) (a answer)   { a.b, a.e = Sign(h.master, h.m); return a }
func check(h handed) (a answer)  { a.m, a.e = Check(h.master, h.b); return a }

func calls(t *testing.T) []call {
	var out []call
	for _, m := range []api.Manifest{of(), ofTenants("a"), ofTenants("b", "a", "b"), ofTenants("", "\x00", strings.Repeat("x", 64)), ofTenants(numbered(130)...)} {
		b, _ := encodeAsSaid(m)
		signed := signedAs(t, someMaster(), b)
		name := fmt.Sprint(" of ", len(m.Entries), " entries")
		out = append(out,
			call{"Encode" + name, handed{m: m}, encode},
			call{"Decode" + name, handed{b: b}, decode},
			call{"Sign" + name, handed{master: someMaster(), m: m}, sign},
			call{"Check" + name, handed{master: someMaster(), b: signed}, check},
			call{"Decode of a beginning" + name, handed{b: b[:len(b)-1]}, decode},
			call{"Check of a beginning" + name, handed{master: someMaster(), b: signed[:len(signed)-1]}, check},
			call{"Check by no key" + name, handed{master: someMaster()[:31], b: signed}, check},
			call{"Sign by no key" + name, handed{master: someMaster()[:31], m: m}, sign},
		)
		m.Prev = m.Prev[:31]
		out = append(out, call{"Encode without a prev" + name, handed{m: m}, encode}, call{"Sign without a prev" + name, handed{master: someMaster(), m: m}, sign})
	}
	return out
}

func TestWhatIsHandedInIsNotChanged(t *testing.T) {
	for _, x := range calls(t) {
		h := x.h.withRoom()
		before := h.all().clone()
		x.ask(h)
		wantMemory(t, x.what+": what was handed in", h.all(), before)
	}
}

func TestWhatIsHandedInIsNotKept(t *testing.T) {
	for _, x := range calls(t) {
		want := x.ask(x.h).held().clone()
		h := x.h.withRoom()
		got := x.ask(h)
		wantMemory(t, x.what, got.held(), want)
		h.all().overwrite()
		wantMemory(t, x.what+", of what is changed behind the call", got.held(), want)
		wantMemory(t, x.what+", asked once more", x.ask(x.h).held(), want)
	}
}

func TestAnAnswerIsItsHoldersOwn(t *testing.T) {
	for _, x := range calls(t) {
		h := x.h.withRoom()
		before := h.all().clone()
		want := x.ask(h).held().clone()
		held, another := x.ask(h), x.ask(h)
		held.reached().overwrite()
		wantMemory(t, x.what+": another answer", another.held(), want)
		wantMemory(t, x.what+": what was handed in", h.all(), before)
		wantMemory(t, x.what+": one that is asked later", x.ask(h).held(), want)
	}
}

func TestNoTwoListsOfAnAnswerShareMemory(t *testing.T) {
	for _, x := range calls(t) {
		want := x.ask(x.h).held().clone()
		for k := range 3 {
			got := x.ask(x.h)
			memory{lists: got.reached().lists[k : k+1]}.overwrite()
			for other := range 3 {
				if other != k {
					wantBytes(t, x.what+": a list beside one that is changed", got.held().lists[other], want.lists[other])
				}
			}
		}
	}
}

// Whoever changes what was handed in, or an answer, and asks again, is answered by what is there now.
func TestManifestsAsTheyAreNow(t *testing.T) {
	m := ofTenants("b", "a", "b")
	wantAsSaid(t, m)
	m.Entries[0], m.Entries[1] = m.Entries[1], m.Entries[0]
	m.Entries[2].Tenant = "c"
	m.Prev[0] ^= 1
	m.Root[31] ^= 1
	wantAsSaid(t, m)
	b, _ := Encode(m)
	b[12] ^= 1
	wantReadAsSaid(t, b)
	got, _ := Decode(b)
	got.Entries = append(got.Entries, api.Entry{Tenant: "0", Bucket: 1})
	wantAsSaid(t, got)
	master := someMaster()
	signed, _ := Sign(master, m)
	master[0] ^= 1
	wantUnchecked(t, "a master that has changed", master, signed, api.ErrAuth)
	master[0] ^= 1
	wantChecked(t, master, signed, m)
	signed[0] ^= 1
	wantUnchecked(t, "bytes that have changed", master, signed, api.ErrAuth)
}

func TestNothingIsKeptBetweenCalls(t *testing.T) {
	for _, x := range calls(t) {
		want := x.ask(x.h).held().clone()
		for _, other := range calls(t) {
			other.ask(other.h)
			wantMemory(t, x.what+" behind "+other.what, x.ask(x.h).held(), want)
		}
	}
}

// R1

// holdAll holds what all calls answer against the chapter's words, whatever is handed in.
func holdAll(t *testing.T, master, b []byte, m api.Manifest) {
	t.Helper()
	wantAsSaid(t, m)
	wantReadAsSaid(t, b)
	if len(master) != 32 {
		wantUnchecked(t, "a wrong master", master, b, api.ErrArg)
		if got, e := Sign(master, m); got != nil || e != api.ErrArg {
			t.Errorf("Sign by a master of %d bytes: %s, error %d", len(master), brief(got), int(e))
		}
		return
	}
	wantCheckedAsSaid(t, master, b)
	if text, e := encodeAsSaid(m); e == api.OK {
		wantSigned(t, master, m, text)
	}
	switch {
	case len(b) < 32:
		wantUnchecked(t, "few bytes", master, b, api.ErrShort)
	case !bytes.Equal(tagByLibrary(master, b[:len(b)-32]), b[len(b)-32:]):
		wantUnchecked(t, "no tag", master, b, api.ErrAuth)
	}
}

// entriesOf are bytes cut into entries: ahead of each tenant stand its length, at most, and its Bucket with a sign.
func entriesOf(b []byte) []api.Entry {
	var out []api.Entry
	for len(b) > 1 {
		n := min(int(b[0]), len(b)-2)
		out = append(out, api.Entry{Tenant: string(b[2 : 2+n]), Bucket: int(int8(b[1]))})
		b = b[2+n:]
	}
	return out
}

func TestNothingPanics(t *testing.T) {
	random := rand.New(rand.NewSource(24))
	lengths := []int{0, 1, 31, 32, 32, 32, 32, 32, 32, 33}
	kinds := []byte{0, 0, 1, 1, 2, 3, 4, 8, 9, 64, 65, 97, 98, 127, 128, 129, 255}
	few := func(n int) []byte {
		out := make([]byte, n)
		for i := range out {
			out[i] = kinds[random.Intn(len(kinds))]
		}
		return out
	}
	for range 20000 {
		m := api.Manifest{Version: random.Uint64() >> random.Intn(64), Prev: few(lengths[random.Intn(10)]), Entries: entriesOf(few(random.Intn(40))), Root: few(lengths[random.Intn(10)])}
		if random.Intn(3) > 0 {
			for i := range m.Entries {
				m.Entries[i].Bucket &= 7
			}
		}
		b := few(random.Intn(100))
		switch random.Intn(4) {
		case 0:
			b = tail(b...)
		case 1:
			b = cut(b...)
		case 2:
			b = tail(b[:min(len(b), 8)]...)
		}
		holdAll(t, few(lengths[random.Intn(10)]), b, m)
	}
	for _, n := range []int{1000, 100000, 3000000} {
		for _, each := range []byte{0, 1, 127, 128, 255} {
			b := repeated(each, n)
			wantReadAsSaid(t, b)
			wantReadAsSaid(t, cut(b...))
			wantReadAsSaid(t, cut(append([]byte{1, 0, 128, 128, 64}, b...)...))
			wantReadAsSaid(t, cut(append([]byte{128, 128, 64}, b...)...))
		}
	}
}

func FuzzAll(f *testing.F) {
	f.Add([]byte(nil), []byte(nil), uint64(0), []byte(nil), []byte(nil), []byte(nil))
	f.Add(someMaster(), tail(0, 0), uint64(1), somePrev(), someRoot(), []byte{1, 2, 98, 1, 0, 97, 1, 8, 98})
	f.Add(someMaster(), tail(2, 1, 97, 1, 98, 3, 1, 2, 0, 0, 1, 8), uint64(math.MaxUint64), somePrev(), someRoot(), []byte{65, 1, 97})
	f.Add(someMaster()[:31], tail(1, 0, 1, 0, 9), uint64(math.MaxUint64-1), somePrev()[:31], someRoot(), []byte{0, 9, 1, 255, 97})
	f.Add(someMaster(), cut(129, 128, 64), uint64(258), somePrev(), someRoot(), []byte{2, 1, 97, 98, 1, 1, 97, 0, 1})
	f.Fuzz(func(t *testing.T, master, b []byte, version uint64, prev, root, entries []byte) {
		holdAll(t, master, b, api.Manifest{Version: version, Prev: prev, Entries: entriesOf(entries), Root: root})
	})
}
