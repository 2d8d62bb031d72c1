package extract

import (
	"fmt"
	"math/rand"
	"slices"
	"testing"

	"casket/api"
	"casket/archive"
)

// P23.3

// Verify is true of a range at its own place, and, as said, of another place or number only where the walk is the same one.
func TestVerifyAtEveryPlaceOfEveryNumber(t *testing.T) {
	for _, n := range []int{1, 2, 3, 4, 5, 6, 7, 8, 9, 13} {
		w := built(t, manyChunks(n)...)
		eachRange(n, func(i, j int) {
			sealed, proof := w.sealed[i:j+1], proofAsSaid(leavesAsSaid(w.sealed), 0, i, j)
			wantVerify(t, fmt.Sprint(i, " to ", j, " of ", n), holdVerify(t, w.s.Root, n, i, sealed, proof), true)
			for m := -1; m <= 2*n+1; m++ {
				for at := -1; at <= n+1; at++ {
					got := holdVerify(t, w.s.Root, m, at, sealed, proof)
					if m < at+len(sealed) || at < 0 || m == n && at != i {
						wantVerify(t, fmt.Sprint(i, " to ", j, " of ", n, " as from ", at, " of ", m), got, false)
					}
				}
				for _, far := range farNumbers() {
					wantVerify(t, "at a place that is none", holdVerify(t, w.s.Root, m, far, sealed, proof), false)
				}
			}
			for _, far := range farNumbers() {
				wantVerify(t, "of a number that has another walk, or is none", holdVerify(t, w.s.Root, far, i, sealed, proof), false)
			}
		})
	}
}

func TestVerifyByAnotherRoot(t *testing.T) {
	w := built(t, manyChunks(5)...)
	eachRange(5, func(i, j int) {
		sealed, proof := w.sealed[i:j+1], proofAsSaid(leavesAsSaid(w.sealed), 0, i, j)
		for _, root := range slices.Concat(wrongLengths(), [][]byte{someRoot(), sum(), leavesAsSaid(w.sealed)[i], w.s.Root[:31], w.s.Root[1:], slices.Concat(w.s.Root, []byte{0}), slices.Concat(w.s.Root, w.s.Root)}) {
			wantVerify(t, "another root", holdVerify(t, root, 5, i, sealed, proof), false)
		}
		eachBit(w.s.Root, func(at, bit int, turned []byte) {
			wantVerify(t, "a root with a bit turned", holdVerify(t, turned, 5, i, sealed, proof), false)
		})
	})
	for n := range 3 {
		wantVerify(t, "no chunks under the root of none", holdVerify(t, sum(), n, 0, nil, nil), false)
	}
}

func TestVerifyOfNoChunks(t *testing.T) {
	w := built(t, manyChunks(5)...)
	for _, sealed := range [][][]byte{nil, {}, w.sealed[:0]} {
		for n := -1; n < 8; n++ {
			for i := -1; i < 8; i++ {
				for _, proof := range [][][]byte{nil, {w.s.Root}, leavesAsSaid(w.sealed), {nil}} {
					wantVerify(t, "no chunks", Verify(w.s.Root, n, i, sealed, proof), false)
				}
			}
		}
	}
}

// Sealed chunks and sums that are left out, put in twice, exchanged or others.
func TestVerifyOfOtherPieces(t *testing.T) {
	w := built(t, manyChunks(7)...)
	eachRange(7, func(i, j int) {
		sealed, proof := w.sealed[i:j+1], proofAsSaid(leavesAsSaid(w.sealed), 0, i, j)
		what := fmt.Sprint(i, " to ", j, ": ")
		for k := range sealed {
			for at := max(i-1, 0); at <= i+1; at++ {
				wantVerify(t, what+"a chunk left out", holdVerify(t, w.s.Root, 7, at, slices.Delete(slices.Clone(sealed), k, k+1), proof), false)
				wantVerify(t, what+"a chunk twice", holdVerify(t, w.s.Root, 7, at, slices.Insert(slices.Clone(sealed), k, sealed[k]), proof), false)
			}
			for _, other := range [][]byte{nil, {}, make([]byte, 80), sealed[k][:79], slices.Concat(sealed[k], []byte{0}), leavesAsSaid(sealed)[k], w.sealed[(i+k+1)%7]} {
				pieces := slices.Clone(sealed)
				pieces[k] = other
				wantVerify(t, what+"another chunk", holdVerify(t, w.s.Root, 7, i, pieces, proof), false)
			}
			for m := range k {
				pieces := slices.Clone(sealed)
				pieces[k], pieces[m] = pieces[m], pieces[k]
				wantVerify(t, what+"two chunks exchanged", holdVerify(t, w.s.Root, 7, i, pieces, proof), false)
			}
		}
		for k := range proof {
			wantVerify(t, what+"a sum left out", holdVerify(t, w.s.Root, 7, i, sealed, slices.Delete(slices.Clone(proof), k, k+1)), false)
			for _, other := range [][]byte{{}, make([]byte, 32), proof[k][:31], slices.Concat(proof[k], []byte{0}), w.s.Root} {
				sums := slices.Clone(proof)
				sums[k] = other
				wantVerify(t, what+"another sum", holdVerify(t, w.s.Root, 7, i, sealed, sums), false)
			}
			for m := range k {
				sums := slices.Clone(proof)
				sums[k], sums[m] = sums[m], sums[k]
				wantVerify(t, what+"two sums exchanged", holdVerify(t, w.s.Root, 7, i, sealed, sums), false)
			}
		}
		for k := range len(proof) + 1 {
			for _, more := range [][]byte{{}, make([]byte, 32), w.s.Root} {
				wantVerify(t, what+"a sum more", holdVerify(t, w.s.Root, 7, i, sealed, slices.Insert(slices.Clone(proof), k, more)), false)
			}
		}
	})
}

func TestVerifyWithAnyBitTurned(t *testing.T) {
	w := built(t, manyChunks(5)...)
	for _, x := range [][2]int{{0, 4}, {1, 3}, {2, 2}, {4, 4}} {
		sealed, proof := w.sealed[x[0]:x[1]+1], proofAsSaid(leavesAsSaid(w.sealed), 0, x[0], x[1])
		for k := range sealed {
			eachBit(sealed[k], func(at, bit int, turned []byte) {
				pieces := slices.Clone(sealed)
				pieces[k] = turned
				wantVerify(t, "a chunk with a bit turned", holdVerify(t, w.s.Root, 5, x[0], pieces, proof), false)
			})
		}
		for k := range proof {
			eachBit(proof[k], func(at, bit int, turned []byte) {
				sums := slices.Clone(proof)
				sums[k] = turned
				wantVerify(t, "a sum with a bit turned", holdVerify(t, w.s.Root, 5, x[0], sealed, sums), false)
			})
		}
	}
}

// Chunks are any bytes to Verify: none, one, and as long as no bucket is.
func TestVerifyOfAnyBytes(t *testing.T) {
	pieces := [][]byte{{}, {0}, mixed(64, 1), mixed(65, 2), {}, mixed(100000, 3), nil}
	root := rootAsSaid(pieces)
	leaves := leavesAsSaid(pieces)
	eachRange(len(pieces), func(i, j int) {
		wantVerify(t, fmt.Sprint(i, " to ", j), holdVerify(t, root, len(pieces), i, pieces[i:j+1], proofAsSaid(leaves, 0, i, j)), true)
		wantVerify(t, "leaves for what they are leaves of", holdVerify(t, root, len(pieces), i, leaves[i:j+1], proofAsSaid(leaves, 0, i, j)), false)
	})
}

// P23.4, and what follows (P23.5)

// Of every range each tenant's key tells that tenant's chunks, as Open tells them, and nothing of a tenant that has none there.
func TestTenantsOfEveryRange(t *testing.T) {
	for _, l := range someArchives() {
		w := built(t, l...)
		opened, _, e := archive.Open(someMaster(), w.s, w.b)
		wantError(t, "Open", e, api.OK)
		tenants := []string{"a", "b", "c", "", "\xff", "nobody's", l64()}
		eachRange(len(l), func(i, j int) {
			if len(l) > 10 && (i+j)%3 > 0 {
				return
			}
			x := extracted(t, w.b, i, j)
			for _, tenant := range tenants {
				what := fmt.Sprintf("%q of %d to %d of %d", tenant, i, j, len(l))
				wantError(t, what, holdTenant(t, w.s.Root, keyOf(t, tenant), tenant, x), api.OK)
				got, _ := Tenant(w.s.Root, keyOf(t, tenant), tenant, x)
				wantFound(t, what, got, w.wantedOf(tenant, i, j))
				for _, one := range got {
					if !sameFound(one, Found{one.Index, opened[one.Index]}) {
						t.Errorf("%s: %s; Open tells %s", what, brief(one), brief(opened[one.Index]))
					}
				}
			}
		})
	}
}

// l64 is the tenant of 64 bytes that someChunks have.
func l64() string { return someChunks()[4].Tenant }

func TestTenantsOfAnyName(t *testing.T) {
	var l []api.Chunk
	for i, tenant := range goodTenants() {
		l = append(l, of(tenant, even(i)...), of("a"), of(tenant))
	}
	w := built(t, l...)
	x := extracted(t, w.b, 1, len(l)-2)
	for _, tenant := range goodTenants() {
		wantError(t, "Tenant", holdTenant(t, w.s.Root, keyOf(t, tenant), tenant, x), api.OK)
		got, _ := Tenant(w.s.Root, keyOf(t, tenant), tenant, x)
		wantFound(t, fmt.Sprintf("%q", tenant), got, w.wantedOf(tenant, 1, len(l)-2))
		for _, other := range goodTenants() {
			if other != tenant && tenant != l[0].Tenant && tenant != l[len(l)-1].Tenant {
				wantError(t, fmt.Sprintf("the key of %q for %q", other, tenant), holdTenant(t, w.s.Root, keyOf(t, other), tenant, x), api.ErrAuth)
			}
		}
	}
}

func TestTenantOfRandomRanges(t *testing.T) {
	random := rand.New(rand.NewSource(6))
	for range 150 {
		w := built(t, randomChunks(random)...)
		i := random.Intn(len(w.l))
		j := i + random.Intn(len(w.l)-i)
		tenant := w.l[random.Intn(len(w.l))].Tenant
		x := extracted(t, w.b, i, j)
		wantError(t, "Tenant", holdTenant(t, w.s.Root, keyOf(t, tenant), tenant, x), api.OK)
		got, _ := Tenant(w.s.Root, keyOf(t, tenant), tenant, x)
		wantFound(t, "Tenant", got, w.wantedOf(tenant, i, j))
	}
}

func TestTenantByWrongRootsAndKeys(t *testing.T) {
	w := built(t, fewChunks()...)
	x := extracted(t, w.b, 1, 3)
	key := keyOf(t, "a")
	for _, wrong := range wrongLengths() {
		for _, tenant := range []string{"a", "", "nobody's", longTenants()[0]} {
			for _, b := range [][]byte{x, x[:len(x)-1], append(slices.Clone(x), 0), nil} {
				wantError(t, "a wrong root", holdTenant(t, wrong, key, tenant, b), api.ErrArg)
				wantError(t, "a wrong key", holdTenant(t, w.s.Root, wrong, tenant, b), api.ErrArg)
				wantError(t, "both", holdTenant(t, wrong, wrong, tenant, b), api.ErrArg)
				wantError(t, "a wrong key, another root", holdTenant(t, someRoot(), wrong, tenant, b), api.ErrArg)
			}
		}
	}
}

func TestTenantOfLongNames(t *testing.T) {
	w := built(t, fewChunks()...)
	x := extracted(t, w.b, 1, 3)
	for _, tenant := range longTenants() {
		for _, b := range [][]byte{x, x[:len(x)-1], append(slices.Clone(x), 0), nil} {
			wantError(t, "a long name", holdTenant(t, w.s.Root, keyOf(t, "a"), tenant, b), api.ErrLong)
			wantError(t, "a long name, another root", holdTenant(t, someRoot(), someKey(), tenant, b), api.ErrLong)
		}
	}
}

func TestTenantTellsReadsError(t *testing.T) {
	w := built(t, fewChunks()...)
	x := extracted(t, w.b, 1, 3)
	for _, y := range []struct {
		what string
		b    []byte
		want api.Errno
	}{
		{"nil", nil, api.ErrShort}, {"no bytes", []byte{}, api.ErrShort}, {"a short block", []byte{3, 1, 2, 3}, api.ErrShort},
		{"a byte too few", x[:len(x)-1], api.ErrShort}, {"a byte too many", slices.Concat(x, []byte{0}), api.ErrForm},
		{"a long block", []byte{129, 128, 128, 128, 1}, api.ErrLong}, {"no manifest", blockAsSaid(make([]byte, 40)), api.ErrForm},
		{"no place", slices.Concat(blockAsSaid(w.signed), []byte{5, 0}, w.sealed[0], []byte{0}), api.ErrForm},
	} {
		wantError(t, y.what+", read", holdRead(t, y.b), y.want)
		for _, root := range [][]byte{w.s.Root, someRoot()} {
			for _, tenant := range []string{"a", "b", "nobody's"} {
				wantError(t, y.what, holdTenant(t, root, keyOf(t, "a"), tenant, y.b), y.want)
			}
		}
	}
	for n := range x {
		wantError(t, "a beginning", holdTenant(t, w.s.Root, keyOf(t, "a"), "a", x[:n]), api.ErrShort)
	}
}

func TestTenantByAnotherRoot(t *testing.T) {
	w := built(t, fewChunks()...)
	for _, tenant := range []string{"a", "b", "nobody's"} {
		x := extracted(t, w.b, 1, 3)
		for _, root := range [][]byte{someRoot(), make([]byte, 32), sum(), keyOf(t, tenant), w.m.Prev} {
			wantError(t, "another root", holdTenant(t, root, keyOf(t, tenant), tenant, x), api.ErrAuth)
			wantError(t, "another root, another key", holdTenant(t, root, someKey(), tenant, x), api.ErrAuth)
		}
		eachBit(w.s.Root, func(at, bit int, turned []byte) {
			wantError(t, "a root with a bit turned", holdTenant(t, turned, keyOf(t, tenant), tenant, x), api.ErrAuth)
		})
	}
	other := built(t, fewChunks()[1:]...)
	wantError(t, "another archive's root", holdTenant(t, other.s.Root, keyOf(t, "a"), "a", extracted(t, w.b, 0, 0)), api.ErrAuth)
}

// The manifest's Root is not the chunks': the proof comes to the one, or to the other, and is asked for both.
func TestTenantWhereTheManifestHasAnotherRoot(t *testing.T) {
	w := built(t, fewChunks()...)
	m := w.m
	m.Root = someRoot()
	x := layWhole(asSigned(textOf(t, m)), 1, 1, w.sealed[1:3], proofAsSaid(leavesAsSaid(w.sealed), 0, 1, 2))
	wantError(t, "the chunks' root", holdTenant(t, w.s.Root, keyOf(t, "a"), "a", x), api.ErrAuth)
	wantError(t, "the manifest's root", holdTenant(t, someRoot(), keyOf(t, "a"), "a", x), api.ErrProof)
}

func TestTenantOfProofsThatDoNotFit(t *testing.T) {
	w := built(t, manyChunks(7)...)
	block := blockAsSaid(w.signed)
	eachRange(7, func(i, j int) {
		sealed, proof := w.sealed[i:j+1], proofAsSaid(leavesAsSaid(w.sealed), 0, i, j)
		refused := func(what string, sealed, proof [][]byte) {
			t.Helper()
			x := layWhole(block, uint64(i), uint64(j-i), sealed, proof)
			wantError(t, "Read", holdRead(t, x), api.OK)
			for _, tenant := range []string{"a", "nobody's"} {
				wantError(t, what, holdTenant(t, w.s.Root, keyOf(t, tenant), tenant, x), api.ErrProof)
				wantError(t, what+", by another key", holdTenant(t, w.s.Root, someKey(), tenant, x), api.ErrProof)
			}
		}
		for k := range sealed {
			pieces := slices.Clone(sealed)
			pieces[k] = w.sealed[(i+k+1)%7]
			refused("another chunk", pieces, proof)
		}
		for k := range proof {
			refused("a sum left out", sealed, slices.Delete(slices.Clone(proof), k, k+1))
			sums := slices.Clone(proof)
			sums[k] = someRoot()
			refused("another sum", sealed, sums)
		}
		refused("a sum more", sealed, append(slices.Clone(proof), someRoot()))
		refused("64 sums", sealed, slices.Repeat([][]byte{someRoot()}, 64))
		if i > 0 {
			x := layWhole(block, uint64(i-1), uint64(j-i), sealed, proof)
			wantError(t, "a place ahead", holdTenant(t, w.s.Root, keyOf(t, "a"), "a", x), api.ErrProof)
		}
	})
}

// Whoever's key it is: another one is told only where there is something to unseal.
func TestTenantByAnotherKey(t *testing.T) {
	w := built(t, fewChunks()...)
	eachRange(5, func(i, j int) {
		x := extracted(t, w.b, i, j)
		for _, tenant := range []string{"a", "b", "nobody's"} {
			want := when(len(w.wantedOf(tenant, i, j)) > 0, api.ErrAuth)
			for _, key := range [][]byte{someMaster(), someKey(), make([]byte, 32), keyOf(t, "c"), w.s.Root} {
				wantError(t, fmt.Sprint("another key for ", tenant), holdTenant(t, w.s.Root, key, tenant, x), want)
			}
		}
	})
	x := extracted(t, w.b, 0, 4)
	wantError(t, "a's key for b", holdTenant(t, w.s.Root, keyOf(t, "a"), "b", x), api.ErrAuth)
	wantError(t, "b's key for a", holdTenant(t, w.s.Root, keyOf(t, "b"), "a", x), api.ErrAuth)
	eachBit(keyOf(t, "a"), func(at, bit int, turned []byte) {
		wantError(t, "a key with a bit turned", holdTenant(t, w.s.Root, turned, "a", x), api.ErrAuth)
	})
}

// The signature is not asked, nor is Prev: the root is trusted.
func TestTenantAsksNoSignature(t *testing.T) {
	w := built(t, fewChunks()...)
	sealed, proof := w.sealed[1:4], proofAsSaid(leavesAsSaid(w.sealed), 0, 1, 3)
	m := w.m
	m.Prev = mixed(32, 200)
	for what, block := range map[string][]byte{
		"the archive's own":     blockAsSaid(w.signed),
		"another one":           asSigned(textOf(t, w.m)),
		"32 bytes 0":            blockAsSaid(append(textOf(t, w.m), make([]byte, 32)...)),
		"another one and Prev":  asSigned(textOf(t, m)),
		"one by another master": blockAsSaid(slices.Concat(textOf(t, w.m), sum(someKey(), textOf(t, w.m)))),
	} {
		x := layWhole(block, 1, 2, sealed, proof)
		wantError(t, what, holdTenant(t, w.s.Root, keyOf(t, "a"), "a", x), api.OK)
		got, _ := Tenant(w.s.Root, keyOf(t, "a"), "a", x)
		wantFound(t, what, got, w.wantedOf("a", 1, 3))
	}
}

// Another version, another tenant of an entry, or another order of entries: the sealed chunks are not theirs.
func TestTenantUnderAnotherManifest(t *testing.T) {
	w := built(t, fewChunks()...)
	proof := proofAsSaid(leavesAsSaid(w.sealed), 0, 1, 3)
	for _, y := range []struct {
		what   string
		turn   func(m *api.Manifest)
		tenant string
		want   api.Errno
	}{
		{"as it was", func(m *api.Manifest) {}, "a", api.OK},
		{"another version", func(m *api.Manifest) { m.Version = 259 }, "a", api.ErrAuth},
		{"another version, of one who has none", func(m *api.Manifest) { m.Version = 259 }, "c", api.OK},
		{"an entry that is made one's own", func(m *api.Manifest) { m.Entries[1].Tenant = "a" }, "a", api.ErrAuth},
		{"an entry of the range exchanged with another", func(m *api.Manifest) { m.Entries[2].Tenant, m.Entries[3].Tenant = "b", "a" }, "a", api.ErrAuth},
		{"one's own entry that is made another's, which no root says", func(m *api.Manifest) { m.Entries[2].Tenant = "c" }, "a", api.OK},
		{"an entry outside of the range", func(m *api.Manifest) { m.Entries[0].Tenant, m.Entries[4].Tenant = "c", "c" }, "a", api.OK},
		{"an entry more, by which the walk is the same", func(m *api.Manifest) { m.Entries = append(m.Entries, api.Entry{Tenant: "a"}) }, "a", api.OK},
		{"two entries less", func(m *api.Manifest) { m.Entries = m.Entries[:4] }, "a", api.ErrProof},
	} {
		m := w.m
		m.Entries = slices.Clone(m.Entries)
		y.turn(&m)
		x := layWhole(asSigned(textOf(t, m)), 1, 2, w.sealed[1:4], proof)
		wantError(t, y.what, holdTenant(t, w.s.Root, keyOf(t, y.tenant), y.tenant, x), y.want)
	}
}

// inside is what is sealed with a tag that fits, and why it is no chunk of tenant "a".
type inside struct {
	what   string
	padded []byte
	want   api.Errno
}

func wrongInsides(t *testing.T) []inside {
	t.Helper()
	b := encoded(t, of("a", even(2)...))
	padded := mustPad(t, b)
	turned := slices.Clone(padded)
	turned[63] = 1
	longTenant := slices.Concat([]byte{1, 65}, repeated(120, 65), []byte{0, 1, 0, 1, 0})
	return []inside{
		{"a greater bucket", slices.Concat(padded, make([]byte, 192)), api.ErrForm},
		{"a last byte that is not 0", turned, api.ErrForm},
		{"no bytes, padded", mustPad(t, nil), api.ErrShort},
		{"another first byte", mustPad(t, slices.Concat([]byte{2}, b[1:])), api.ErrForm},
		{"a chunk's beginning", mustPad(t, b[:len(b)-1]), api.ErrShort},
		{"a byte behind a chunk", mustPad(t, slices.Concat(b, []byte{0})), api.ErrForm},
		{"a chunk of a long tenant", mustPad(t, longTenant), api.ErrLong},
		{"a chunk of too many samples", mustPad(t, []byte{1, 1, 97, 129, 128, 4, 1, 0, 1, 0}), api.ErrLong},
		{"another tenant's chunk", mustPad(t, encoded(t, of("b", even(2)...))), api.ErrForm},
	}
}

// byHand is a whole archive's range from i to j, and its root: of each place what is sealed there, for which tenant.
func byHand(t *testing.T, i, j int, tenants []string, insides ...[]byte) (root, x []byte) {
	t.Helper()
	m := manifestOf()
	var sealed [][]byte
	for place, padded := range insides {
		bucket := slices.Index([]int{64, 256, 1024}, len(padded))
		m.Entries = append(m.Entries, api.Entry{Tenant: tenants[place], Bucket: bucket})
		sealed = append(sealed, sealPadded(t, tenants[place], place, padded))
	}
	m.Root = rootAsSaid(sealed)
	proof := proofAsSaid(leavesAsSaid(sealed), 0, i, j)
	return m.Root, layWhole(asSigned(textOf(t, m)), uint64(i), uint64(j-i), sealed[i:j+1], proof)
}

// The first chunk's error is told; what is wrong of others, or outside of the range, is not asked.
func TestTenantTellsTheFirstChunksError(t *testing.T) {
	right := mustPad(t, encoded(t, of("a", even(2)...)))
	theirs := mustPad(t, encoded(t, of("b")))
	ask := func(what string, i, j int, insides []inside, want api.Errno) {
		t.Helper()
		var padded [][]byte
		for _, each := range insides {
			padded = append(padded, each.padded)
		}
		root, x := byHand(t, i, j, []string{"a", "a", "b", "a"}, padded...)
		wantError(t, what, holdTenant(t, root, keyOf(t, "a"), "a", x), want)
	}
	good, other := inside{"", right, api.OK}, inside{"", theirs, api.OK}
	ask("right ones", 0, 3, []inside{good, good, other, good}, api.OK)
	for _, x := range wrongInsides(t) {
		ask(x.what+" first", 0, 3, []inside{x, good, other, good}, x.want)
		ask(x.what+" last", 0, 3, []inside{good, good, other, x}, x.want)
		ask(x.what+" ahead of the range", 1, 3, []inside{x, good, other, good}, api.OK)
		ask(x.what+" behind the range", 0, 2, []inside{good, good, other, x}, api.OK)
		ask(x.what+" of another tenant", 0, 3, []inside{good, good, x, good}, api.OK)
		for _, y := range wrongInsides(t) {
			ask(x.what+" ahead of "+y.what, 0, 3, []inside{good, x, y, y}, x.want)
			ask(x.what+" behind another tenant's "+y.what, 1, 3, []inside{y, good, y, x}, x.want)
		}
	}
}

// Whatever bit is turned: what is found is the tenant's own chunks at their own places, or nothing.
func TestTenantOfAnyBitTurned(t *testing.T) {
	w := built(t, fewChunks()...)
	for _, r := range [][2]int{{0, 3}, {1, 3}, {1, 1}} {
		x := extracted(t, w.b, r[0], r[1])
		block := len(blockAsSaid(w.signed))
		begin := block - len(w.signed)
		end := block + 2 + 80*(r[1]-r[0]+1) // of the sealed chunks, where it is told how many sums follow
		own := w.wantedOf("a", 0, 4)
		var seen [9]int
		eachBit(x, func(at, bit int, turned []byte) {
			what := fmt.Sprint("the bit ", bit, " of the byte ", at, " of ", r)
			e := holdTenant(t, w.s.Root, keyOf(t, "a"), "a", turned)
			got, _ := Tenant(w.s.Root, keyOf(t, "a"), "a", turned)
			seen[e]++
			switch {
			case at >= begin+12 && at < begin+44, at >= block-32 && at < block: // Prev, and the signature
				wantFound(t, what, got, w.wantedOf("a", r[0], r[1]))
				wantError(t, what, e, api.OK)
			case at >= block-64 && at < block-32:
				wantError(t, what+", in the root", e, api.ErrAuth)
			case at >= block+2 && at != end:
				wantError(t, what+", in a chunk or a sum", e, api.ErrProof)
			}
			for _, one := range got {
				if !slices.ContainsFunc(own, func(each Found) bool { return sameFound(each, one) }) {
					t.Errorf("%s: found %s", what, brief(one))
				}
			}
		})
		if seen[api.OK] == 0 || seen[api.ErrShort] == 0 || seen[api.ErrForm] == 0 || seen[api.ErrAuth] == 0 || seen[api.ErrProof] == 0 {
			t.Errorf("not every answer was tried: %v", seen)
		}
	}
}

// Of several faults the one that the chapter names first is told: each set of them is tried.
func TestSeveralFaultsOfTenant(t *testing.T) {
	errors := []api.Errno{api.ErrArg, api.ErrArg, api.ErrLong, api.ErrForm, api.ErrAuth, api.ErrProof, api.ErrShort, api.ErrForm}
	b := encoded(t, of("a", even(2)...))
	for set := range 1 << len(errors) {
		has := func(k int) bool { return set>>k&1 == 1 }
		one, two := mustPad(t, b), mustPad(t, b)
		if has(7) {
			two = mustPad(t, append(slices.Clone(b), 0))
		}
		if has(6) {
			one = mustPad(t, b[:len(b)-1])
		}
		root, x := byHand(t, 0, 1, []string{"a", "a", "b"}, one, two, mustPad(t, b))
		key, tenant := keyOf(t, "a"), "a"
		if has(5) {
			x[len(x)-1] ^= 1
		}
		if has(4) {
			root[31] ^= 1
		}
		if has(3) {
			x = append(x, 0)
		}
		if has(2) {
			tenant = longTenants()[0]
		}
		if has(1) {
			key = key[:31]
		}
		if has(0) {
			root = root[:31]
		}
		want := api.OK
		for k := len(errors) - 1; k >= 0; k-- {
			if has(k) {
				want = errors[k]
			}
		}
		wantError(t, fmt.Sprintf("the faults %b", set), holdTenant(t, root, key, tenant, x), want)
	}
}

// What other tenants have turns neither the length of what is extracted, nor the tenant's sealed chunks, nor what is found.
func TestOthersSayNothing(t *testing.T) {
	mine := of("a", even(7)...)
	random := rand.New(rand.NewSource(5))
	one := built(t, of("b", wild(2, 1)...), mine, of("c"), mine)
	want := extracted(t, one.b, 0, 2)
	for range 50 {
		other := built(t, of("b", wild(random.Intn(3), random.Int63())...), mine, of("c", even(random.Intn(20))...), mine)
		got := extracted(t, other.b, 0, 2)
		if len(got) != len(want) {
			t.Errorf("%d bytes; want %d", len(got), len(want))
		}
		wantBytes(t, "the tenant's sealed chunk", readBack(t, got).Sealed[1], readBack(t, want).Sealed[1])
		wantBytes(t, "the manifest ahead of its root", got[:len(other.signed)-63], want[:len(one.signed)-63])
		mineAgain, _ := Tenant(other.s.Root, keyOf(t, "a"), "a", got)
		wantFound(t, "the tenant's chunks", mineAgain, []Found{{1, mine}})
	}
}
