package merkle

import (
	"bytes"
	"crypto/sha256"
	"encoding/hex"
	"fmt"
	"math"
	"math/rand"
	"slices"
	"testing"

	"casket/api"
	"casket/sha"
)

// mixed are n bytes that tell their places apart; none of them is 0.
func mixed(n int, from byte) []byte {
	out := make([]byte, n)
	for i := range out {
		out[i] = 1 + byte((i*7+i/251+int(from))%255)
	}
	return out
}

func repeated(v byte, n int) []byte { return bytes.Repeat([]byte{v}, n) }

// leavesOf are n leaves as an archive has them, no two of them the same.
func leavesOf(n int) [][]byte {
	var out [][]byte
	for k := range n {
		out = append(out, leafAsSaid([]byte{byte(k), byte(k >> 8)}))
	}
	return out
}

// otherLengths are n texts that are no sums: of other lengths than 32, of no bytes, and nil.
func otherLengths(n int) [][]byte {
	lengths := []int{1, 31, 33, 2, 64, 0, 65, 32, 100, 3}
	var out [][]byte
	for k := range n {
		if k%7 == 3 {
			out = append(out, nil)
			continue
		}
		out = append(out, mixed(lengths[k%len(lengths)], byte(k)))
	}
	return out
}

// lists are n leaves of several kinds.
func lists(n int) [][][]byte {
	return [][][]byte{leavesOf(n), otherLengths(n), slices.Repeat([][]byte{mixed(32, 1)}, n), make([][]byte, n)}
}

// numbers of leaves: all small ones, and powers of two with one less and one more.
func numbers() []int {
	out := []int{100, 255, 256, 257, 511, 512, 513, 1000}
	for n := range 70 {
		out = append(out, n)
	}
	return append(out, 127, 128, 129)
}

// fewNumbers are for tests that go through every range at each of them.
func fewNumbers() []int {
	return []int{1, 2, 3, 4, 5, 6, 7, 8, 9, 10, 11, 12, 13, 14, 15, 16, 17, 20, 31, 32, 33}
}

// unhex is what another program wrote.
func unhex(t *testing.T, s string) []byte {
	t.Helper()
	b, err := hex.DecodeString(s)
	if err != nil {
		t.Fatal(err)
	}
	return b
}

// The chapter's words, on nothing of the package.

func sumAsSaid(parts ...[]byte) []byte {
	sum := sha256.Sum256(slices.Concat(parts...))
	return sum[:]
}

func leafAsSaid(b []byte) []byte { return sumAsSaid([]byte{0}, b) }

func nodeAsSaid(l, r []byte) []byte { return sumAsSaid([]byte{1}, l, r) }

// rootByLevels goes up from the leaves: of each level two and two make one of the next, and one that is left goes up as it is.
func rootByLevels(leaves [][]byte) []byte {
	if len(leaves) == 0 {
		return sumAsSaid()
	}
	level := slices.Clone(leaves)
	for len(level) > 1 {
		var next [][]byte
		for pair := range slices.Chunk(level, 2) {
			if len(pair) == 2 {
				next = append(next, nodeAsSaid(pair[0], pair[1]))
			} else {
				next = append(next, pair[0])
			}
		}
		level = next
	}
	return level[0]
}

// firstAsSaid is k, the greatest power of two that is less than n.
func firstAsSaid(n int) int {
	k := 1
	for k*2 < n {
		k *= 2
	}
	return k
}

// part is a part of the tree as the walk meets it: lo to hi - 1, of which none or all are asked for.
type part struct {
	lo, hi int
	asked  bool
}

// partsAsSaid are the parts where the walk goes no further, from the left to the right.
func partsAsSaid(lo, hi, i, j int) []part {
	count := 0
	for place := lo; place < hi; place++ {
		if i <= place && place <= j {
			count++
		}
	}
	switch count {
	case hi - lo:
		return []part{{lo, hi, true}}
	case 0:
		return []part{{lo, hi, false}}
	}
	k := firstAsSaid(hi - lo)
	return append(partsAsSaid(lo, lo+k, i, j), partsAsSaid(lo+k, hi, i, j)...)
}

// proofAsSaid are the tops of the parts that are told.
func proofAsSaid(leaves [][]byte, i, j int) [][]byte {
	var out [][]byte
	for _, p := range partsAsSaid(0, len(leaves), i, j) {
		if !p.asked {
			out = append(out, rootByLevels(leaves[p.lo:p.hi]))
		}
	}
	return out
}

// lengthAsSaid is how many are told.
func lengthAsSaid(n, i, j int) int {
	count := 0
	for _, p := range partsAsSaid(0, n, i, j) {
		if !p.asked {
			count++
		}
	}
	return count
}

// argsAsSaid: may Rebuild be asked this?
func argsAsSaid(n, i, leaves int) bool {
	return n >= 1 && n <= 1<<20 && leaves >= 1 && i >= 0 && i < n && leaves <= n-i
}

// treeAsSaid is the top of lo to hi - 1, put together of leaves and of what is left of a proof; told is handed every text that is summed up.
func treeAsSaid(lo, hi, i int, leaves [][]byte, proof *[][]byte, told func([]byte)) []byte {
	j := i + len(leaves) - 1
	if hi-1 < i || j < lo {
		first := (*proof)[0]
		*proof = (*proof)[1:]
		return first
	}
	if hi-lo == 1 {
		return leaves[lo-i]
	}
	k := firstAsSaid(hi - lo)
	l := treeAsSaid(lo, lo+k, i, leaves, proof, told)
	r := treeAsSaid(lo+k, hi, i, leaves, proof, told)
	told(slices.Concat([]byte{1}, l, r))
	return nodeAsSaid(l, r)
}

// rebuildAsSaid is P20.3, whatever is handed in.
func rebuildAsSaid(n, i int, leaves, proof [][]byte) ([]byte, api.Errno) {
	if !argsAsSaid(n, i, len(leaves)) {
		return nil, api.ErrArg
	}
	if len(proof) != lengthAsSaid(n, i, i+len(leaves)-1) {
		return nil, api.ErrProof
	}
	rest := slices.Clone(proof)
	return treeAsSaid(0, n, i, leaves, &rest, func([]byte) {}), api.OK
}

// textsAsSaid are all texts that Rebuild sums up.
func textsAsSaid(n, i int, leaves, proof [][]byte) [][]byte {
	var out [][]byte
	rest := slices.Clone(proof)
	treeAsSaid(0, n, i, leaves, &rest, func(text []byte) { out = append(out, text) })
	return out
}

// shapeAsSaid tells how the walk puts leaves and tops together: where it is the same, so is the root.
func shapeAsSaid(lo, hi, i, j int) string {
	if hi-1 < i || j < lo {
		return "."
	}
	if hi-lo == 1 {
		return "x"
	}
	k := firstAsSaid(hi - lo)
	return "(" + shapeAsSaid(lo, lo+k, i, j) + shapeAsSaid(lo+k, hi, i, j) + ")"
}

// What is wanted.

func wantBytes(t *testing.T, what string, got, want []byte) {
	t.Helper()
	if !bytes.Equal(got, want) {
		t.Errorf("%s: %x; want %x", what, got, want)
	}
}

func wantList(t *testing.T, what string, got, want [][]byte) {
	t.Helper()
	if len(got) != len(want) {
		t.Errorf("%s: %d tops; want %d", what, len(got), len(want))
		return
	}
	for k := range got {
		wantBytes(t, fmt.Sprint(what, ", ", k), got[k], want[k])
	}
}

func ranged(n, i, j int) string { return fmt.Sprint("places ", i, " to ", j, " of ", n) }

// proved is a proof, where there is no error.
func proved(t *testing.T, leaves [][]byte, i, j int) [][]byte {
	t.Helper()
	proof, e := Prove(leaves, i, j)
	if e != api.OK {
		t.Errorf("Prove of %s: error %d", ranged(len(leaves), i, j), int(e))
	}
	return proof
}

// rebuilt is a root, where there is no error.
func rebuilt(t *testing.T, n, i int, leaves, proof [][]byte) []byte {
	t.Helper()
	root, e := Rebuild(n, i, leaves, proof)
	if e != api.OK {
		t.Errorf("Rebuild of %s by %d tops: error %d", ranged(n, i, i+len(leaves)-1), len(proof), int(e))
	}
	return root
}

func wantNoProof(t *testing.T, what string, leaves [][]byte, i, j int) {
	t.Helper()
	if proof, e := Prove(leaves, i, j); e != api.ErrArg || len(proof) != 0 {
		t.Errorf("%s: Prove of %s: %d tops, error %d; want none, and 1", what, ranged(len(leaves), i, j), len(proof), int(e))
	}
}

// wantNoRoot: Rebuild answers an error and no bytes; what Verify is asked of is no root then, not even no bytes.
func wantNoRoot(t *testing.T, what string, n, i int, leaves, proof [][]byte, want api.Errno) {
	t.Helper()
	what = fmt.Sprint(what, ": ", len(leaves), " leaves from ", i, " on, of ", n, ", by ", len(proof), " tops")
	if root, e := Rebuild(n, i, leaves, proof); e != want || len(root) != 0 {
		t.Errorf("%s: Rebuild: %d bytes, error %d; want none, and %d", what, len(root), int(e), int(want))
	}
	for _, root := range [][]byte{nil, {}, sha.Sum(nil), Root(leaves), mixed(32, 1)} {
		if Verify(root, n, i, leaves, proof) {
			t.Errorf("%s: Verify of %x says true", what, root)
		}
	}
}

// wantRoot holds Rebuild and Verify against the chapter's words, whatever is handed in.
func wantRoot(t *testing.T, n, i int, leaves, proof [][]byte) {
	t.Helper()
	want, e := rebuildAsSaid(n, i, leaves, proof)
	if e != api.OK {
		wantNoRoot(t, "as said", n, i, leaves, proof, e)
		return
	}
	what := ranged(n, i, i+len(leaves)-1)
	wantBytes(t, "Rebuild of "+what, rebuilt(t, n, i, leaves, proof), want)
	wantVerified(t, what, true, want, n, i, leaves, proof)
	wantVerified(t, what+" with another root", false, append([]byte{7}, want...), n, i, leaves, proof)
}

func wantVerified(t *testing.T, what string, want bool, root []byte, n, i int, leaves, proof [][]byte) {
	t.Helper()
	if Verify(root, n, i, leaves, proof) != want {
		t.Errorf("Verify of %s: %v; want %v", what, !want, want)
	}
}

// Words

func TestTheChaptersExamples(t *testing.T) {
	l := leavesOf(3)
	wantBytes(t, "Root of three leaves", Root(l), Node(Node(l[0], l[1]), l[2]))
	wantList(t, "Prove of 1 to 1", proved(t, l, 1, 1), [][]byte{l[0], l[2]})
	wantList(t, "Prove of 0 to 2", proved(t, l, 0, 2), nil)
	wantBytes(t, "Root of one leaf", Root(l[:1]), l[0])
	wantBytes(t, "Root of none", Root(nil), sha.Sum(nil))
}

func TestLeafAndNodeAreSums(t *testing.T) {
	for n := range 150 {
		b, other := mixed(n, 3), mixed(n/2, 90)
		what := fmt.Sprint(n, " bytes")
		wantBytes(t, "Leaf of "+what, Leaf(b), sha.Sum(append([]byte{0}, b...)))
		wantBytes(t, "Leaf of "+what, Leaf(b), leafAsSaid(b))
		wantBytes(t, "Node of "+what, Node(b, other), sha.Sum(slices.Concat([]byte{1}, b, other)))
		wantBytes(t, "Node of "+what, Node(other, b), nodeAsSaid(other, b))
	}
	big := mixed(100000, 5)
	wantBytes(t, "Leaf of many bytes", Leaf(big), leafAsSaid(big))
	wantBytes(t, "Node of many bytes", Node(big, big[1:]), nodeAsSaid(big, big[1:]))
}

func TestLeafAndNodeThatOthersWrote(t *testing.T) {
	wantBytes(t, "Leaf of nothing", Leaf(nil), unhex(t, "6e340b9cffb37a989ca544e6bb780a2c78901d3fb33738768511a30617afa01d"))
	wantBytes(t, "Leaf of no bytes", Leaf([]byte{}), Leaf(nil))
	wantBytes(t, "Leaf of abc", Leaf([]byte("abc")), unhex(t, "609f6e36d2405585188d5cfd761f407c7cc46a7d3f314c88270469dde315fcd1"))
	wantBytes(t, "Node of nothing", Node(nil, nil), unhex(t, "4bf5122f344554c53bde2ebb8cd2b7e3d1600ad631c385a5d7cce23c7785459a"))
	wantBytes(t, "Node of no bytes", Node([]byte{}, nil), Node(nil, []byte{}))
	wantBytes(t, "Node of two leaves", Node(Leaf([]byte("a")), Leaf([]byte("b"))), unhex(t, "b137985ff484fb600db93107c77b0365c80d78f5b429ded0fd97361d077999eb"))
}

func TestALeafIsNoNode(t *testing.T) {
	l, r := mixed(32, 1), mixed(32, 2)
	same := bytes.Equal
	for _, x := range []struct {
		what string
		same bool
	}{
		{"Leaf of two together and Node of them", same(Leaf(slices.Concat(l, r)), Node(l, r))},
		{"Leaf and the sum alone", same(Leaf(l), sha.Sum(l))},
		{"Node and the sum alone", same(Node(l, r), sha.Sum(slices.Concat(l, r)))},
		{"Node of two and of them exchanged", same(Node(l, r), Node(r, l))},
		{"Leaf of nothing and Node of nothing", same(Leaf(nil), Node(nil, nil))},
		{"Leaf of a byte 1 and Node", same(Leaf(slices.Concat([]byte{1}, l, r)), Node(l, r))},
		{"Node of one and none, and Leaf of it", same(Node(l, nil), Leaf(l))},
	} {
		if x.same {
			t.Errorf("%s are the same", x.what)
		}
	}
}

// P20.1

// The leaves and roots that are often held against RFC 6962.
func TestRootsThatOthersWrote(t *testing.T) {
	var l [][]byte
	for _, x := range []struct{ text, root string }{
		{"", "6e340b9cffb37a989ca544e6bb780a2c78901d3fb33738768511a30617afa01d"},
		{"00", "fac54203e7cc696cf0dfcb42c92a1d9dbaf70ad9e621f4bd8d98662f00e3c125"},
		{"10", "aeb6bcfe274b70a14fb067a5e5578264db0fa9b51af5e0ba159158f329e06e77"},
		{"2021", "d37ee418976dd95753c1c73862b9398fa2a2cf9b4ff0fdfe8b30cd95209614b7"},
		{"3031", "4e3bbb1f7b478dcfe71fb631631519a3bca12c9aefca1612bfce4c13a86264d4"},
		{"40414243", "76e67dadbcdf1e10e1b74ddc608abd2f98dfb16fbce75277b5232a127f2087ef"},
		{"5051525354555657", "ddb89be403809e325750d3d263cd78929c2942b7942a34b77e122c9594a74c8c"},
		{"606162636465666768696a6b6c6d6e6f", "5dc9da79a70659a9ad559cb701ded9a2ab9d823aad2f4960cfe370eff4604328"},
	} {
		l = append(l, Leaf(unhex(t, x.text)))
		wantBytes(t, fmt.Sprint("Root of ", len(l)), Root(l), unhex(t, x.root))
	}
}

func TestRootsAboutPowersOfTwo(t *testing.T) {
	var l [][]byte
	for k := range 33 {
		l = append(l, Leaf([]byte{byte(k)}))
	}
	for _, x := range []struct {
		n    int
		root string
	}{
		{15, "504df18ccb021fe5f19677228be6b1f6e597a9c63d0a300bbddb113c98f4b368"},
		{16, "93f2bd0cd60b2e597cf53fb12ae63ed157e0c10efbfe097d23caf8a5f59c6e27"},
		{17, "8e31c4ca74a9e3449f253ee8cbe60e07149e3a1398e6e3f0f4a3c312a9fe14f3"},
		{31, "18d47208b4a4140068c701c4bc8d831e19dd0f1f1124fd793c65ba08fbb61b2e"},
		{32, "e3cefa6fc4ca8482c126f391f261f8d6aa7921e763af8f2f838d75c3c4b9a5e3"},
		{33, "1ef78c0bde9f58143b0600eb015b6b7c76e89b6af0ca70d80be3c56e3289de97"},
	} {
		wantBytes(t, fmt.Sprint("Root of ", x.n), Root(l[:x.n]), unhex(t, x.root))
	}
}

func TestRootsOfManyNumbers(t *testing.T) {
	for _, n := range numbers() {
		for kind, l := range lists(n) {
			wantBytes(t, fmt.Sprint("Root of ", n, " of kind ", kind), Root(l), rootByLevels(l))
		}
	}
}

// The top of the first k and that of the others, by Root alone.
func TestARootIsANodeOfTwoRoots(t *testing.T) {
	for _, n := range numbers() {
		if n < 2 {
			continue
		}
		l := leavesOf(n)
		k := firstAsSaid(n)
		wantBytes(t, fmt.Sprint("Root of ", n), Root(l), Node(Root(l[:k]), Root(l[k:])))
	}
}

func TestRootOfNoLeaves(t *testing.T) {
	want := unhex(t, "e3b0c44298fc1c149afbf4c8996fb92427ae41e4649b934ca495991b7852b855")
	for _, none := range [][][]byte{nil, {}, leavesOf(3)[1:1]} {
		wantBytes(t, "Root of no leaves", Root(none), want)
		wantBytes(t, "Root of no leaves", Root(none), sha.Sum(nil))
	}
}

func TestRootOfOneLeaf(t *testing.T) {
	for n := range 100 {
		wantBytes(t, fmt.Sprint("Root of one leaf of ", n, " bytes"), Root([][]byte{mixed(n, 1)}), mixed(n, 1))
	}
	wantBytes(t, "Root of one leaf that is nil", Root([][]byte{nil}), nil)
	wantBytes(t, "Root of one leaf of no bytes", Root([][]byte{{}}), nil)
}

// Nothing tells a node where its left one ends: leaves are taken as they are.
func TestLeavesAreTakenAsTheyAre(t *testing.T) {
	wantBytes(t, "Root of ab and c", Root([][]byte{[]byte("ab"), []byte("c")}), sha.Sum([]byte("\x01abc")))
	wantBytes(t, "Root of a and bc", Root([][]byte{[]byte("a"), []byte("bc")}), sha.Sum([]byte("\x01abc")))
	wantBytes(t, "Root of nil and abc", Root([][]byte{nil, []byte("abc")}), sha.Sum([]byte("\x01abc")))
	wantBytes(t, "Root of no bytes and nil", Root([][]byte{{}, nil}), sha.Sum([]byte{1}))
}

// P20.2

func TestProofsOfEveryRange(t *testing.T) {
	for _, n := range fewNumbers() {
		for _, l := range lists(n) {
			root := rootByLevels(l)
			for i := range n {
				for j := i; j < n; j++ {
					what := ranged(n, i, j)
					proof := proved(t, l, i, j)
					wantList(t, "Prove of "+what, proof, proofAsSaid(l, i, j))
					wantBytes(t, "Rebuild of "+what, rebuilt(t, n, i, l[i:j+1], proof), root)
					wantVerified(t, what, true, root, n, i, l[i:j+1], proof)
				}
			}
		}
	}
}

func TestProofsByHand(t *testing.T) {
	l := leavesOf(11)
	two := func(k int) []byte { return Node(l[k], l[k+1]) }
	four := func(k int) []byte { return Node(two(k), two(k+2)) }
	eight, three := Node(four(0), four(4)), Node(two(8), l[10])
	for _, x := range []struct {
		i, j int
		want [][]byte
	}{
		{0, 0, [][]byte{l[1], two(2), four(4), three}},
		{1, 1, [][]byte{l[0], two(2), four(4), three}},
		{0, 1, [][]byte{two(2), four(4), three}},
		{2, 3, [][]byte{two(0), four(4), three}},
		{1, 2, [][]byte{l[0], l[3], four(4), three}},
		{0, 3, [][]byte{four(4), three}},
		{4, 7, [][]byte{four(0), three}},
		{3, 4, [][]byte{two(0), l[2], l[5], two(6), three}},
		{5, 8, [][]byte{four(0), l[4], l[9], l[10]}},
		{7, 7, [][]byte{four(0), two(4), l[6], three}},
		{0, 7, [][]byte{three}},
		{1, 9, [][]byte{l[0], l[10]}},
		{8, 8, [][]byte{eight, l[9], l[10]}},
		{8, 9, [][]byte{eight, l[10]}},
		{9, 10, [][]byte{eight, l[8]}},
		{10, 10, [][]byte{eight, two(8)}},
		{8, 10, [][]byte{eight}},
		{0, 9, [][]byte{l[10]}},
		{1, 10, [][]byte{l[0]}},
		{0, 10, nil},
	} {
		wantList(t, "Prove of "+ranged(11, x.i, x.j), proved(t, l, x.i, x.j), x.want)
	}
	wantBytes(t, "Root of eleven", Root(l), Node(eight, three))
}

func TestProofsAboutGreaterPowersOfTwo(t *testing.T) {
	for _, n := range []int{63, 64, 65, 127, 128, 129, 255, 256, 257, 1000} {
		l := leavesOf(n)
		root := rootByLevels(l)
		k := firstAsSaid(n)
		for _, x := range [][2]int{{0, 0}, {n - 1, n - 1}, {0, n - 1}, {0, n - 2}, {1, n - 1}, {1, n - 2}, {0, k - 1}, {k, n - 1}, {k - 1, k}, {k - 1, k - 1}, {k, k}, {n / 3, n / 2}} {
			i, j := x[0], max(x[0], x[1])
			proof := proved(t, l, i, j)
			wantList(t, "Prove of "+ranged(n, i, j), proof, proofAsSaid(l, i, j))
			wantBytes(t, "Rebuild of "+ranged(n, i, j), rebuilt(t, n, i, l[i:j+1], proof), root)
			wantVerified(t, ranged(n, i, j), true, root, n, i, l[i:j+1], proof)
		}
	}
}

func TestProofOfAllPlacesIsNothing(t *testing.T) {
	for _, n := range numbers() {
		if n == 0 {
			continue
		}
		l := leavesOf(n)
		wantList(t, "Prove of "+ranged(n, 0, n-1), proved(t, l, 0, n-1), nil)
		wantBytes(t, "Rebuild of all", rebuilt(t, n, 0, l, nil), rootByLevels(l))
		wantBytes(t, "Rebuild of all", rebuilt(t, n, 0, l, [][]byte{}), rootByLevels(l))
	}
}

func TestProveOfWrongPlaces(t *testing.T) {
	for _, n := range []int{1, 2, 3, 4, 8, 11} {
		for _, l := range lists(n) {
			for _, i := range []int{-1, -2, -n, -n - 1, math.MinInt32, math.MinInt + 1, math.MinInt} {
				for _, j := range []int{0, n - 1, n, -1, i, math.MaxInt} {
					wantNoProof(t, "i below 0", l, i, j)
				}
			}
			for i := range n {
				for j := -1; j < i; j++ {
					wantNoProof(t, "i beyond j", l, i, j)
				}
				wantNoProof(t, "j below 0", l, i, math.MinInt)
			}
			for _, j := range []int{n, n + 1, 2 * n, 1 << 20, math.MaxInt32, 1<<32 + n - 1, math.MaxInt - 1, math.MaxInt} {
				for _, i := range []int{0, n - 1, n, j, math.MaxInt} {
					wantNoProof(t, "j beyond the last place", l, i, j)
				}
			}
			wantNoProof(t, "least and greatest", l, math.MinInt, math.MaxInt)
			wantNoProof(t, "greatest and least", l, math.MaxInt, math.MinInt)
		}
	}
}

func TestProveOfNoLeaves(t *testing.T) {
	for _, none := range [][][]byte{nil, {}, leavesOf(3)[1:1]} {
		for _, i := range []int{0, -1, 1, math.MinInt, math.MaxInt} {
			for _, j := range []int{0, -1, 1, math.MinInt, math.MaxInt} {
				wantNoProof(t, "no leaves", none, i, j)
			}
		}
	}
}

// P20.3

func TestRebuildOfWhatNobodyProved(t *testing.T) {
	for n := 1; n <= 20; n++ {
		for i := range n {
			for m := 1; m <= n-i; m++ {
				told := lengthAsSaid(n, i, i+m-1)
				wantRoot(t, n, i, leavesOf(m), leavesOf(50)[50-told:])
				wantRoot(t, n, i, otherLengths(m), otherLengths(told))
				wantRoot(t, n, i, make([][]byte, m), make([][]byte, told))
			}
		}
	}
}

func TestRebuildOfOnePlace(t *testing.T) {
	for _, leaf := range [][]byte{mixed(32, 1), mixed(5, 1), mixed(100, 1), {}, nil} {
		wantBytes(t, "Rebuild of one place", rebuilt(t, 1, 0, [][]byte{leaf}, nil), leaf)
		wantVerified(t, "one place", true, leaf, 1, 0, [][]byte{leaf}, nil)
		wantVerified(t, "one place, by its Leaf", false, Leaf(leaf), 1, 0, [][]byte{leaf}, nil)
		wantNoRoot(t, "one place", 1, 0, [][]byte{leaf}, [][]byte{leaf}, api.ErrProof)
		wantNoRoot(t, "one place", 1, 0, [][]byte{leaf}, [][]byte{nil}, api.ErrProof)
		wantNoRoot(t, "one place", 1, 0, [][]byte{leaf, leaf}, nil, api.ErrArg)
		wantNoRoot(t, "one place", 1, 1, [][]byte{leaf}, nil, api.ErrArg)
	}
	wantVerified(t, "one place of no bytes, by nil", true, nil, 1, 0, [][]byte{{}}, nil)
	wantVerified(t, "one place that is nil, by no bytes", true, []byte{}, 1, 0, [][]byte{nil}, nil)
}

// greatNumbers are numbers of places of which nobody lays all leaves.
func greatNumbers() []int {
	return []int{api.MaxChunks, api.MaxChunks - 1, 1<<19 + 1, 1 << 19, 1<<19 - 1, 1<<20 - 1<<10, 699051, 70000}
}

// places are some of a great n: about its ends, and about where it is parted.
func places(n int) []int {
	k := firstAsSaid(n)
	return []int{0, 1, 2, k/2 - 1, k / 2, k - 2, k - 1, min(k, n-3), n / 3, n - 3, n - 2, n - 1}
}

func TestRebuildOfManyPlaces(t *testing.T) {
	for _, n := range greatNumbers() {
		for _, i := range places(n) {
			for m := 1; m <= 3 && m <= n-i; m++ {
				told := lengthAsSaid(n, i, i+m-1)
				l, proof := leavesOf(m), leavesOf(60)[60-told:]
				wantRoot(t, n, i, l, proof)
				wantNoRoot(t, "one less", n, i, l, proof[1:], api.ErrProof)
				wantNoRoot(t, "one more", n, i, l, append(proof, l[0]), api.ErrProof)
			}
			wantNoRoot(t, "no proof", n, i, leavesOf(3)[:min(3, n-i)], nil, api.ErrProof)
		}
		wantNoRoot(t, "beyond", n, n-1, leavesOf(2), nil, api.ErrArg)
		wantNoRoot(t, "beyond", n, n, leavesOf(1), nil, api.ErrArg)
	}
}

// halves are the tops of 1, 2, 4 and so on up to 2^20 leaves that are all the same.
func halves(leaf []byte) [][]byte {
	out := [][]byte{leaf}
	for range 20 {
		last := out[len(out)-1]
		out = append(out, nodeAsSaid(last, last))
	}
	return out
}

// oneOfHalves is the proof of place i of these: what stands on the left, the greatest first, and what stands on the right, the least first.
func oneOfHalves(tops [][]byte, i int) [][]byte {
	var left, right [][]byte
	for bit := range 20 {
		if i>>bit&1 == 1 {
			left = append([][]byte{tops[bit]}, left...)
		} else {
			right = append(right, tops[bit])
		}
	}
	return append(left, right...)
}

// Beyond 2^20 leaves Rebuild takes none, but Root and Prove do.
func TestAsManyLeavesAsThereMayBe(t *testing.T) {
	tops := halves(Leaf(nil))
	all := slices.Repeat(tops[:1], api.MaxChunks)
	want := unhex(t, "10d6c4230824825e7296a4297b43de9bb3df9f42b4b9cd650a39b44fabb22afb") // another program's
	wantBytes(t, "the top of 2^20 by halves", tops[20], want)
	wantBytes(t, "Rebuild of all", rebuilt(t, api.MaxChunks, 0, all, nil), want)
	for _, i := range []int{0, 1, 700001, 1<<19 - 1, 1 << 19, 1<<20 - 1} {
		wantVerified(t, ranged(1<<20, i, i), true, want, api.MaxChunks, i, all[i:i+1], oneOfHalves(tops, i))
	}
	wantList(t, "Prove of one of 2^20", proved(t, all, 700001, 700001), oneOfHalves(tops, 700001))
	more := append(all, mixed(32, 1))
	wantBytes(t, "Root of one more", Root(more), nodeAsSaid(want, mixed(32, 1)))
	wantList(t, "Prove of one beyond", proved(t, more, api.MaxChunks, api.MaxChunks), [][]byte{want})
	wantNoRoot(t, "one beyond", api.MaxChunks+1, api.MaxChunks, more[api.MaxChunks:], [][]byte{want}, api.ErrArg)
	wantNoRoot(t, "one beyond", api.MaxChunks, api.MaxChunks, more[api.MaxChunks:], [][]byte{want}, api.ErrArg)
}

// Some of these n are right ones in their lowest bits.
func TestRebuildOfWrongNumbersOfPlaces(t *testing.T) {
	for _, n := range []int{0, -1, -2, -11, math.MinInt32, math.MinInt, math.MinInt + 1, api.MaxChunks + 1, api.MaxChunks + 2, 1 << 21, math.MaxInt32, 1<<32 + 1, 1<<32 + 11, math.MaxInt - 1, math.MaxInt} {
		for _, i := range []int{0, 1, -1, n - 1, n, 1<<20 - 1, math.MinInt, math.MaxInt} {
			for _, m := range []int{0, 1, 2, 11} {
				for told := range 4 {
					wantNoRoot(t, "a wrong n", n, i, leavesOf(m), leavesOf(told), api.ErrArg)
				}
				wantNoRoot(t, "a wrong n", n, i, leavesOf(m), leavesOf(21), api.ErrArg)
			}
		}
	}
}

func TestRebuildOfNoLeaves(t *testing.T) {
	for _, n := range []int{1, 2, 3, 11, api.MaxChunks, 0, -1, math.MaxInt} {
		for _, i := range []int{0, 1, n - 1, n, -1, math.MinInt, math.MaxInt} {
			for told := range 3 {
				wantNoRoot(t, "nil", n, i, nil, leavesOf(told), api.ErrArg)
				wantNoRoot(t, "no leaves", n, i, [][]byte{}, leavesOf(told), api.ErrArg)
				wantNoRoot(t, "no leaves, with some behind", n, i, leavesOf(3)[1:1], leavesOf(told), api.ErrArg)
			}
		}
	}
}

// Where i and the leaves are more than the greatest int together, or are a place again by wrapping round, they are none.
func TestRebuildOfPlacesBeyond(t *testing.T) {
	for _, n := range []int{1, 2, 3, 4, 5, 8, 11, api.MaxChunks - 1, api.MaxChunks} {
		for _, m := range []int{1, 2, 3, 8, 11, 12} {
			l := leavesOf(m)
			for _, i := range []int{-1, -2, -m, -n, math.MinInt32, math.MinInt, math.MinInt + 1, math.MinInt + m, -1 << 32} {
				wantNoRoot(t, "i below 0", n, i, l, nil, api.ErrArg)
				wantNoRoot(t, "i below 0", n, i, l, leavesOf(1), api.ErrArg)
			}
			for _, i := range []int{n - m + 1, n - m + 2, n - 1, n, n + 1, 1 << 20, math.MaxInt32, 1 << 32, math.MaxInt - m, math.MaxInt - m + 1, math.MaxInt - 1, math.MaxInt} {
				if i > n-m {
					wantNoRoot(t, "beyond", n, i, l, nil, api.ErrArg)
					wantNoRoot(t, "beyond", n, i, l, leavesOf(1), api.ErrArg)
				}
			}
		}
	}
}

func TestRebuildOfProofsThatDoNotFit(t *testing.T) {
	for _, n := range fewNumbers() {
		l := leavesOf(n)
		for i := range n {
			for j := i; j < n; j++ {
				asked, proof := l[i:j+1], proofAsSaid(l, i, j)
				told := len(proof)
				wantNoRoot(t, "one more behind", n, i, asked, append(slices.Clone(proof), mixed(32, 1)), api.ErrProof)
				wantNoRoot(t, "one more ahead", n, i, asked, append([][]byte{mixed(32, 1)}, proof...), api.ErrProof)
				wantNoRoot(t, "nil more", n, i, asked, append(slices.Clone(proof), nil), api.ErrProof)
				wantNoRoot(t, "no bytes more", n, i, asked, append(slices.Clone(proof), []byte{}), api.ErrProof)
				wantNoRoot(t, "twice as many", n, i, asked, slices.Repeat(append(proof, mixed(32, 1)), 2), api.ErrProof)
				wantNoRoot(t, "all leaves", n, i, asked, leavesOf(2*n+told+1), api.ErrProof)
				if told == 0 {
					continue
				}
				wantNoRoot(t, "the last one less", n, i, asked, proof[:told-1], api.ErrProof)
				wantNoRoot(t, "the first one less", n, i, asked, proof[1:], api.ErrProof)
				wantNoRoot(t, "none", n, i, asked, [][]byte{}, api.ErrProof)
				wantNoRoot(t, "nil", n, i, asked, nil, api.ErrProof)
			}
		}
	}
}

// A wrong number is told ahead of a wrong proof, and beside neither is a root.
func TestTheFirstErrorIsTold(t *testing.T) {
	l := leavesOf(5)
	wantNoRoot(t, "n and proof", 0, 0, l[:1], l[:3], api.ErrArg)
	wantNoRoot(t, "i and proof", 5, -1, l[:1], l, api.ErrArg)
	wantNoRoot(t, "leaves and proof", 5, 0, nil, l, api.ErrArg)
	wantNoRoot(t, "too many leaves and proof", 4, 0, l, l, api.ErrArg)
	wantNoRoot(t, "the proof alone", 5, 0, l, l, api.ErrProof)
}

// Verify

// verifiable is what Verify says true of.
type verifiable struct {
	root          []byte
	n, i          int
	leaves, proof [][]byte
}

func (x verifiable) String() string { return ranged(x.n, x.i, x.i+len(x.leaves)-1) }

func (x verifiable) verify() bool { return Verify(x.root, x.n, x.i, x.leaves, x.proof) }

// entries are all byte strings of leaves and proof; what stands in them may be exchanged by place.
func (x verifiable) entries() []*[]byte {
	var out []*[]byte
	for k := range x.leaves {
		out = append(out, &x.leaves[k])
	}
	for k := range x.proof {
		out = append(out, &x.proof[k])
	}
	return out
}

// verifiables are all ranges of n leaves, each with lists of its own.
func verifiables(n int) []verifiable {
	var out []verifiable
	for i := range n {
		for j := i; j < n; j++ {
			l := leavesOf(n)
			out = append(out, verifiable{rootByLevels(l), n, i, cloned(l[i : j+1]), proofAsSaid(l, i, j)})
		}
	}
	return out
}

func cloned(list [][]byte) [][]byte {
	var out [][]byte
	for _, b := range list {
		out = append(out, slices.Clone(b))
	}
	return out
}

func wantFalse(t *testing.T, what string, x verifiable) {
	t.Helper()
	if x.verify() {
		t.Errorf("Verify of %v with %s says true", x, what)
	}
}

func TestVerifyWithAnotherRoot(t *testing.T) {
	for _, n := range []int{1, 2, 3, 4, 5, 8, 11} {
		for _, x := range verifiables(n) {
			if !x.verify() {
				t.Errorf("Verify of %v says false", x)
			}
			root := x.root
			for bit := range 256 {
				x.root = slices.Clone(root)
				x.root[bit/8] ^= 1 << (bit % 8)
				wantFalse(t, "a root that is turned", x)
			}
			for _, other := range [][]byte{nil, {}, root[:31], root[1:], root[:1], append(slices.Clone(root), 0), append([]byte{0}, root...), slices.Concat(root, root), sha.Sum(nil), make([]byte, 32), Leaf(root), sha.Sum(root), rootByLevels(leavesOf(n + 1))} {
				x.root = other
				wantFalse(t, fmt.Sprint("the root ", other), x)
			}
		}
	}
}

func TestVerifyWithABitTurned(t *testing.T) {
	for _, n := range []int{1, 2, 3, 4, 5, 6, 7} {
		for _, x := range verifiables(n) {
			for _, entry := range x.entries() {
				for bit := range 256 {
					(*entry)[bit/8] ^= 1 << (bit % 8)
					wantFalse(t, "a bit turned", x)
					(*entry)[bit/8] ^= 1 << (bit % 8)
				}
			}
			if !x.verify() {
				t.Errorf("Verify of %v, turned back, says false", x)
			}
		}
	}
}

func TestVerifyWithABitTurnedAmongMany(t *testing.T) {
	for _, n := range []int{8, 9, 16, 17, 33} {
		for k, x := range verifiables(n) {
			for at, entry := range x.entries() {
				bit := (k*31 + at*7) % 256
				(*entry)[bit/8] ^= 1 << (bit % 8)
				wantFalse(t, "a bit turned", x)
				(*entry)[bit/8] ^= 1 << (bit % 8)
			}
		}
	}
}

func TestVerifyWithOtherBytesInAPlace(t *testing.T) {
	for _, n := range []int{1, 2, 3, 5, 8, 11} {
		for _, x := range verifiables(n) {
			for _, entry := range x.entries() {
				before := *entry
				for _, other := range [][]byte{nil, {}, before[:31], before[1:], append(slices.Clone(before), 0), make([]byte, 32), Leaf(before), x.root} {
					*entry = other
					if !bytes.Equal(other, before) {
						wantFalse(t, fmt.Sprint("the bytes ", other), x)
					}
				}
				*entry = before
			}
		}
	}
}

func TestVerifyWithTwoExchanged(t *testing.T) {
	for _, n := range []int{2, 3, 4, 5, 6, 7, 8, 9, 11, 16, 17} {
		for _, x := range verifiables(n) {
			all := x.entries()
			for a := range all {
				for b := range a {
					*all[a], *all[b] = *all[b], *all[a]
					wantFalse(t, fmt.Sprint(a, " and ", b, " exchanged"), x)
					*all[a], *all[b] = *all[b], *all[a]
				}
			}
		}
	}
}

// Where the walk makes the same of another i or another n, nobody can tell them apart, and Verify says true.
func TestVerifyWithAnotherPlaceOrNumber(t *testing.T) {
	same, others := 0, 0
	for n := 1; n <= 12; n++ {
		for _, x := range verifiables(n) {
			shape := shapeAsSaid(0, n, x.i, x.i+len(x.leaves)-1)
			for otherN := -1; otherN <= 35; otherN++ {
				for otherI := -1; otherI <= otherN+1; otherI++ {
					want := argsAsSaid(otherN, otherI, len(x.leaves)) && shapeAsSaid(0, otherN, otherI, otherI+len(x.leaves)-1) == shape
					if want {
						same++
					} else {
						others++
					}
					wantVerified(t, fmt.Sprint(x, ", told as from ", otherI, " on, of ", otherN), want, x.root, otherN, otherI, x.leaves, x.proof)
				}
			}
		}
	}
	if same < 1000 || others < 10000 {
		t.Errorf("%d were the same and %d others: the test asks too little", same, others)
	}
}

func TestVerifyWithAnotherPlaceByHand(t *testing.T) {
	l := leavesOf(4)
	root, proof := Root(l), proofAsSaid(l, 1, 1)
	wantVerified(t, "place 1", true, root, 4, 1, l[1:2], proof)
	for _, i := range []int{0, 2, 3, 4, -1} {
		wantVerified(t, fmt.Sprint("place 1 as ", i), false, root, 4, i, l[1:2], proof)
	}
	for _, n := range []int{0, 1, 2, 5, 6, 8, -4} {
		wantVerified(t, fmt.Sprint("4 places as ", n), false, root, n, 1, l[1:2], proof)
	}
	wantVerified(t, "the first of 5 as of 6", true, Root(leavesOf(5)), 6, 0, l[:1], proofAsSaid(leavesOf(5), 0, 0))
	wantVerified(t, "two as one", false, Root(l), 4, 0, [][]byte{Node(l[0], l[1])}, proofAsSaid(l, 0, 1))
	wantVerified(t, "two as one of two", true, Root(l), 2, 0, [][]byte{Node(l[0], l[1])}, proofAsSaid(l, 0, 1))
}

func TestVerifyWithFewerOrMoreLeaves(t *testing.T) {
	for _, n := range []int{2, 3, 4, 5, 8, 11} {
		for _, x := range verifiables(n) {
			leaves := x.leaves
			x.leaves = leaves[1:]
			wantFalse(t, "the first leaf less", x)
			x.leaves = leaves[:len(leaves)-1]
			wantFalse(t, "the last leaf less", x)
			x.leaves = append(slices.Clone(leaves), mixed(32, 1))
			wantFalse(t, "one leaf more", x)
			x.leaves = append(slices.Clone(leaves), x.proof...)
			if len(x.proof) > 0 {
				wantFalse(t, "the proof among the leaves", x)
			}
		}
	}
}

// P20.4

func TestVerifySaysTrueOfProve(t *testing.T) {
	for _, n := range fewNumbers() {
		for _, l := range lists(n) {
			root := Root(l)
			for i := range n {
				for j := i; j < n; j++ {
					wantVerified(t, ranged(n, i, j), true, root, n, i, l[i:j+1], proved(t, l, i, j))
				}
			}
		}
	}
}

// bitsOf is how many bits a number has.
func bitsOf(n int) int { return len(fmt.Sprintf("%b", n)) }

func TestHowManyAProofHas(t *testing.T) {
	for n := 1; n <= 40; n++ {
		l := leavesOf(n)
		for i := range n {
			for j := i; j < n; j++ {
				if got := len(proved(t, l, i, j)); got > 2*bitsOf(n) {
					t.Errorf("Prove of %s: %d tops", ranged(n, i, j), got)
				}
			}
		}
	}
}

// Rebuild takes just as many as the walk tells: so the one number that it takes is the proof's.
func TestHowManyAProofOfManyPlacesHas(t *testing.T) {
	for _, n := range greatNumbers() {
		for _, i := range places(n) {
			for m := 1; m <= 3 && m <= n-i; m++ {
				var taken []int
				for told := range 60 {
					if _, e := Rebuild(n, i, leavesOf(m), make([][]byte, told)); e == api.OK {
						taken = append(taken, told)
					}
				}
				if len(taken) != 1 || taken[0] > 2*bitsOf(n) {
					t.Errorf("Rebuild of %s takes proofs of %v tops", ranged(n, i, i+m-1), taken)
				}
			}
		}
	}
}

// Most are told where a range lies about the middle: one less on each side of it for each bit.
func TestTheLongestProof(t *testing.T) {
	for _, x := range []struct{ n, i, m, told int }{
		{1, 0, 1, 0}, {2, 0, 1, 1}, {4, 1, 2, 2}, {8, 3, 2, 4}, {16, 7, 2, 6}, {1 << 10, 511, 2, 18}, {api.MaxChunks, 1<<19 - 1, 2, 38}, {api.MaxChunks, 0, 1, 20}, {api.MaxChunks, 1<<20 - 1, 1, 20},
	} {
		l, proof := leavesOf(x.m), leavesOf(x.told)
		wantRoot(t, x.n, x.i, l, proof)
		rebuilt(t, x.n, x.i, l, proof)
		if x.told > 2*bitsOf(x.n) {
			t.Errorf("%d tops for %d places", x.told, x.n)
		}
	}
}

// twoOfOneSum: do two texts that differ, at the same place of two trees, have the same sum? None are known, so that this is never to be seen.
func twoOfOneSum(one, other [][]byte) bool {
	for k := range one {
		if !bytes.Equal(one[k], other[k]) && bytes.Equal(sha.Sum(one[k]), sha.Sum(other[k])) {
			return true
		}
	}
	return false
}

// Every leaf and every top stands in one text, at its place, and every text but the last one's sum stands in another: so two lists with one root have a pair of texts with one sum.
func TestEveryLeafAndTopStandsInAText(t *testing.T) {
	for n := 2; n <= 17; n++ {
		for _, x := range verifiables(n) {
			texts := textsAsSaid(n, x.i, x.leaves, x.proof)
			if len(texts) != len(x.leaves)+len(x.proof)-1 {
				t.Fatalf("%v: %d texts of %d leaves and %d tops", x, len(texts), len(x.leaves), len(x.proof))
			}
			all := append(cloned(x.leaves), x.proof...)
			for _, text := range texts[:len(texts)-1] {
				all = append(all, sha.Sum(text))
			}
			for _, each := range all {
				count := 0
				for _, text := range texts {
					if len(text) == 65 && text[0] == 1 && (bytes.Equal(text[1:33], each) || bytes.Equal(text[33:], each)) {
						count++
					}
				}
				if count != 1 {
					t.Errorf("%v: %x stands in %d texts", x, each, count)
				}
			}
			wantBytes(t, "the last text's sum", rebuilt(t, n, x.i, x.leaves, x.proof), sha.Sum(texts[len(texts)-1]))
		}
	}
}

// some are byte strings of 32 bytes of which few differ, so that lists are often nearly the same.
func some(random *rand.Rand, n int) [][]byte {
	var out [][]byte
	for range n {
		out = append(out, mixed(32, byte(random.Intn(3))))
	}
	return out
}

func equalLists(a, b [][]byte) bool { return slices.EqualFunc(a, b, bytes.Equal) }

func TestTwoThatDifferHaveTwoRoots(t *testing.T) {
	random := rand.New(rand.NewSource(20))
	same, others := 0, 0
	for range 20000 {
		n := 1 + random.Intn(12)
		i := random.Intn(n)
		m := 1 + random.Intn(n-i)
		told := lengthAsSaid(n, i, i+m-1)
		l, proof := some(random, m), some(random, told)
		otherL, otherProof := some(random, m), some(random, told)
		one, other := rebuilt(t, n, i, l, proof), rebuilt(t, n, i, otherL, otherProof)
		if equalLists(l, otherL) && equalLists(proof, otherProof) {
			same++
			wantBytes(t, "the root of the same", one, other)
			continue
		}
		others++
		if bytes.Equal(one, other) && !twoOfOneSum(textsAsSaid(n, i, l, proof), textsAsSaid(n, i, otherL, otherProof)) {
			t.Errorf("two of %s have the same root, and no two texts have the same sum", ranged(n, i, i+m-1))
		}
	}
	if same < 500 || others < 10000 {
		t.Errorf("%d were the same and %d others: the test asks too little", same, others)
	}
}

// Without 32 bytes each, lists that differ may have the same root: the chapter speaks of no others.
func TestOtherLengthsMayHaveOneRoot(t *testing.T) {
	ab := [][]byte{[]byte("ab"), []byte("c")}
	bc := [][]byte{[]byte("a"), []byte("bc")}
	wantVerified(t, "ab c", true, Root(bc), 2, 0, ab, nil)
	wantVerified(t, "a and its proof", true, Root(ab), 2, 0, bc[:1], bc[1:])
	wantVerified(t, "a b c", false, Root(ab), 3, 0, [][]byte{[]byte("a"), []byte("b"), []byte("c")}, nil)
}

// R3

// withRoom are b's bytes with others behind them in the same memory, which are no call's either.
func withRoom(b []byte) []byte {
	all := slices.Clip(append(slices.Clone(b), repeated(99, 100)...))
	return all[:len(b)]
}

// listWithRoom is a list of such bytes, with others of them behind it.
func listWithRoom(list [][]byte) [][]byte {
	var all [][]byte
	for _, b := range list {
		all = append(all, withRoom(b))
	}
	all = slices.Clip(append(all, repeated(98, 50), repeated(97, 50)))
	return all[:len(list)]
}

// handed is what the calls are handed.
type handed struct {
	b, other      []byte
	leaves, proof [][]byte
}

func (h handed) withRoom() handed {
	return handed{withRoom(h.b), withRoom(h.other), listWithRoom(h.leaves), listWithRoom(h.proof)}
}

// all are all bytes of it, those behind its ends among them.
func (h handed) all() [][]byte {
	out := [][]byte{h.b[:cap(h.b)], h.other[:cap(h.other)]}
	for _, list := range [][][]byte{h.leaves, h.proof} {
		for _, b := range list[:cap(list)] {
			out = append(out, b[:cap(b)])
		}
	}
	return out
}

// turn changes all bytes of it, and exchanges what stands in its lists.
func (h handed) turn() {
	for _, b := range h.all() {
		for k := range b {
			b[k] ^= 255
		}
	}
	for _, list := range [][][]byte{h.leaves, h.proof} {
		slices.Reverse(list[:cap(list)])
	}
}

// call is one of the package's, with what it is handed.
type call struct {
	what string
	h    handed
	ask  func(h handed) [][]byte
}

// someRange is a range in n leaves, its first place and its last one.
func someRange(n int) (int, int) { return n / 3, n / 3 * 2 }

func calls() []call {
	out := []call{
		{"Leaf", handed{b: mixed(40, 1)}, func(h handed) [][]byte { return [][]byte{Leaf(h.b)} }},
		{"Leaf of nothing", handed{}, func(h handed) [][]byte { return [][]byte{Leaf(h.b)} }},
		{"Node", handed{b: mixed(32, 1), other: mixed(32, 2)}, func(h handed) [][]byte { return [][]byte{Node(h.b, h.other)} }},
		{"Node of two lengths", handed{b: mixed(3, 1), other: mixed(70, 2)}, func(h handed) [][]byte { return [][]byte{Node(h.b, h.other)} }},
		{"Root of none", handed{}, func(h handed) [][]byte { return [][]byte{Root(h.leaves)} }},
	}
	for _, n := range []int{1, 2, 3, 4, 5, 8, 11, 17} {
		i, j := someRange(n)
		for kind, l := range [][][]byte{leavesOf(n), otherLengths(n), slices.Repeat([][]byte{mixed(32, 1)}, n)} {
			name := fmt.Sprint(" of ", n, " leaves of kind ", kind)
			all, some := handed{leaves: l}, handed{b: rootByLevels(l), leaves: l[i : j+1], proof: proofAsSaid(l, i, j)}
			out = append(out,
				call{"Root" + name, all, func(h handed) [][]byte { return [][]byte{Root(h.leaves)} }},
				call{"Prove" + name, all, func(h handed) [][]byte { return first(Prove(h.leaves, i, j)) }},
				call{"Prove of one" + name, all, func(h handed) [][]byte { return first(Prove(h.leaves, j, j)) }},
				call{"Rebuild" + name, some, func(h handed) [][]byte { return [][]byte{first(Rebuild(n, i, h.leaves, h.proof))} }},
				call{"Rebuild of all" + name, all, func(h handed) [][]byte { return [][]byte{first(Rebuild(n, 0, h.leaves, nil))} }},
				call{"Verify" + name, some, func(h handed) [][]byte { return told(Verify(h.b, n, i, h.leaves, h.proof)) }},
			)
		}
	}
	return out
}

// first is a call's answer beside its error; that there is none is asked elsewhere.
func first[T any](answer T, _ api.Errno) T { return answer }

func told(ok bool) [][]byte {
	if ok {
		return [][]byte{{1}}
	}
	return nil
}

func TestWhatIsHandedInIsNotChanged(t *testing.T) {
	for _, x := range calls() {
		h := x.h.withRoom()
		before := cloned(h.all())
		x.ask(h)
		wantList(t, x.what+": what was handed in", h.all(), before)
	}
}

func TestWhatIsRefusedIsNotChanged(t *testing.T) {
	h := handed{b: mixed(32, 1), leaves: leavesOf(4), proof: leavesOf(7)}.withRoom()
	before := cloned(h.all())
	Prove(h.leaves, 3, 2)
	Prove(h.leaves, 0, 4)
	Rebuild(3, 0, h.leaves, h.proof)
	Rebuild(5, 0, h.leaves, h.proof)
	Rebuild(5, 0, h.leaves, nil)
	Verify(h.b, 5, 1, h.leaves, h.proof)
	Verify(h.b, 5, 1, h.leaves, h.proof[:1])
	wantList(t, "what was refused", h.all(), before)
}

func TestWhatIsHandedInIsNotKept(t *testing.T) {
	for _, x := range calls() {
		h := x.h.withRoom()
		want := cloned(x.ask(x.h))
		answer := x.ask(h)
		wantList(t, x.what, answer, want)
		h.turn()
		wantList(t, x.what+", of what is changed behind the call", answer, want)
		wantList(t, x.what+", asked once more", x.ask(x.h), want)
	}
}

func TestListsAsTheyAreNow(t *testing.T) {
	l := leavesOf(11)
	Root(l)
	proved(t, l, 3, 5)
	l[7][3] ^= 1
	l[0], l[1] = l[1], l[0]
	wantBytes(t, "Root of what has changed", Root(l), rootByLevels(l))
	proof := proved(t, l, 3, 5)
	wantList(t, "Prove of what has changed", proof, proofAsSaid(l, 3, 5))
	wantVerified(t, "what has changed", true, rootByLevels(l), 11, 3, l[3:6], proof)
	proof[0][0] ^= 1
	wantVerified(t, "a proof that has changed", false, rootByLevels(l), 11, 3, l[3:6], proof)
}

// overwrite changes an answer's bytes, and all the memory behind them that it reaches.
func overwrite(held []byte) { _ = append(held[:0:cap(held)], repeated(77, cap(held))...) }

// overwriteAll does so with every one of a list, and with the list itself.
func overwriteAll(list [][]byte) {
	for _, held := range list {
		overwrite(held)
	}
	for k := range list[:cap(list)] {
		list[:cap(list)][k] = repeated(76, 32)
	}
}

func TestAnAnswerIsItsHoldersOwn(t *testing.T) {
	for _, x := range calls() {
		h := x.h.withRoom()
		before := cloned(h.all())
		want := cloned(x.ask(h))
		held, another := x.ask(h), x.ask(h)
		overwriteAll(held)
		wantList(t, x.what+": another answer", another, want)
		wantList(t, x.what+": what was handed in", h.all(), before)
		wantList(t, x.what+": one that is asked later", x.ask(h), want)
	}
}

func TestNoTwoTopsOfAProofShareMemory(t *testing.T) {
	for _, n := range []int{3, 5, 8, 11, 17, 33} {
		one := withRoom(mixed(32, 1))
		for _, l := range [][][]byte{leavesOf(n), slices.Repeat([][]byte{one}, n)} {
			i, j := someRange(n)
			for k := range proofAsSaid(l, i, j) {
				want := proofAsSaid(l, i, j)
				got := proved(t, l, i, j)
				overwrite(got[k])
				_ = append(got[k], repeated(75, 100)...)
				got[k], want[k] = nil, nil
				wantList(t, "the other tops", got, want)
			}
			wantList(t, "Prove once more", proved(t, l, i, j), proofAsSaid(l, i, j))
		}
		wantBytes(t, "the one leaf", one[:cap(one)], withRoom(mixed(32, 1))[:132])
	}
}

func TestNothingOfALeafStandsBehindAnAnswer(t *testing.T) {
	leaf := withRoom(mixed(32, 1))
	other := withRoom(mixed(5, 1))
	before := cloned(handed{leaf, other, nil, nil}.all())
	_ = append(Root([][]byte{leaf}), 66)
	_ = append(Root([][]byte{other[:0]}), 66)
	_ = append(rebuilt(t, 1, 0, [][]byte{leaf}, nil), 66)
	_ = append(rebuilt(t, 1, 0, [][]byte{other[:0]}, nil), 66)
	for _, top := range proved(t, [][]byte{other, leaf, other[:0]}, 1, 1) {
		_ = append(top, 66)
	}
	wantList(t, "the leaves, whose answers are appended to", handed{leaf, other, nil, nil}.all(), before)
}

func TestNothingIsKeptBetweenCalls(t *testing.T) {
	for _, x := range calls() {
		want := cloned(x.ask(x.h))
		Root(leavesOf(7))
		Prove(leavesOf(9), 2, 3)
		Prove(nil, 0, 0)
		Rebuild(9, 2, leavesOf(2), leavesOf(1))
		Rebuild(2, 0, leavesOf(1), leavesOf(1))
		Verify(nil, 1, 0, leavesOf(1), nil)
		wantList(t, x.what+" once more", x.ask(x.h), want)
	}
}

// R1

// holdAll holds what all calls answer against the chapter's words, whatever is handed in.
func holdAll(t *testing.T, root []byte, n, i, j int, leaves, proof [][]byte) {
	t.Helper()
	wantBytes(t, "Leaf", Leaf(root), leafAsSaid(root))
	if len(leaves) > 0 {
		wantBytes(t, "Node", Node(root, leaves[0]), nodeAsSaid(root, leaves[0]))
	}
	wantBytes(t, "Root", Root(leaves), rootByLevels(leaves))
	wantRoot(t, n, i, leaves, proof)
	want, e := rebuildAsSaid(n, i, leaves, proof)
	wantVerified(t, "some root", e == api.OK && bytes.Equal(root, want), root, n, i, leaves, proof)
	if i < 0 || i > j || j >= len(leaves) {
		wantNoProof(t, "as said", leaves, i, j)
		return
	}
	told := proved(t, leaves, i, j)
	wantList(t, "Prove", told, proofAsSaid(leaves, i, j))
	wantRoot(t, len(leaves), i, leaves[i:j+1], told)
}

// cut are bytes cut into byte strings: ahead of each stands a byte that tells how many it has, at most; 255 is nil.
func cut(b []byte) [][]byte {
	var out [][]byte
	for len(b) > 0 {
		n := min(int(b[0]), len(b)-1)
		if b[0] == 255 {
			out = append(out, nil)
			b = b[1:]
			continue
		}
		out = append(out, b[1:1+n])
		b = b[1+n:]
	}
	return out
}

func TestNothingPanics(t *testing.T) {
	random := rand.New(rand.NewSource(2000))
	for range 5000 {
		b := make([]byte, random.Intn(1<<random.Intn(9)))
		random.Read(b)
		if random.Intn(3) > 0 { // short ones, so that there are many of them
			for k := range b {
				b[k] %= 4
			}
		}
		leaves, proof := cut(b), some(random, random.Intn(6))
		n, i, j := random.Intn(20), random.Intn(8), random.Intn(20)
		if random.Intn(4) == 0 {
			n, i, j = int(random.Uint64())>>random.Intn(64), int(random.Uint64())>>random.Intn(64), int(random.Uint64())>>random.Intn(64)
		}
		holdAll(t, b, n, i, j, leaves, proof)
	}
}

func FuzzAll(f *testing.F) {
	f.Add([]byte(nil), 0, 0, 0, []byte(nil), []byte(nil))
	f.Add([]byte{7}, 1, 0, 0, []byte{1, 7}, []byte(nil))
	f.Add([]byte{7, 8}, 3, 1, 1, []byte{1, 7, 1, 8, 1, 9}, []byte{1, 5, 1, 6})
	f.Add([]byte{7, 8}, 3, 1, 1, []byte{1, 8}, []byte{1, 5, 255})
	f.Add([]byte{7, 8}, 1<<20, 1<<20-1, math.MaxInt, []byte{1, 8}, make([]byte, 20))
	f.Add([]byte{7, 8}, 1<<20+1, 0, 0, []byte{1, 8}, []byte(nil))
	f.Add([]byte{7, 8}, math.MaxInt, math.MaxInt, math.MinInt, []byte{0, 0, 255}, []byte{0})
	f.Add([]byte{7, 8}, math.MinInt, math.MinInt, math.MaxInt, []byte{0, 0, 255}, []byte{0})
	f.Fuzz(func(t *testing.T, root []byte, n, i, j int, leaves, proof []byte) {
		holdAll(t, root, n, i, j, cut(leaves), cut(proof))
	})
}
