package delta

import (
	"math"
	"math/big"
	"math/rand"
	"slices"
	"testing"

	"casket/api"
)

type call func([]int, int) ([]int, api.Errno)

func both() map[string]call { return map[string]call{"Diff": Diff, "Sum": Sum} }

func wantList(t *testing.T, name string, f call, l []int, k int, want []int) {
	t.Helper()
	if got, e := f(l, k); !slices.Equal(got, want) || e != api.OK {
		t.Errorf("%s(%v, %d): %v, %v; want %v, OK", name, l, k, got, e, want)
	}
}

// wantPair says that d is l's Diff by k, and l is d's Sum by k.
func wantPair(t *testing.T, l []int, k int, d []int) {
	t.Helper()
	wantList(t, "Diff", Diff, l, k, d)
	wantList(t, "Sum", Sum, d, k, l)
}

// goneRound is the int of 64 bits that v is where ints go round.
func goneRound(v *big.Int) int {
	r := new(big.Int).And(v, new(big.Int).SetUint64(math.MaxUint64))
	return int(r.Uint64())
}

func lessByWords(a, b int) int {
	return goneRound(new(big.Int).Sub(big.NewInt(int64(a)), big.NewInt(int64(b))))
}

// diffByWords is P4.1 word for word.
func diffByWords(l []int, k int) []int {
	switch k {
	case 0:
		return slices.Clone(l)
	case 1:
		var out []int
		for i, v := range l {
			if i > 0 {
				v = lessByWords(v, l[i-1])
			}
			out = append(out, v)
		}
		return out
	}
	once := diffByWords(l, k-1)
	stay := min(k-1, len(once))
	return slices.Concat(once[:stay], diffByWords(once[stay:], 1))
}

// someInts are small, great and at the ends, so that much goes round.
func someInts(r *rand.Rand, n int) []int {
	edges := []int{math.MinInt, math.MinInt + 1, -1, 0, 1, math.MaxInt - 1, math.MaxInt}
	out := make([]int, n)
	for i := range out {
		switch r.Intn(3) {
		case 0:
			out[i] = r.Intn(21) - 10
		case 1:
			out[i] = int(r.Uint64())
		default:
			out[i] = edges[r.Intn(len(edges))]
		}
	}
	return out
}

// P4.1

func TestDiffByNoughtIsTheList(t *testing.T) {
	for _, l := range [][]int{nil, {}, {7}, {10, 12, 15}, {math.MinInt, math.MaxInt, 0}} {
		wantList(t, "Diff", Diff, l, 0, l)
	}
}

func TestDiffByOneIsLessTheOneAhead(t *testing.T) {
	wantList(t, "Diff", Diff, []int{10, 12, 15}, 1, []int{10, 2, 3})
	wantList(t, "Diff", Diff, []int{10, 7, 7, -3}, 1, []int{10, -3, 0, -10})
	wantList(t, "Diff", Diff, []int{-4, -4}, 1, []int{-4, 0})
}

func TestDiffByMoreLeavesTheFirstOnes(t *testing.T) {
	wantList(t, "Diff", Diff, []int{10, 12, 15}, 2, []int{10, 2, 1})
	wantList(t, "Diff", Diff, []int{1, 8, 27, 64, 125}, 1, []int{1, 7, 19, 37, 61})
	wantList(t, "Diff", Diff, []int{1, 8, 27, 64, 125}, 2, []int{1, 7, 12, 18, 24})
	wantList(t, "Diff", Diff, []int{1, 8, 27, 64, 125}, 3, []int{1, 7, 12, 6, 6})
}

func TestDiffGoesRound(t *testing.T) {
	wantList(t, "Diff", Diff, []int{math.MinInt, math.MaxInt}, 1, []int{math.MinInt, -1})
	wantList(t, "Diff", Diff, []int{math.MaxInt, math.MinInt}, 1, []int{math.MaxInt, 1})
	wantList(t, "Diff", Diff, []int{0, math.MinInt}, 1, []int{0, math.MinInt})
	wantList(t, "Diff", Diff, []int{1, math.MinInt}, 1, []int{1, math.MaxInt})
	wantList(t, "Diff", Diff, []int{math.MinInt, 0}, 1, []int{math.MinInt, math.MinInt})
	wantList(t, "Diff", Diff, []int{-2, math.MaxInt}, 1, []int{-2, math.MinInt + 1})
	wantList(t, "Diff", Diff, []int{0, math.MinInt, 0, math.MinInt}, 2, []int{0, math.MinInt, 0, 0})
	wantList(t, "Diff", Diff, []int{0, 1, math.MinInt, 0}, 3, []int{0, 1, math.MaxInt - 1, math.MinInt + 3})
}

func TestDiffIsAsTheWordsSay(t *testing.T) {
	r := rand.New(rand.NewSource(41))
	for range 3000 {
		l := someInts(r, r.Intn(12))
		for k := range 4 {
			wantList(t, "Diff", Diff, l, k, diffByWords(l, k))
		}
	}
}

func TestFewNumbers(t *testing.T) {
	for k := range 4 {
		wantPair(t, nil, k, nil)
		wantPair(t, []int{}, k, []int{})
		for _, v := range []int{0, 1, -1, 5, math.MaxInt, math.MinInt} {
			wantPair(t, []int{v}, k, []int{v})
		}
	}
	for k := 1; k <= 3; k++ {
		wantPair(t, []int{9, 4}, k, []int{9, -5})
	}
	wantPair(t, []int{9, 4, 4}, 2, []int{9, -5, 5})
	wantPair(t, []int{9, 4, 4}, 3, []int{9, -5, 5})
}

func TestTimesThatMayNotBe(t *testing.T) {
	for name, f := range both() {
		for _, k := range []int{-1, -2, 4, 5, 64, math.MaxInt, math.MinInt} {
			for _, l := range [][]int{nil, {}, {1}, {10, 12, 15, 15}} {
				if got, e := f(l, k); got != nil || e != api.ErrArg {
					t.Errorf("%s(%v, %d): %v, %v; want nil, ErrArg", name, l, k, got, e)
				}
			}
		}
	}
}

// P4.2

func TestSumIsTheListWhoseDiffItIs(t *testing.T) {
	wantList(t, "Sum", Sum, []int{10, 12, 15}, 0, []int{10, 12, 15})
	wantList(t, "Sum", Sum, []int{10, 2, 3}, 1, []int{10, 12, 15})
	wantList(t, "Sum", Sum, []int{10, 2, 1}, 2, []int{10, 12, 15})
	wantList(t, "Sum", Sum, []int{10, 2, 1, -4}, 3, []int{10, 12, 15, 15})
	wantList(t, "Sum", Sum, []int{1, 7, 12, 6, 6}, 3, []int{1, 8, 27, 64, 125})
}

func TestSumGoesRound(t *testing.T) {
	wantList(t, "Sum", Sum, []int{math.MaxInt, 1}, 1, []int{math.MaxInt, math.MinInt})
	wantList(t, "Sum", Sum, []int{math.MinInt, -1}, 1, []int{math.MinInt, math.MaxInt})
	wantList(t, "Sum", Sum, []int{math.MinInt, math.MinInt}, 1, []int{math.MinInt, 0})
	wantList(t, "Sum", Sum, []int{math.MaxInt, math.MaxInt}, 1, []int{math.MaxInt, -2})
	wantList(t, "Sum", Sum, []int{0, math.MaxInt, 1}, 2, []int{0, math.MaxInt, -1})
	wantList(t, "Sum", Sum, []int{0, 1, math.MaxInt - 1, math.MinInt + 3}, 3, []int{0, 1, math.MinInt, 0})
}

func TestSumIsAsTheWordsSay(t *testing.T) {
	r := rand.New(rand.NewSource(42))
	for range 3000 {
		l := someInts(r, r.Intn(12))
		for k := range 4 {
			got, e := Sum(l, k)
			if e != api.OK || !slices.Equal(diffByWords(got, k), l) {
				t.Errorf("Sum(%v, %d): %v, %v", l, k, got, e)
			}
		}
	}
}

// P4.3

func TestThereAndBack(t *testing.T) {
	r := rand.New(rand.NewSource(43))
	for _, n := range []int{0, 1, 2, 3, 4, 5, 100, api.MaxSamples} {
		l := someInts(r, n)
		for k := range 4 {
			d, e1 := Diff(l, k)
			back, e2 := Sum(d, k)
			s, e3 := Sum(l, k)
			forth, e4 := Diff(s, k)
			if e1 != api.OK || e2 != api.OK || e3 != api.OK || e4 != api.OK {
				t.Fatalf("%d numbers by %d: %v, %v, %v, %v", n, k, e1, e2, e3, e4)
			}
			if !slices.Equal(back, l) || !slices.Equal(forth, l) {
				t.Errorf("%d numbers by %d are not themselves again", n, k)
			}
		}
	}
}

func TestNumbersEquallyFarApart(t *testing.T) {
	for _, apart := range []int{0, 1, 1000, -7, math.MaxInt, math.MinInt} {
		for _, first := range []int{0, 5, -1, math.MaxInt, math.MinInt} {
			l, want := make([]int, 100), make([]int, 100)
			l[0], want[0], want[1] = first, first, apart
			for i := 1; i < len(l); i++ {
				l[i] = l[i-1] + apart
			}
			wantPair(t, l, 2, want)
		}
	}
}

// R3

func TestTheListIsNeitherChangedNorKept(t *testing.T) {
	for name, f := range both() {
		for k := range 4 {
			room := []int{10, 12, 15, 15, 99, 98}
			l := room[:4]
			got, _ := f(l, k)
			want := slices.Clone(got)
			if !slices.Equal(room, []int{10, 12, 15, 15, 99, 98}) {
				t.Errorf("%s by %d changes what it is handed: %v", name, k, room)
			}
			clear(room)
			if !slices.Equal(got, want) {
				t.Errorf("%s by %d keeps what it is handed", name, k)
			}
			room = []int{10, 12, 15, 15, 99, 98}
			got, _ = f(room[:4], k)
			clear(append(got, 0, 0)[:6])
			if !slices.Equal(room, []int{10, 12, 15, 15, 99, 98}) {
				t.Errorf("%s by %d answers what it is handed: %v", name, k, room)
			}
		}
	}
}

func TestCallsKnowNothingOfEachOther(t *testing.T) {
	for name, f := range both() {
		for k := range 4 {
			first, _ := f([]int{10, 12, 15, 15}, k)
			second, _ := f([]int{10, 12, 15, 15}, k)
			if !slices.Equal(first, second) {
				t.Errorf("%s by %d: %v, then %v", name, k, first, second)
			}
			clear(first)
			third, _ := f([]int{10, 12, 15, 15}, k)
			if !slices.Equal(second, third) {
				t.Errorf("%s by %d: %v, then %v", name, k, second, third)
			}
		}
	}
}
