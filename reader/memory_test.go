package reader

import (
	"fmt"
	"math/rand"
	"slices"
	"sync"
	"testing"

	"casket/api"
	"casket/archive"
)

// R3

// withRoom is a list with others behind it in the same memory, which are no call's either.
func withRoom[T any](list []T, others ...T) []T {
	return slices.Clip(slices.Concat(list, others))[:len(list)]
}

func bytesWithRoom(b []byte) []byte { return withRoom(b, mixed(100, 99)...) }

func stateWithRoom(s api.State) api.State {
	return api.State{Version: s.Version, Root: bytesWithRoom(s.Root)}
}

// overwriteBytes changes all bytes, those behind the last one, too.
func overwriteBytes(b []byte) {
	b = b[:cap(b)]
	for i := range b {
		b[i] ^= 255
	}
}

func overwriteChunks(l []api.Chunk) {
	l = l[:cap(l)]
	for i := range l {
		s := l[i].S[:cap(l[i].S)]
		for j := range s {
			s[j] = api.Sample{T: ^s[j].T, V: ^s[j].V}
		}
		l[i] = of("overwritten", even(i+1)...)
	}
}

// everything is what a list has, and what stands behind its end.
func everything[T any](list []T) string { return fmt.Sprint(list[:cap(list)]) }

func wantText(t *testing.T, what, got, want string) {
	t.Helper()
	if got != want {
		t.Errorf("%s: %s; want %s", what, brief(got), brief(want))
	}
}

func TestWhatIsHandedInIsNotChanged(t *testing.T) {
	for _, trusted := range append(someTrusts(t), wrongStates()[:4]...) {
		for _, master := range [][]byte{someMaster(), anotherMaster(), someMaster()[:31]} {
			own, state := bytesWithRoom(master), stateWithRoom(trusted)
			before := everything(own) + everything(state.Root)
			r, _ := New(own, state)
			wantText(t, "behind New", everything(own)+everything(state.Root), before)
			for _, x := range append(archives(t), wrongThings(t)...) {
				b := bytesWithRoom(x.b)
				bytes := everything(b)
				r.Offer(b)
				r.State()
				r.Counts()
				wantText(t, "the bytes behind Offer", everything(b), bytes)
				wantText(t, "the master and the root behind Offer", everything(own)+everything(state.Root), before)
			}
		}
	}
}

// What is changed behind New changes no later answer.
func TestWhatNewIsHandedIsNotKept(t *testing.T) {
	for _, trusted := range someTrusts(t) {
		for _, x := range append(archives(t), wrongThings(t)...) {
			master, state := bytesWithRoom(someMaster()), stateWithRoom(trusted)
			r, e := New(master, state)
			wantError(t, "New", e, api.OK)
			s, _ := newAsSaid(master, state)
			p := pair{r, s}
			overwriteBytes(master)
			overwriteBytes(state.Root)
			p.hold(t, "behind a change")
			p.offerThing(t, x)
			overwriteBytes(master)
			overwriteBytes(state.Root)
			p.offerThing(t, x)
		}
	}
}

// What is changed behind Offer changes neither its chunks nor a later answer.
func TestWhatOfferIsHandedIsNotKept(t *testing.T) {
	every := append(archives(t), wrongThings(t)...)
	every = append(every, archiveOf(t, "some chunks", api.State{}, 5, someChunks()...))
	for _, x := range every {
		p := made(t, someMaster(), api.State{})
		b := bytesWithRoom(x.b)
		got, e := p.r.Offer(b)
		p.s.offer(x.b)
		wantError(t, x.what, e, known(api.State{}, x))
		state := p.r.State()
		overwriteBytes(b)
		if e == api.OK {
			wantChunks(t, x.what+", changed behind Offer", got, x.l)
			wantState(t, x.what+", changed behind Offer: a state told ahead", state, x.state)
		}
		p.hold(t, x.what+", changed behind Offer")
		p.offerThing(t, x)
		if e := p.offer(t, "the changed bytes", b); e == api.OK {
			t.Errorf("%s: the changed bytes are taken", x.what)
		}
		overwriteBytes(b)
		p.offer(t, "the bytes as they were", b)
	}
}

// A State that is changed by whoever holds it changes no later answer, nor what was handed in.
func TestAStateIsItsHoldersOwn(t *testing.T) {
	every := append(archives(t), wrongThings(t)...)
	for _, trusted := range someTrusts(t) {
		for _, x := range every {
			own := stateWithRoom(trusted)
			before := everything(own.Root)
			r, e := New(someMaster(), own)
			wantError(t, "New", e, api.OK)
			s, _ := newAsSaid(someMaster(), trusted)
			p := pair{r, s}
			for range 2 {
				held, another := p.r.State(), p.r.State()
				want := api.State{Version: another.Version, Root: slices.Clone(another.Root)}
				overwriteBytes(held.Root)
				held.Version, held.Root = 77, nil
				wantState(t, "a State beside one that is changed", another, want)
				overwriteBytes(another.Root)
				p.hold(t, "behind a State that is changed")
				wantText(t, "what was handed in", everything(own.Root), before)
				p.offerThing(t, x)
			}
		}
	}
}

// A State that was told stays as it is, whatever the reader is offered then.
func TestAStateStaysAsItWas(t *testing.T) {
	p := made(t, someMaster(), api.State{})
	var told, want []api.State
	for _, x := range append(archives(t), wrongThings(t)...) {
		p.offerThing(t, x)
		s := p.r.State()
		told = append(told, s)
		want = append(want, api.State{Version: s.Version, Root: slices.Clone(s.Root)})
		for k := range told {
			wantState(t, "a State that was told ahead", told[k], want[k])
		}
	}
}

// The state that Build told, handed to New, stays its holder's, whatever the reader takes then.
func TestTheStateOfBuildStaysAsItWas(t *testing.T) {
	_, s := built(t, someMaster(), api.State{}, 5, fewChunks()...)
	next, u := built(t, someMaster(), s, 6, fewChunks()[:1]...)
	root := slices.Clone(s.Root)
	p := made(t, someMaster(), s)
	wantError(t, "the next one", p.offer(t, "the next one", next), api.OK)
	wantBytes(t, "the root that was handed in", s.Root, root)
	wantState(t, "the reader", p.r.State(), u)
	overwriteBytes(u.Root)
	p.hold(t, "behind a change of what Build told")
}

func TestChunksAreTheirHoldersOwn(t *testing.T) {
	for _, x := range append(archives(t), archiveOf(t, "some chunks", api.State{}, 5, someChunks()...)) {
		p := made(t, someMaster(), api.State{})
		b := bytesWithRoom(x.b)
		before := everything(b)
		held, e := p.r.Offer(b)
		wantError(t, x.what, e, api.OK)
		another, e := p.r.Offer(b)
		wantError(t, x.what, e, api.OK)
		overwriteChunks(held)
		wantChunks(t, x.what+": the chunks of another Offer", another, x.l)
		wantText(t, x.what+": what was handed in", everything(b), before)
		wantState(t, x.what, p.r.State(), x.state)
		later, e := p.r.Offer(b)
		wantError(t, x.what+", once more", e, api.OK)
		wantChunks(t, x.what+", once more", later, x.l)
	}
}

func TestNoTwoListsOfAnAnswerShareMemory(t *testing.T) {
	l := someChunks()
	b, _ := built(t, someMaster(), api.State{}, 5, l...)
	for k := range l {
		p := made(t, someMaster(), api.State{})
		got, e := p.r.Offer(b)
		wantError(t, "Offer", e, api.OK)
		s := got[k].S[:cap(got[k].S)]
		for i := range s {
			s[i] = api.Sample{T: -7, V: 7}
		}
		for other := range l {
			if other != k && !sameChunk(got[other], l[other]) {
				t.Errorf("the chunk %d beside %d, which is changed: %s", other, k, brief(got[other]))
			}
		}
	}
}

// Two readers of the same master and state, handed in in the same memory, know nothing of one another.
func TestTwoReadersKnowNothingOfOneAnother(t *testing.T) {
	every := append(archives(t), wrongThings(t)...)
	random := rand.New(rand.NewSource(4))
	for _, trusted := range someTrusts(t) {
		master := someMaster()
		one, other := made(t, master, trusted), made(t, master, trusted)
		idle := made(t, master, trusted)
		foreign := made(t, anotherMaster(), trusted)
		for range 30 {
			x := every[random.Intn(len(every))]
			if random.Intn(2) == 0 {
				one, other = other, one
			}
			one.offerThing(t, x)
			other.hold(t, "the other reader")
			idle.hold(t, "a reader that is offered nothing")
			foreign.offer(t, "another master's reader", x.b)
			one.hold(t, "a reader beside another master's")
		}
		wantCounts(t, "a reader that is offered nothing", idle.r, 0, 0)
	}
}

// Readers of their own may be asked at the same time, of the same bytes.
func TestReadersAtTheSameTime(t *testing.T) {
	every := append(archives(t), wrongThings(t)...)
	master, trusted := someMaster(), api.State{Version: 2, Root: someRoot()}
	var group sync.WaitGroup
	for from := range 8 {
		group.Go(func() {
			r, e := New(master, trusted)
			s, _ := newAsSaid(master, trusted)
			wantError(t, "New", e, api.OK)
			for k := range 40 {
				pair{r, s}.offerThing(t, every[(from*5+k*3)%len(every)])
			}
		})
	}
	group.Wait()
}

// R1

// holdAll holds New, and each Offer behind it, against the chapter's words, whatever is handed in.
func holdAll(t *testing.T, master []byte, trusted api.State, offers ...[]byte) {
	t.Helper()
	r, e := New(master, trusted)
	s, f := newAsSaid(master, trusted)
	if e != f || (r == nil) != (e != api.OK) {
		t.Fatalf("New(%s, %s): error %d; want %d", brief(master), brief(trusted), int(e), int(f))
	}
	if e != api.OK {
		_, e := r.Offer(nil)
		wantError(t, "an Offer to none", e, api.ErrArg)
		wantUnmade(t, r)
		return
	}
	p := pair{r, s}
	p.hold(t, "offered nothing")
	for k, b := range offers {
		p.offer(t, fmt.Sprint("the Offer ", k), b)
	}
}

// anyBytes are some that were an archive, turned at a few places, or that never were one.
func anyBytes(random *rand.Rand, good [][]byte) []byte {
	b := make([]byte, random.Intn(400))
	random.Read(b)
	switch random.Intn(3) {
	case 0: // the beginning of a block that holds a manifest's
		return slices.Concat([]byte{byte(110 + random.Intn(18)), byte(random.Intn(2))}[:1+random.Intn(2)], []byte("CSK1"), b)
	case 1:
		b = slices.Clone(good[random.Intn(len(good))])
		for range random.Intn(3) {
			at := random.Intn(len(b))
			b = slices.Replace(b, at, min(at+random.Intn(3), len(b)), mixed(random.Intn(3), byte(random.Intn(256)))...)
		}
	}
	return b
}

func TestNothingPanics(t *testing.T) {
	var good [][]byte
	for _, x := range archives(t) {
		good = append(good, x.b)
	}
	random := rand.New(rand.NewSource(24))
	lengths := []int{0, 1, 31, 32, 32, 32, 32, 32, 32, 33}
	for k := range 2000 {
		master, root := mixed(lengths[random.Intn(10)], 3), mixed(lengths[random.Intn(10)], 100)
		if k%2 == 0 {
			master = someMaster()
		}
		var offers [][]byte
		for range random.Intn(8) {
			offers = append(offers, anyBytes(random, good))
		}
		holdAll(t, master, api.State{Version: random.Uint64() >> random.Intn(64), Root: root}, offers...)
	}
	holdAll(t, nil, api.State{}, nil)
	for _, n := range []int{1000, 100000, 3000000} {
		for _, each := range []byte{0, 1, 67, 127, 128, 255} {
			b := repeated(each, n)
			holdAll(t, someMaster(), api.State{}, b)
			holdAll(t, b, api.State{Version: 1, Root: b}, b)
			holdAll(t, someMaster(), api.State{}, slices.Concat(good[1], b), slices.Concat(b, good[1]))
		}
	}
}

func FuzzAll(f *testing.F) {
	b, s, _ := archive.Build(someMaster(), api.State{}, 3, fewChunks())
	next, _, _ := archive.Build(someMaster(), s, 4, fewChunks())
	f.Add(someMaster(), uint64(0), []byte(nil), b, next)
	f.Add(someMaster(), s.Version, s.Root, next, b)
	f.Add(someMaster()[:31], s.Version, s.Root[:31], b[:len(b)-1], []byte(nil))
	f.Fuzz(func(t *testing.T, master []byte, version uint64, root, one, two []byte) {
		holdAll(t, master, api.State{Version: version, Root: root}, one, two, one, b)
		holdAll(t, someMaster(), api.State{Version: version, Root: root}, b, one, two)
	})
}
