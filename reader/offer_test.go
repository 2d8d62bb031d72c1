package reader

import (
	"fmt"
	"math"
	"math/rand"
	"slices"
	"testing"

	"casket/api"
)

// P24.1

func wantNone(t *testing.T, what string, master []byte, trusted api.State) {
	t.Helper()
	if r, e := New(master, trusted); r != nil || e != api.ErrArg {
		t.Errorf("%s: New(%s, %s): %v, error %d; want none, and ErrArg", what, brief(master), brief(trusted), r, int(e))
	}
	if _, e := newAsSaid(master, trusted); e != api.ErrArg {
		t.Errorf("%s: the test says that New(%s, %s) is a reader", what, brief(master), brief(trusted))
	}
}

func TestNewByWrongMasters(t *testing.T) {
	for _, master := range wrongMasters() {
		for _, trusted := range append(trustNothing(), someTrusts(t)...) {
			wantNone(t, "a wrong master", master, trusted)
		}
	}
}

func TestNewByWrongStates(t *testing.T) {
	for _, trusted := range wrongStates() {
		wantNone(t, "a state that is not right", someMaster(), trusted)
		for _, master := range wrongMasters() {
			wantNone(t, "a wrong master, and a state that is not right", master, trusted)
		}
	}
}

// Any 32 bytes are a master.
func TestNewByAnyMaster(t *testing.T) {
	for _, master := range [][]byte{someMaster(), repeated(0, 32), repeated(255, 32), []byte("0123456789abcdef0123456789abcdef")} {
		b, s := built(t, master, api.State{}, 5, fewChunks()...)
		p := made(t, master, api.State{})
		wantError(t, "an archive of the master", p.offer(t, "Offer", b), api.OK)
		wantState(t, "the reader", p.r.State(), s)
	}
}

// A state that trusts nothing is of the version 0, without a Root, whatever its Version was.
func TestNewThatTrustsNothing(t *testing.T) {
	for _, trusted := range trustNothing() {
		p := made(t, someMaster(), trusted)
		p.hold(t, "a reader that trusts nothing")
		if s := p.r.State(); s.Version != 0 || len(s.Root) != 0 {
			t.Errorf("New of %s: the state %s", brief(trusted), brief(s))
		}
		for _, x := range wrongThings(t) {
			p.offerThing(t, x)
		}
		if s := p.r.State(); s.Version != 0 || len(s.Root) != 0 {
			t.Errorf("New of %s, behind what was refused: the state %s", brief(trusted), brief(s))
		}
		for _, x := range archives(t) {
			one := made(t, someMaster(), trusted)
			wantError(t, x.what, one.offerThing(t, x), api.OK)
		}
	}
}

// A state with a root is trusted as it is: its version is any.
func TestNewThatTrustsSomething(t *testing.T) {
	for _, version := range append(goodVersions(), math.MaxUint64) {
		for _, root := range [][]byte{someRoot(), make([]byte, 32), repeated(255, 32)} {
			p := made(t, someMaster(), api.State{Version: version, Root: root})
			p.hold(t, "a reader that trusts something")
			wantState(t, "New", p.r.State(), api.State{Version: version, Root: root})
			wantCounts(t, "New", p.r, 0, 0)
			for _, x := range append(wrongThings(t), archives(t)...) {
				p.offerThing(t, x)
			}
		}
	}
}

func TestAReaderThatWasOfferedNothing(t *testing.T) {
	for _, trusted := range someTrusts(t) {
		p := made(t, someMaster(), trusted)
		for range 3 {
			p.hold(t, "offered nothing")
		}
	}
}

// unmade are readers that New has not made.
func unmade() []*Reader {
	var zero Reader
	refused, _ := New(someMaster()[:31], api.State{Version: 3, Root: someRoot()})
	return []*Reader{nil, {}, new(Reader), &zero, refused}
}

func wantUnmade(t *testing.T, r *Reader) {
	t.Helper()
	if s := r.State(); s.Version != 0 || len(s.Root) != 0 {
		t.Errorf("the state %s of none", brief(s))
	}
	wantCounts(t, "none", r, 0, 0)
}

func TestReadersThatNewHasNotMade(t *testing.T) {
	for _, r := range unmade() {
		wantUnmade(t, r)
		for range 2 {
			for _, x := range append(archives(t), wrongThings(t)...) {
				l, e := r.Offer(x.b)
				wantError(t, x.what, e, api.ErrArg)
				if !none(l) {
					t.Errorf("%s: chunks beside the error: %s", x.what, brief(l))
				}
				wantUnmade(t, r)
			}
		}
	}
}

// P24.2

// The chapter's example, and the document's.
func TestTheDocumentsExamples(t *testing.T) {
	older, _ := built(t, someMaster(), api.State{}, 2, fewChunks()...)
	b, s := built(t, someMaster(), api.State{}, 3, fewChunks()...)
	another, _ := built(t, someMaster(), api.State{}, 3, of("c"))
	p := made(t, someMaster(), api.State{})
	wantError(t, "version 3", p.offer(t, "version 3", b), api.OK)
	wantError(t, "then one of 2", p.offer(t, "version 2", older), api.ErrRollback)
	wantState(t, "behind it", p.r.State(), s)
	for _, q := range []pair{p, made(t, someMaster(), s)} {
		wantError(t, "version 2 for who trusts 3", q.offer(t, "version 2", older), api.ErrRollback)
		wantError(t, "another one of version 3", q.offer(t, "another one", another), api.ErrFork)
		wantError(t, "the same once more", q.offer(t, "the same", b), api.OK)
		wantError(t, "with a byte turned in a sealed chunk", q.offer(t, "turned", turnedAt(b, 100)), api.ErrAuth)
		wantError(t, "with one cut off", q.offer(t, "cut off", b[:len(b)-1]), api.ErrShort)
		wantError(t, "with one more", q.offer(t, "one more", slices.Concat(b, []byte{0})), api.ErrForm)
		wantState(t, "behind all of it", q.r.State(), s)
	}
	wantCounts(t, "the first reader", p.r, 2, 6)
}

// What a reader is offered is what archive.Open tells, by the reader's master and state.
func TestOfferTellsTheChunks(t *testing.T) {
	for _, l := range [][]api.Chunk{nil, {}, fewChunks(), someChunks(), {of("a", wild(3000, 1)...)}} {
		for _, version := range goodVersions() {
			b, s := built(t, someMaster(), api.State{}, version, l...)
			r, e := New(someMaster(), api.State{})
			wantError(t, "New", e, api.OK)
			for n := range 3 {
				got, e := r.Offer(b)
				wantError(t, "Offer", e, api.OK)
				wantChunks(t, "Offer", got, l)
				wantState(t, "Offer", r.State(), s)
				wantCounts(t, "Offer", r, n+1, 0)
			}
		}
	}
}

func TestOfferOfRandomChunks(t *testing.T) {
	random := rand.New(rand.NewSource(2))
	for range 30 {
		p := made(t, someMaster(), api.State{})
		var prev api.State
		version := random.Uint64() >> random.Intn(64) / 2
		for range 5 {
			l := randomChunks(random)
			b, s := built(t, someMaster(), prev, version, l...)
			wantError(t, "Offer", p.offer(t, "a version behind the other", b), api.OK)
			wantState(t, "Offer", p.r.State(), s)
			again, _ := p.r.Offer(b)
			p.s.taken++
			wantChunks(t, "the same once more", again, l)
			p.hold(t, "the same once more")
			prev, version = s, version+1+random.Uint64()>>random.Intn(60)>>4
		}
	}
}

// Each thing, offered to a reader of each state that it may begin with.
func TestEachThingByEachState(t *testing.T) {
	for _, trusted := range someTrusts(t) {
		for _, x := range append(archives(t), wrongThings(t)...) {
			p := made(t, someMaster(), trusted)
			p.offerThing(t, x)
			p.offerThing(t, x)
		}
	}
}

// Each three things, one behind the other, in each order, for each state that a reader may begin with.
func TestEveryOrder(t *testing.T) {
	every := append(archives(t), wrongThings(t)...)
	trusts := someTrusts(t)
	if testing.Short() {
		trusts = trusts[:2]
	}
	for _, trusted := range trusts {
		for _, x := range every {
			for _, y := range every {
				for _, z := range every {
					p := made(t, someMaster(), trusted)
					p.offerThing(t, x)
					p.offerThing(t, y)
					p.offerThing(t, z)
				}
			}
		}
		if t.Failed() {
			return // one state tells enough
		}
	}
}

// No error turns a reader's state, nor what is taken behind it.
func TestNoErrorTurnsAState(t *testing.T) {
	b, s := built(t, someMaster(), api.State{}, 5, fewChunks()...)
	p := made(t, someMaster(), api.State{})
	wantError(t, "at first", p.offer(t, "at first", b), api.OK)
	seen := map[api.Errno]int{}
	for n := range b {
		seen[p.offer(t, fmt.Sprint("the first ", n, " bytes"), b[:n])]++
	}
	eachBit(b, func(at, bit int, turned []byte) {
		seen[p.offer(t, fmt.Sprint("the bit ", bit, " of the byte ", at), turned)]++
	})
	for _, x := range append(archives(t)[:7], wrongThings(t)...) {
		seen[p.offer(t, x.what, x.b)]++
	}
	fork, _ := built(t, someMaster(), api.State{}, 5)
	seen[p.offer(t, "another one", fork)]++
	for _, e := range []api.Errno{api.ErrShort, api.ErrForm, api.ErrLong, api.ErrAuth, api.ErrRollback, api.ErrFork} {
		if seen[e] == 0 {
			t.Errorf("the error %d was not tried", int(e))
		}
	}
	if seen[api.OK] > 0 {
		t.Errorf("%d were taken", seen[api.OK])
	}
	wantState(t, "behind all errors", p.r.State(), s)
	wantError(t, "at last", p.offer(t, "at last", b), api.OK)
	wantCounts(t, "at last", p.r, 2, p.s.refused)
}

// A greater version that nobody signed, or with a chunk that nobody sealed, is not trusted: what was, still is.
func TestAGreaterVersionThatIsRefused(t *testing.T) {
	b, s := built(t, someMaster(), api.State{}, 5, fewChunks()...)
	next, _ := built(t, someMaster(), s, 6, fewChunks()...)
	theirs, _ := built(t, anotherMaster(), s, 6, fewChunks()...)
	p := made(t, someMaster(), s)
	for what, other := range map[string][]byte{
		"another master's":            theirs,
		"its signature turned":        turnedAt(next, 3*80+1),
		"its last chunk turned":       turnedAt(next, 1),
		"its root turned":             turnedAt(next, 3*80+33),
		"its last byte cut off":       next[:len(next)-1],
		"a byte more":                 slices.Concat(next, []byte{0}),
		"the chunks of the one ahead": slices.Concat(next[:len(next)-3*80], b[len(b)-3*80:]),
		"its chunks behind the other": slices.Concat(b[:len(b)-3*80], next[len(next)-3*80:]),
	} {
		if e := p.offer(t, what, other); e == api.OK {
			t.Errorf("%s: taken", what)
		}
		wantError(t, what+": what was trusted", p.offer(t, what, b), api.OK)
	}
	wantError(t, "as it is", p.offer(t, "as it is", next), api.OK)
	wantError(t, "what was trusted", p.offer(t, "the one ahead", b), api.ErrRollback)
}

// Counts of many Offers.
func TestCountsOfManyOffers(t *testing.T) {
	b, s := built(t, someMaster(), api.State{}, 0)
	r, e := New(someMaster(), s)
	wantError(t, "New", e, api.OK)
	for n := range 1000 {
		wantCounts(t, "as many as were offered", r, n, 2*n)
		r.Offer(nil)
		r.Offer(b)
		r.Offer(b[:40])
	}
	wantState(t, "behind all of them", r.State(), s)
}

// P24.3

func TestVersionsThatRise(t *testing.T) {
	p := made(t, someMaster(), api.State{})
	var chain []thing
	var prev api.State
	for _, version := range goodVersions() {
		x := archiveOf(t, fmt.Sprint("version ", version), prev, version, fewChunks()...)
		chain, prev = append(chain, x), x.state
	}
	for k, x := range chain {
		wantError(t, x.what, p.offerThing(t, x), api.OK)
		for _, older := range chain[:k] {
			wantError(t, older.what+" behind "+x.what, p.offerThing(t, older), api.ErrRollback)
		}
		wantError(t, x.what+" once more", p.offerThing(t, x), api.OK)
	}
}

// A version may be left out, and a state may be one that was never offered.
func TestVersionsThatAreLeftOut(t *testing.T) {
	first := archiveOf(t, "version 5", api.State{}, 5, of("a"))
	second := archiveOf(t, "version 6", first.state, 6, of("a"))
	third := archiveOf(t, "version 7", second.state, 7, of("a"))
	p := made(t, someMaster(), first.state)
	wantError(t, "version 7", p.offerThing(t, third), api.OK)
	wantError(t, "version 6, which was left out", p.offerThing(t, second), api.ErrRollback)
	wantError(t, "version 5", p.offerThing(t, first), api.ErrRollback)
}

// Archives of no chunks have the same root, whatever their version.
func TestTheSameRootOfALesserVersion(t *testing.T) {
	two, s := built(t, someMaster(), api.State{}, 2)
	three, u := built(t, someMaster(), s, 3)
	wantBytes(t, "the roots", s.Root, u.Root)
	p := made(t, someMaster(), u)
	wantError(t, "the same root of a lesser version", p.offer(t, "two", two), api.ErrRollback)
	wantState(t, "behind it", p.r.State(), u)
	q := made(t, someMaster(), s)
	wantError(t, "the same root of a greater version", q.offer(t, "three", three), api.OK)
	wantState(t, "behind it", q.r.State(), u)
}

// Two archives of one version and the same chunks, built on different states, have the same root: either is taken.
func TestTheSameRootOnAnotherState(t *testing.T) {
	l := archives(t)
	one, other := l[2], l[3]
	wantState(t, "the states", one.state, other.state)
	if slices.Equal(one.b, other.b) {
		t.Fatal("the archives are the same: the test asks too little")
	}
	p := made(t, someMaster(), one.state)
	for _, x := range []thing{one, other, one, other, other} {
		wantError(t, x.what, p.offerThing(t, x), api.OK)
	}
}

func TestVersionsAtTheEdges(t *testing.T) {
	zero := archiveOf(t, "version 0", api.State{}, 0, of("a"))
	none := archiveOf(t, "version 0 of no chunks", api.State{}, 0)
	last := archiveOf(t, "version 2^64 - 2", zero.state, math.MaxUint64-1, of("a"))
	lastOther := archiveOf(t, "another one of version 2^64 - 2", zero.state, math.MaxUint64-1, of("b"))
	p := made(t, someMaster(), api.State{})
	for _, x := range []struct {
		thing
		want api.Errno
	}{
		{zero, api.OK}, {none, api.ErrFork}, {zero, api.OK}, {last, api.OK}, {zero, api.ErrRollback},
		{lastOther, api.ErrFork}, {none, api.ErrRollback}, {last, api.OK},
	} {
		wantError(t, x.what, p.offerThing(t, x.thing), x.want)
	}
	beyond := made(t, someMaster(), api.State{Version: math.MaxUint64, Root: last.state.Root})
	for _, x := range []thing{zero, none, last, lastOther} {
		wantError(t, x.what+" for who trusts 2^64 - 1", beyond.offerThing(t, x), api.ErrRollback)
	}
}

// event is an Offer that was.
type event struct {
	thing
	ahead, behind api.State
	e             api.Errno
}

// isNewer says that what was taken since has another root, or a greater version.
func (x event) isNewer(than thing) bool {
	return x.e == api.OK && (x.state.Version > than.state.Version || !slices.Equal(x.state.Root, than.state.Root))
}

// holdFollows holds what was offered in turn against P24.3 alone.
func holdFollows(t *testing.T, story []event) {
	t.Helper()
	for k, x := range story {
		if x.behind.Version < x.ahead.Version || trusts(x.ahead) && !trusts(x.behind) {
			t.Errorf("%s: the state went from %s to %s", x.what, brief(x.ahead), brief(x.behind))
		}
		lesser := x.state.Version < x.ahead.Version
		fork := x.state.Version == x.ahead.Version && !slices.Equal(x.state.Root, x.ahead.Root)
		if x.e == api.OK && trusts(x.ahead) && (lesser || fork) {
			t.Errorf("%s is taken by a state of %s", x.what, brief(x.ahead))
		}
		for j := k - 1; j >= 0 && !story[j].isNewer(x.thing); j-- {
			if story[j].what == x.what && story[j].e == api.OK && x.e != api.OK {
				t.Errorf("%s was taken, and is not taken again: error %d", x.what, int(x.e))
			}
		}
	}
}

func TestWhatFollows(t *testing.T) {
	every := append(archives(t), wrongThings(t)...)
	starts := someTrusts(t)
	random := rand.New(rand.NewSource(3))
	takenAgain := 0
	for range 150 {
		p := made(t, someMaster(), starts[random.Intn(len(starts))])
		var story []event
		for range 40 {
			x := every[random.Intn(len(every))]
			if x.state.Version > 4 && random.Intn(20) > 0 {
				continue // else all is a rollback behind it
			}
			ahead := p.r.State()
			e := p.offerThing(t, x)
			story = append(story, event{x, ahead, p.r.State(), e})
			if e == api.OK && sameState(ahead, p.r.State()) {
				takenAgain++
			}
		}
		holdFollows(t, story)
	}
	if takenAgain < 100 {
		t.Errorf("%d were taken again: the test asks too little", takenAgain)
	}
}
