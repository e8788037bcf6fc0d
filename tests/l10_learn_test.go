package tests

import (
	"fmt"
	"math/rand"
	"slices"
	"testing"

	"loop.example/g00667/impl"
)

// announcedByRule returns what the document says of announcing a note, for a valid house.
func announcedByRule(h impl.House, n impl.Note) impl.House {
	h = copyOfHouse(h)
	for i, p := range h.Pipes {
		if out := putByRule(p, noteText(n)); out.Code == impl.OK {
			h.Pipes[i] = out.Pipe
		}
	}
	return h
}

// countedByRule returns what the document says of counting a move, for a valid house.
func countedByRule(h impl.House, vni int64, mac int64) impl.House {
	h = copyOfHouse(h)
	h.Went = wentPutByRule(h.Went, impl.Went{Vni: vni, Mac: mac, At: h.Now}).Went
	if wentCountByRule(h.Went, vni, mac, h.Now) < 4 || frozenByRule(h, vni, mac) || len(h.Frozen) >= 8 {
		return h
	}
	place := placeByRule(h, vni, mac)
	h.Frozen = append(h.Frozen, impl.Frozen{Vni: vni, Mac: mac, House: place.House, Door: place.Door})
	slices.SortFunc(h.Frozen, func(a impl.Frozen, b impl.Frozen) int {
		return slices.Compare([]int64{a.Vni, a.Mac}, []int64{b.Vni, b.Mac})
	})
	return h
}

// checkedByRule returns what the document says of checking a guest, for a valid house.
func checkedByRule(h impl.House, vni int64, mac int64) impl.House {
	found := guestAtByRule(h.Guests, vni, mac)
	best := bestHeldByRule(h, vni, mac)
	own := ownRouteByRule(found, h.Id)
	if found == (impl.Guest{}) || best == (impl.Route{}) || frozenByRule(h, vni, mac) || !preferred(best, own) {
		return h
	}
	h = copyOfHouse(h)
	h.Guests = guestDropByRule(h.Guests, vni, mac).Guests
	key := impl.Route{Kind: impl.RtMac, Vni: vni, Mac: mac, Origin: h.Id}
	return countedByRule(announcedByRule(h, take(key)), vni, mac)
}

// hearNoteByRule returns what the document says of HearNote, for a valid house and note and one of its tellers.
func hearNoteByRule(h impl.House, teller int64, n impl.Note) impl.HouseOut {
	var out impl.RibOut
	switch {
	case n.Kind == impl.NtEnd:
		out = ribSweepByRule(h.Rib, teller)
	case n.Kind == impl.NtTake:
		out = ribTakeByRule(h.Rib, teller, n.Route)
	case n.Route.Origin == h.Id:
		return impl.HouseOut{House: h}
	default:
		out = ribPutByRule(h.Rib, teller, n.Route)
	}
	if out.Code != impl.OK {
		return impl.HouseOut{House: h}
	}
	h.Rib = out.Rib
	if n.Kind == impl.NtPut && n.Route.Kind == impl.RtMac {
		h = checkedByRule(h, n.Route.Vni, n.Route.Mac)
	}
	return impl.HouseOut{House: h}
}

// wantHeard checks what a house makes of a note against the document's wording, and returns the house.
func wantHeard(t *testing.T, what string, h impl.House, teller int64, n impl.Note) impl.House {
	t.Helper()
	got := impl.HearNote(h, teller, n)
	wantHouse(t, fmt.Sprintf("%s, teller %d, %+v", what, teller, n), got, hearNoteByRule(h, teller, n))
	same(t, what+": valid", impl.HouseRight(got.House), true)
	return got.House
}

// notesFor are notes of all kinds about guests and rooms that some house knows, and about others.
func notesFor(h impl.House) []impl.Note {
	out := []impl.Note{end()}
	var routes []impl.Route
	for _, x := range h.Rib {
		routes = append(routes, x.Route, renewed(x.Route))
	}
	for origin := int64(1); origin <= 4; origin++ {
		routes = append(routes, roomAt(5, origin), roomAt(8, origin), route(6, 170, 9, origin, 1))
		for _, g := range h.Guests {
			for seq := max(g.Seq-1, 0); seq <= g.Seq+1; seq++ {
				routes = append(routes, route(g.Vni, g.Mac, 9, origin, seq), stuck(route(g.Vni, g.Mac, 9, origin, seq)))
			}
		}
	}
	for _, r := range routes {
		out = append(out, put(r), take(impl.KeyOf(r)))
	}
	return out
}

// busyHouses are valid houses in which notes have different effects.
func busyHouses() map[string]impl.House {
	out := map[string]impl.House{
		"some house":      someHouse(),
		"an empty house":  emptyHouse(),
		"nobody frozen":   houseWith(func(h *impl.House) { h.Frozen = nil }),
		"all frozen":      houseWith(func(h *impl.House) { h.Frozen = iced(8) }),
		"the last time":   houseWith(func(h *impl.House) { h.Now = impl.MaxTime }),
		"a full table":    houseWith(func(h *impl.House) { h.Rib = manyHeld()[30:90] }),
		"unknown tellers": houseWith(func(h *impl.House) { h.Pipes = []impl.Pipe{{Epoch: 1}, {Epoch: 7}} }),
		"one teller": houseWith(func(h *impl.House) {
			h.Pipes, h.Rib = h.Pipes[:1], []impl.Held{held(1, route(5, 161, 21, 3, 2)), marked(held(1, route(5, 162, 22, 3, 2)))}
		}),
		"full pipes": houseWith(func(h *impl.House) {
			h.Pipes[0].Out = messages(impl.MaxOut)
			h.Pipes[1] = impl.Pipe{Epoch: 3, Peer: 1, Base: impl.MaxTime}
		}),
		"pipes nearly full": houseWith(func(h *impl.House) {
			h.Pipes[0].Out = messages(impl.MaxOut - 1)
			h.Pipes[1] = impl.Pipe{Epoch: 3, Peer: 1, Base: impl.MaxTime - 1}
		}),
		"as many moves as there may be": houseWith(func(h *impl.House) { h.Now, h.Went, h.Frozen = 400, walk(impl.MaxMoves), nil }),
	}
	for moves := range 5 {
		for frozen := 7; frozen <= 8; frozen++ {
			for _, mac := range []int64{161, 162, 163} {
				out[fmt.Sprint("moves ", moves, " of ", mac, ", frozen ", frozen)] = houseWith(func(h *impl.House) {
					h.Went = slices.Repeat([]impl.Went{{Vni: 5, Mac: mac, At: 271}}, moves)
					h.Frozen = iced(8)[:frozen]
					for i := range h.Frozen {
						h.Frozen[i].Mac += 100
					}
				})
			}
		}
	}
	return out
}

func TestHearNoteOfEachKind(t *testing.T) {
	for what, h := range busyHouses() {
		same(t, what+": valid", impl.HouseRight(h), true)
		for teller := range h.Pipes {
			for _, n := range notesFor(h) {
				wantHeard(t, what, h, int64(teller)+1, n)
			}
		}
	}
}

func TestHearNotePut(t *testing.T) {
	h := hearing(nil)
	r := route(5, 161, 11, 3, 4)
	for teller := int64(1); teller <= 2; teller++ {
		got := impl.HearNote(h, teller, put(r)).House
		wantList(t, "a route of another house", got.Rib, []impl.Held{held(teller, r)})
		same(t, "its place", impl.PlaceOf(got, 5, 161), impl.Place{House: 3})
		got = impl.HearNote(h, teller, put(roomAt(9, 4))).House
		wantList(t, "a room of another house", got.Rib, []impl.Held{held(teller, roomAt(9, 4))})
		for _, own := range []impl.Route{route(5, 161, 11, 2, 4), roomAt(5, 2)} {
			wantHouse(t, "a route of this house", impl.HearNote(h, teller, put(own)), impl.HouseOut{House: h})
		}
		stale := copyOfHouse(h)
		stale.Rib = []impl.Held{marked(held(teller, r))}
		got = impl.HearNote(stale, teller, put(renewed(r))).House
		wantList(t, "announced again", got.Rib, []impl.Held{held(teller, renewed(r))})
	}
}

func TestHearNotePutOfABetterRoute(t *testing.T) {
	h := hearing(nil, someGuestHere())
	h.Pipes[1].Peer = 1
	h.Went = nil
	r := route(5, 161, 9, 3, 5)
	got := impl.HearNote(h, 2, put(r)).House
	want := copyOfHouse(h)
	want.Rib, want.Guests, want.Went = []impl.Held{held(2, r)}, nil, []impl.Went{{Vni: 5, Mac: 161, At: 300}}
	withdrawn := noteText(take(impl.Route{Kind: impl.RtMac, Vni: 5, Mac: 161, Origin: 2}))
	for i := range want.Pipes {
		want.Pipes[i].Out = append(want.Pipes[i].Out, withdrawn)
	}
	wantHouse(t, "the guest has moved there", impl.HouseOut{House: got}, impl.HouseOut{House: want})
	for _, worse := range []impl.Route{route(5, 161, 9, 3, 4), route(5, 161, 9, 1, 3), route(5, 162, 9, 1, 9), route(6, 161, 9, 1, 9)} {
		got := impl.HearNote(h, 2, put(worse)).House
		want := copyOfHouse(h)
		want.Rib = []impl.Held{held(2, worse)}
		wantHouse(t, fmt.Sprintf("the guest has not moved: %+v", worse), impl.HouseOut{House: got}, impl.HouseOut{House: want})
	}
	// The better route may be another one than that of the note.
	h.Rib = []impl.Held{held(1, route(5, 161, 9, 4, 6))}
	got = impl.HearNote(h, 2, put(route(5, 161, 9, 3, 0))).House
	wantList(t, "another route is better", got.Guests, nil)
	h.Frozen = []impl.Frozen{{Vni: 5, Mac: 161, House: 2, Door: 1}}
	got = impl.HearNote(h, 2, put(r)).House
	wantList(t, "a frozen guest stays", got.Guests, h.Guests)
	wantList(t, "a frozen guest does not move", got.Went, nil)
	same(t, "nothing is announced of it", samePipes(got.Pipes[0], h.Pipes[0]), true)
}

func TestHearNoteFreezes(t *testing.T) {
	// Three moves within the window, and this is the fourth.
	h := hearing(nil, someGuestHere())
	h.Went = movesAt(271, 280, 300)
	r := route(5, 161, 9, 3, 5)
	got := impl.HearNote(h, 1, put(r)).House
	wantList(t, "frozen at the fourth move", got.Frozen, []impl.Frozen{{Vni: 5, Mac: 161, House: 3}})
	h.Went[0].At = 270
	got = impl.HearNote(h, 1, put(r)).House
	wantList(t, "the first move is too long ago", got.Frozen, nil)
	h.Went[0] = impl.Went{Vni: 6, Mac: 161, At: 271}
	got = impl.HearNote(h, 1, put(r)).House
	wantList(t, "the first move was another guest's", got.Frozen, nil)
	h.Went = movesAt(271, 280, 300)
	for _, n := range []int{7, 8} {
		h.Frozen = iced(n)
		for i := range h.Frozen {
			h.Frozen[i].Mac += 100
		}
		want := slices.Clone(h.Frozen)
		if n == 7 {
			want = append([]impl.Frozen{{Vni: 5, Mac: 161, House: 3}}, want...)
		}
		got = impl.HearNote(h, 1, put(r)).House
		wantList(t, fmt.Sprint("frozen before ", n), got.Frozen, want)
		wantList(t, fmt.Sprint("gone, frozen before ", n), got.Guests, nil)
	}
}

func TestHearNoteTakeAndEnd(t *testing.T) {
	h := someHouse()
	for i, x := range h.Rib {
		got := impl.HearNote(h, x.Peer, take(impl.KeyOf(x.Route))).House
		wantList(t, fmt.Sprint("entry ", i, " withdrawn"), got.Rib, slices.Delete(slices.Clone(h.Rib), i, i+1))
	}
	for _, key := range []impl.Route{{Kind: impl.RtMac, Vni: 5, Mac: 167, Origin: 3}, roomAt(6, 4), {Kind: impl.RtMac, Vni: 9, Mac: 9, Origin: 1}} {
		// Only the second teller announced the guests, and only the first one the room.
		teller := int64(1)
		if key.Kind == impl.RtRoom {
			teller = 2
		}
		wantHouse(t, fmt.Sprintf("%+v, which teller %d has not announced", key, teller), impl.HearNote(h, teller, take(key)), impl.HouseOut{House: h})
	}
	for teller := int64(1); teller <= 2; teller++ {
		got := impl.HearNote(h, teller, end()).House
		rest, _ := without(h.Rib, func(x impl.Held) bool { return x.Peer == teller && x.Stale })
		wantList(t, "swept", got.Rib, rest)
		same(t, "something was Stale", len(rest) < len(h.Rib), true)
		got.Rib = h.Rib
		wantHouse(t, "all else is as before", impl.HouseOut{House: got}, impl.HouseOut{House: h})
	}
}

func TestHearNoteErrorsInOrder(t *testing.T) {
	right, wrong := put(route(5, 161, 9, 3, 9)), []impl.Note{{}, put(impl.Route{}), take(route(5, 161, 9, 3, 9)), {Kind: impl.NtEnd, Route: roomAt(5, 1)}, {Kind: 4}, {Kind: -1}}
	notes := append(wrong, right, end(), take(roomAt(5, 1)))
	tellers := append([]int64{1, 2, 3}, origins.out...)
	for i, h := range wrongHouses() {
		for _, teller := range tellers {
			for _, n := range notes {
				wantHouse(t, fmt.Sprintf("wrong house %d, teller %d, %+v", i, teller, n), impl.HearNote(h, teller, n), houseError(impl.ErrForm))
			}
		}
	}
	one := houseWith(func(h *impl.House) { h.Pipes, h.Rib = h.Pipes[:1], nil })
	for most, h := range map[int64]impl.House{1: one, 2: someHouse()} {
		for _, teller := range append([]int64{most + 1, 3, 1 + 1<<32, 2 + 1<<32}, origins.out...) {
			for _, n := range notes {
				wantHouse(t, fmt.Sprintf("teller %d, %+v", teller, n), impl.HearNote(h, teller, n), houseError(impl.ErrNone))
			}
		}
		for teller := int64(1); teller <= most; teller++ {
			for _, n := range wrong {
				wantHouse(t, fmt.Sprintf("teller %d, %+v", teller, n), impl.HearNote(h, teller, n), houseError(impl.ErrForm))
			}
			same(t, "no error", impl.HearNote(h, teller, right).Code, impl.OK)
		}
		for _, kind := range badNoteKinds {
			wantHouse(t, fmt.Sprint("kind ", kind), impl.HearNote(h, 1, impl.Note{Kind: kind, Route: right.Route}), houseError(impl.ErrForm))
		}
	}
}

// TestPromise11And12HearNotes lets houses hear many notes, one after the other.
func TestPromise11And12HearNotes(t *testing.T) {
	froze, left := 0, 0
	for seed := range int64(150) {
		random := rand.New(rand.NewSource(seed))
		h := randomHouse(random)
		for range 60 {
			n := put(route(5+random.Int63n(2), 160+random.Int63n(5), random.Int63n(9), 1+random.Int63n(4), random.Int63n(8)))
			switch random.Intn(8) {
			case 0:
				n = end()
			case 1:
				n = take(impl.KeyOf(n.Route))
			case 2:
				n.Route = roomAt(n.Route.Vni, n.Route.Origin)
			}
			frozen, guests := len(h.Frozen), len(h.Guests)
			h = wantHeard(t, fmt.Sprint("seed ", seed), h, 1+random.Int63n(int64(len(h.Pipes))), n)
			froze += len(h.Frozen) - frozen
			left += guests - len(h.Guests)
			for mac := int64(160); mac < 166; mac++ {
				if !frozenByRule(h, 5, mac) {
					wantNoneBetter(t, h, 5, mac)
				}
			}
			// The guest comes back, and is announced with a greater Seq.
			if door := int64(1 + slices.Index(h.Doors, n.Route.Vni)); n.Kind == impl.NtPut && door > 0 && n.Route.Vni > 0 {
				back := impl.Guest{Vni: n.Route.Vni, Mac: n.Route.Mac, Door: door, Seq: random.Int63n(8), Seen: 300}
				if out := impl.GuestPut(h.Guests, back); n.Route.Kind == impl.RtMac && out.Code == impl.OK {
					h.Guests = out.Guests
				}
			}
		}
	}
	if froze < 50 || left < 300 {
		t.Errorf("only %d guests froze and %d left, too few to tell", froze, left)
	}
}

func TestHearNoteLeavesItsArguments(t *testing.T) {
	for _, given := range append(argumentHouses(), busyHouses()["moves 3 of 161, frozen 7"], busyHouses()["pipes nearly full"]) {
		for _, n := range notesFor(given) {
			h, all := roomyHouse(given)
			before := all()
			for teller := range int64(4) {
				impl.HearNote(h, teller, n)
			}
			if !sameHouses(all(), before) {
				t.Errorf("%+v changes %+v to %+v", n, before, all())
			}
		}
	}
}

// textsOfHouse returns the messages in the pipes of a house.
func textsOfHouse(h impl.House) []string {
	var out []string
	for _, p := range h.Pipes {
		out = append(out, p.Out...)
	}
	return out
}

func TestHearNotesAreNew(t *testing.T) {
	full := busyHouses()["full pipes"]
	for _, given := range []impl.House{someHouse(), full, busyHouses()["moves 3 of 161, frozen 7"], emptyHouse()} {
		for _, n := range notesFor(given) {
			h, _ := roomyHouse(given)
			first, second := impl.HearNote(h, 1, n), impl.HearNote(h, 1, n)
			want := impl.HouseOut{House: copyOfHouse(first.House), Code: first.Code}
			wantNoOverlap(t, "HearNote", textsOfHouse(first.House), textsOfHouse(h))
			wipeHouse(h)
			wantHouse(t, "HearNote after its argument is changed", first, want)
			wipeHouse(first.House)
			wantHouse(t, "HearNote after another result is changed", second, want)
			p := second.House.Pipes[0]
			clear(p.Out[:cap(p.Out)])
			if len(want.House.Pipes) > 1 && !samePipes(second.House.Pipes[1], want.House.Pipes[1]) {
				t.Errorf("%+v: the messages of two pipes share memory", n)
			}
		}
	}
}
