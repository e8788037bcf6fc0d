package tests

import (
	"fmt"
	"math/rand"
	"slices"
	"strings"
	"testing"

	"loop.example/g00667/impl"
)

// randomNote returns a note of any kind about a few guests and rooms.
func randomNote(random *rand.Rand) impl.Note {
	r := route(5+random.Int63n(2), 160+random.Int63n(8), random.Int63n(9), 1+random.Int63n(4), random.Int63n(8))
	switch random.Intn(12) {
	case 0:
		return end()
	case 1, 2:
		return take(impl.KeyOf(r))
	case 3:
		return put(roomAt(r.Vni, r.Origin))
	case 4:
		return put(stuck(r))
	}
	return put(r)
}

// randomOperation returns an operation that mostly does not fail.
func randomOperation(random *rand.Rand, h impl.House) operation {
	door, mac, teller := 1+random.Int63n(4), 160+random.Int63n(8), 1+random.Int63n(int64(len(h.Pipes)))
	p := h.Pipes[teller-1]
	switch random.Intn(20) {
	case 0:
		return toPin(door, mac)
	case 1, 2, 3:
		return toClear(5+random.Int63n(2), mac)
	case 4, 5, 6, 7:
		return toHearNote(teller, randomNote(random))
	case 8, 9:
		return toHear(teller, nextPackets(p, noteText(randomNote(random)))[0])
	case 10:
		return toHear(teller, nextPackets(p, noteText(randomNote(random)))[1])
	case 11:
		return toHear(teller, impl.Packet{Epoch: max(p.Peer, 1), Echo: p.Epoch, Ack: p.Base + int64(random.Intn(len(p.Out)+1))})
	case 12:
		return toReset(teller)
	case 13:
		return toTick()
	}
	return toLearn(door, mac, random.Int63n(3)*7)
}

func TestPromise11OperationsOnBusyHouses(t *testing.T) {
	for what, h := range busyHouses() {
		same(t, what+": valid", impl.HouseRight(h), true)
		for _, o := range operationsOn(h) {
			wantDone(t, what, h, o)
		}
	}
}

// TestPromise11And12HearNotes lets houses hear many notes, one after the other.
func TestPromise11And12HearNotes(t *testing.T) {
	froze, left := 0, 0
	for seed := range int64(150) {
		random := rand.New(rand.NewSource(seed))
		h := randomHouse(random)
		for range 60 {
			n := put(route(5+random.Int63n(2), 160+random.Int63n(5), random.Int63n(9), 1+random.Int63n(4), random.Int63n(8)))
			switch random.Intn(8) {
			case 0:
				n = end()
			case 1:
				n = take(impl.KeyOf(n.Route))
			case 2:
				n.Route = roomAt(n.Route.Vni, n.Route.Origin)
			}
			frozen, guests := len(h.Frozen), len(h.Guests)
			h = wantDone(t, fmt.Sprint("seed ", seed), h, toHearNote(1+random.Int63n(int64(len(h.Pipes))), n))
			froze += len(h.Frozen) - frozen
			left += guests - len(h.Guests)
			for mac := int64(160); mac < 166; mac++ {
				if !frozenByRule(h, 5, mac) {
					wantNoneBetter(t, h, 5, mac)
				}
			}
			// The guest comes back, and is announced with a greater Seq.
			if door := int64(1 + slices.Index(h.Doors, n.Route.Vni)); n.Kind == impl.NtPut && door > 0 && n.Route.Vni > 0 {
				back := impl.Guest{Vni: n.Route.Vni, Mac: n.Route.Mac, Door: door, Seq: random.Int63n(8), Seen: 300}
				if out := impl.GuestPut(h.Guests, back); n.Route.Kind == impl.RtMac && out.Code == impl.OK {
					h.Guests = out.Guests
				}
			}
		}
	}
	if froze < 50 || left < 300 {
		t.Errorf("only %d guests froze and %d left, too few to tell", froze, left)
	}
}

// TestPromise11OperationsInAnyOrder lets houses do all that they may, and restart rarely.
func TestPromise11OperationsInAnyOrder(t *testing.T) {
	done := 0
	for seed := range int64(200) {
		random := rand.New(rand.NewSource(1000 + seed))
		h := randomHouse(random)
		for range 60 {
			o := randomOperation(random, h)
			if random.Intn(100) == 0 {
				o = toRestart()
			}
			what := fmt.Sprint("seed ", seed)
			next := wantDone(t, what, h, o)
			if o.do(h).Code != impl.OK {
				continue
			}
			done++
			if o.what == toRestart().what || strings.HasPrefix(o.what, "HouseReset") {
				same(t, what+": "+o.what+": the epoch is greater", next.Epoch > h.Epoch, true)
			} else {
				same(t, what+": "+o.what+": the epoch is the same", next.Epoch, h.Epoch)
			}
			h = next
		}
	}
	if done < 8000 {
		t.Errorf("only %d operations were done, too few to tell", done)
	}
}

func TestPromise11EpochsAreGreaterAfterRestarts(t *testing.T) {
	for what, h := range busyHouses() {
		if h.Epoch == impl.MaxTime {
			wantHouse(t, what, impl.HouseRestart(h), houseError(impl.ErrFull))
			wantHouse(t, what, impl.HouseReset(h, 1), houseError(impl.ErrFull))
			continue
		}
		restarted := impl.HouseRestart(h).House
		same(t, what, restarted.Epoch, h.Epoch+1)
		for i, p := range h.Pipes {
			same(t, what+": each pipe restarts", restarted.Pipes[i].Epoch > p.Epoch, true)
			reset := impl.HouseReset(h, int64(i)+1).House
			same(t, what, reset.Epoch, h.Epoch+1)
			same(t, what+": the pipe is reset", reset.Pipes[i].Epoch, h.Epoch+1)
		}
	}
}

// notBelieved returns why a guest need not be assumed to be at the door at which it was heard, or nothing.
func notBelieved(before impl.House, after impl.House, door int64, mac int64) string {
	vni := before.Doors[door-1]
	g, best := guestAtByRule(before.Guests, vni, mac), bestHeldByRule(before, vni, mac)
	isHere := g != impl.Guest{}
	own := ownRouteByRule(guestAtByRule(after.Guests, vni, mac), after.Id)
	switch {
	case frozenByRule(before, vni, mac):
		return "frozen"
	case isHere && g.Sticky && g.Door != door:
		return "pinned at another door"
	case !isHere && best.Sticky:
		return "pinned elsewhere"
	case !isHere && len(before.Guests) == 8:
		return "no room"
	case !isHere && best.Seq == 1000000 || best != (impl.Route{}) && preferred(best, own):
		return "a better route"
	}
	return ""
}

func TestPromise13AssumedWhereItIsHeard(t *testing.T) {
	counts := map[string]int{}
	for seed := range int64(300) {
		random := rand.New(rand.NewSource(2000 + seed))
		h := randomHouse(random)
		for range 50 {
			if out := randomOperation(random, h).do(h); out.Code == impl.OK {
				h = out.House
			}
			door, mac := 1+random.Int63n(4), 160+random.Int63n(8)
			vni := h.Doors[door-1]
			if vni == 0 {
				continue
			}
			if random.Intn(10) == 0 && h.Id != 3 {
				h.Rib = append([]impl.Held{}, ribPutByRule(h.Rib, 1, route(vni, mac, 0, 3, impl.MaxTime)).Rib...)
			}
			after := impl.Learn(h, door, mac, 0).House
			why := notBelieved(h, after, door, mac)
			counts[why]++
			want := placeByRule(h, vni, mac)
			if why == "" {
				want = impl.Place{House: h.Id, Door: door}
			}
			same(t, fmt.Sprintf("seed %d, %q, %+v, door %d, guest %d", seed, why, h, door, mac), impl.PlaceOf(after, vni, mac), want)
			h = after
		}
	}
	for _, why := range []string{"", "frozen", "pinned at another door", "pinned elsewhere", "no room", "a better route"} {
		if counts[why] < 50 {
			t.Errorf("only %d times %q, too few to tell", counts[why], why)
		}
	}
}

// ticked is the house after some time.
func ticked(h impl.House, times int) impl.House {
	for range times {
		h = impl.HouseTick(h).House
	}
	return h
}

// away lets a house hear that a guest of room 5 is at house 3, with a Seq one greater than here.
func away(h impl.House, mac int64) impl.House {
	seq := impl.GuestAt(h.Guests, 5, mac).Seq
	return impl.HearNote(h, 1, put(route(5, mac, 0, 3, seq+1))).House
}

// back lets a house hear a guest of room 5 at its first door.
func back(h impl.House, mac int64) impl.House {
	return impl.Learn(h, 1, mac, 0).House
}

func TestPromise14FrozenAtTheFourthMove(t *testing.T) {
	here, there := impl.Place{House: 2, Door: 1}, impl.Place{House: 3}
	for _, begins := range []string{"here", "there"} {
		for first := range 35 {
			h := openHouse()
			moves := []func(h impl.House, mac int64) impl.House{away, back, away, back}
			want := here
			if begins == "here" {
				h = back(h, 161)
			} else {
				h = away(h, 161)
				moves = append(moves[1:], away)
				want = there
			}
			wantList(t, "no move yet", h.Went, nil)
			// The fourth move is some time after the first one, and the third one at the same time as the fourth.
			h = moves[0](h, 161)
			h = ticked(h, first/2)
			h = moves[1](h, 161)
			h = ticked(h, first-first/2)
			h = moves[2](h, 161)
			what := fmt.Sprint(begins, " at first, fourth move after ", first)
			wantList(t, what+", before it", h.Frozen, nil)
			h = moves[3](h, 161)
			if first < impl.MoveWindow {
				wantList(t, what, h.Frozen, []impl.Frozen{{Vni: 5, Mac: 161, House: want.House, Door: want.Door}})
			} else {
				wantList(t, what, h.Frozen, nil)
			}
			same(t, what, impl.PlaceOf(h, 5, 161), want)
		}
	}
}

func TestPromise14OnlyMovesCount(t *testing.T) {
	h := openHouse()
	for i := range int64(20) {
		h = impl.Learn(h, 1+i%2*2, 161, 1+i).House
		h = impl.HearNote(h, 1, put(route(5, 161, i, 3, 0))).House
		h = impl.HearNote(h, 1, put(route(5, 162, 0, 1+i%2*2, i))).House
		h = impl.HearNote(h, 2, take(impl.Route{Kind: impl.RtMac, Vni: 5, Mac: 161, Origin: 3})).House
	}
	wantList(t, "other doors, addresses and worse routes", h.Went, nil)
	h = openHouse()
	for range 5 {
		h = ticked(back(h, 161), 201)
		wantList(t, "expired", h.Guests, nil)
	}
	wantList(t, "a guest that comes and expires", h.Went, nil)
	h = openHouse()
	for range 3 {
		h = away(back(h, 161), 161)
	}
	// That the guest comes for the first time is no move, and when it is frozen, it moves no more.
	same(t, "four moves", len(h.Went), 4)
	wantList(t, "frozen where the fourth move ended", h.Frozen, []impl.Frozen{{Vni: 5, Mac: 161, House: 2, Door: 1}})
}

func TestPromise14EachGuestAndRoom(t *testing.T) {
	h := openHouse()
	h.Doors = []int64{5, 6, 5, 6}
	// Three moves of each of four guests do not add up.
	for _, name := range [][2]int64{{1, 161}, {1, 162}, {2, 161}, {2, 162}} {
		for seq := range int64(2) {
			h = impl.Learn(h, name[0], name[1], 0).House
			h = impl.HearNote(h, 1, put(route(4+name[0], name[1], 0, 3, 2*seq+1))).House
		}
	}
	same(t, "moves", len(h.Went), 12)
	wantList(t, "nobody yet", h.Frozen, nil)
	h = impl.Learn(h, 4, 161, 0).House
	wantList(t, "only the one that moves again", h.Frozen, []impl.Frozen{{Vni: 6, Mac: 161, House: 2, Door: 4}})
}

func TestPromise14NothingIsAnnouncedWhileFrozen(t *testing.T) {
	here := back(away(back(away(back(openHouse(), 161), 161), 161), 161), 161)
	there := away(back(away(back(away(openHouse(), 161), 161), 161), 161), 161)
	both := copyOfHouse(there)
	both.Guests = []impl.Guest{{Vni: 5, Mac: 161, Door: 1, Seq: 50}}
	for _, h := range []impl.House{here, there, both} {
		place := impl.Place{House: 3}
		if len(h.Frozen) == 1 && h.Frozen[0].House == 2 {
			place = impl.Place{House: 2, Door: 1}
		}
		same(t, "frozen", len(h.Frozen), 1)
		same(t, "frozen at", impl.PlaceOf(h, 5, 161), place)
		for i := range h.Pipes {
			h.Pipes[i].Out = nil
		}
		steps := []operation{toLearn(1, 161, 5), toLearn(3, 161, 6), toHearNote(1, put(route(5, 161, 7, 4, 500))), toHearNote(2, put(stuck(route(5, 161, 7, 1, 0)))), toPin(1, 161)}
		for range 250 {
			steps = append(steps, toTick())
		}
		steps = append(steps, toLearn(3, 161, 8), toReset(1), toHear(2, impl.Packet{Epoch: 9}), toHearNote(2, take(impl.Route{Kind: impl.RtMac, Vni: 5, Mac: 161, Origin: 1})), toHearNote(1, end()))
		for _, o := range steps {
			if out := o.do(h); out.Code == impl.OK {
				h = out.House
			} else {
				same(t, o.what, out.Code, impl.ErrState)
			}
			same(t, "frozen at the same place after "+o.what, impl.PlaceOf(h, 5, 161), place)
		}
		want := []string{noteText(put(roomAt(5, 2))), noteText(put(roomAt(6, 2))), noteText(end())}
		for _, p := range h.Pipes {
			wantList(t, "only the dumps, without the guest", p.Out, want)
		}
	}
}

func TestPromise14WithMaxFrozen(t *testing.T) {
	others := iced(8)
	for i := range others {
		others[i].Mac += 100
	}
	for n := 6; n <= 8; n++ {
		h := openHouse()
		h.Frozen = others[:n]
		h = back(away(back(away(back(h, 161), 161), 161), 161), 161)
		if n < 8 {
			wantList(t, fmt.Sprint("others ", n), h.Frozen, append([]impl.Frozen{{Vni: 5, Mac: 161, House: 2, Door: 1}}, others[:n]...))
			continue
		}
		wantList(t, "no room", h.Frozen, others)
		h = away(h, 161)
		wantList(t, "still no room", h.Frozen, others)
		same(t, "and it goes on moving", impl.PlaceOf(h, 5, 161), impl.Place{House: 3})
		h = impl.Clear(h, others[3].Vni, others[3].Mac).House
		same(t, "one is cleared", len(h.Frozen), 7)
		h = back(h, 161)
		want := append([]impl.Frozen{{Vni: 5, Mac: 161, House: 2, Door: 1}}, slices.Delete(slices.Clone(others), 3, 4)...)
		wantList(t, "the next move freezes it", h.Frozen, want)
	}
	// One that is frozen already does not need room.
	h := openHouse(someGuestHere())
	h.Frozen, h.Went = iced(8), movesAt(298, 299, 300)
	wantEffect(t, "frozen already", h, impl.Learn(h, 1, 161, 12), nil)
}

func TestPromise14AfterClear(t *testing.T) {
	frozen := back(away(back(away(back(openHouse(), 161), 161), 161), 161), 161)
	same(t, "frozen", len(frozen.Frozen), 1)
	h := impl.Clear(frozen, 5, 161).House
	same(t, "still here", impl.PlaceOf(h, 5, 161), impl.Place{House: 2, Door: 1})
	wantList(t, "its moves are forgotten", h.Went, nil)
	for i := range 3 {
		h = []func(h impl.House, mac int64) impl.House{away, back}[i%2](h, 161)
		wantList(t, fmt.Sprint("move ", i+1, " after Clear"), h.Frozen, nil)
	}
	wantList(t, "the fourth move after Clear", back(h, 161).Frozen, []impl.Frozen{{Vni: 5, Mac: 161, House: 2, Door: 1}})
	// That a better route takes it away is its first move then.
	h = impl.Clear(impl.HearNote(frozen, 1, put(route(5, 161, 0, 4, 99))).House, 5, 161).House
	same(t, "taken away", impl.PlaceOf(h, 5, 161), impl.Place{House: 4})
	wantList(t, "its first move", h.Went, []impl.Went{{Vni: 5, Mac: 161, At: 300}})
	h = back(impl.HearNote(back(h, 161), 1, put(route(5, 161, 0, 4, 200))).House, 161)
	wantList(t, "the fourth move", h.Frozen, []impl.Frozen{{Vni: 5, Mac: 161, House: 2, Door: 1}})
}

// wanderer is a house whose guests move, and what the promise says of them.
type wanderer struct {
	house  impl.House
	moves  []impl.Went
	frozen map[[2]int64]impl.Place
}

// step performs an operation and checks who is frozen then, and where.
func (w *wanderer) step(t *testing.T, o operation, mac int64) {
	t.Helper()
	before := w.house
	for i := range before.Pipes {
		before.Pipes[i].Out = nil
	}
	out := o.do(before)
	if out.Code != impl.OK {
		return
	}
	w.house = out.House
	name := [2]int64{5, mac}
	_, was := w.frozen[name]
	cleared := was && strings.HasPrefix(o.what, "Clear")
	if cleared {
		w.moves = movesWithout(w.moves, func(m impl.Went) bool { return m.Mac == mac })
		delete(w.frozen, name)
	}
	from, to := impl.PlaceOf(before, 5, mac), impl.PlaceOf(w.house, 5, mac)
	if cleared {
		// While it was frozen, it may have been assumed to be elsewhere than it was.
		from = impl.Place{}
		if impl.GuestAt(before.Guests, 5, mac) != (impl.Guest{}) {
			from.House = w.house.Id
		}
	}
	// The guest has come from another house, or gone there.
	if from.House != 0 && (from.House == w.house.Id) != (to.House == w.house.Id) && !strings.HasPrefix(o.what, "HouseTick") {
		w.moves = lastMoves(append(w.moves, impl.Went{Vni: 5, Mac: mac, At: w.house.Now}))
		if wentCountByRule(w.moves, 5, mac, w.house.Now) >= 4 && len(w.frozen) < 8 {
			w.frozen[name] = to
		}
	}
	w.check(t, o, was && !cleared, mac)
}

// check compares the frozen guests of the house with those of the promise.
func (w *wanderer) check(t *testing.T, o operation, frozen bool, mac int64) {
	t.Helper()
	same(t, o.what+": how many are frozen", len(w.house.Frozen), len(w.frozen))
	for name, place := range w.frozen {
		same(t, fmt.Sprint(o.what, ": frozen ", name), frozenByRule(w.house, name[0], name[1]), true)
		same(t, fmt.Sprint(o.what, ": place of the frozen ", name), impl.PlaceOf(w.house, name[0], name[1]), place)
	}
	for _, text := range textsOfHouse(w.house) {
		r := impl.NoteRead(text).Note.Route
		if _, is := w.frozen[[2]int64{r.Vni, r.Mac}]; is && (frozen || r.Mac != mac) {
			t.Errorf("%s: %+v is announced, and the guest is frozen", o.what, r)
		}
	}
}

func TestPromise14FrozenExactlyWhenItMovedSoOften(t *testing.T) {
	froze, cleared, full := 0, 0, 0
	for seed := range int64(60) {
		random := rand.New(rand.NewSource(3000 + seed))
		w := wanderer{house: openHouse(), frozen: map[[2]int64]impl.Place{}}
		for range 400 {
			mac := 161 + random.Int63n(3+seed%3*5)
			n, seq := len(w.frozen), max(impl.GuestAt(w.house.Guests, 5, mac).Seq, impl.BestHeld(w.house, 5, mac).Seq)
			switch random.Intn(16) {
			case 0, 1, 2, 3, 4, 5:
				w.step(t, toLearn(1+random.Int63n(2)*2, mac, random.Int63n(9)), mac)
			case 6, 7, 8, 9, 10, 11:
				// Mostly, the guest is there later than here.
				seq = max(seq+1-random.Int63n(4)/3, 0)
				w.step(t, toHearNote(1, put(route(5, mac, 0, 3, seq))), mac)
			case 12:
				if len(w.frozen) < 8 || random.Intn(8) == 0 {
					w.step(t, toClear(5, mac), mac)
				}
			case 13:
				w.step(t, toReset(1+random.Int63n(2)), mac)
			default:
				for range random.Intn(8) {
					w.step(t, toTick(), mac)
				}
			}
			froze += max(len(w.frozen)-n, 0)
			cleared += max(n-len(w.frozen), 0)
			full += len(w.frozen) / 8
		}
	}
	if froze < 300 || cleared < 150 || full < 200 {
		t.Errorf("only %d frozen, %d cleared and %d times as many as there may be, too few to tell", froze, cleared, full)
	}
}
