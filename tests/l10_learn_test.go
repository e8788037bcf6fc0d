package tests

import (
	"fmt"
	"slices"
	"strings"
	"testing"

	"loop.example/g00667/impl"
)

// announcedByRule returns what the document says of announcing a note, for a valid house.
func announcedByRule(h impl.House, n impl.Note) impl.House {
	h = copyOfHouse(h)
	for i, p := range h.Pipes {
		if out := putByRule(p, noteText(n)); out.Code == impl.OK {
			h.Pipes[i] = out.Pipe
		}
	}
	return h
}

// countedByRule returns what the document says of counting a move, for a valid house.
func countedByRule(h impl.House, vni int64, mac int64) impl.House {
	h = copyOfHouse(h)
	h.Went = wentPutByRule(h.Went, impl.Went{Vni: vni, Mac: mac, At: h.Now}).Went
	if wentCountByRule(h.Went, vni, mac, h.Now) < 4 || frozenByRule(h, vni, mac) || len(h.Frozen) >= 8 {
		return h
	}
	place := placeByRule(h, vni, mac)
	h.Frozen = append(h.Frozen, impl.Frozen{Vni: vni, Mac: mac, House: place.House, Door: place.Door})
	slices.SortFunc(h.Frozen, func(a impl.Frozen, b impl.Frozen) int {
		return slices.Compare([]int64{a.Vni, a.Mac}, []int64{b.Vni, b.Mac})
	})
	return h
}

// checkedByRule returns what the document says of checking a guest, for a valid house.
func checkedByRule(h impl.House, vni int64, mac int64) impl.House {
	found := guestAtByRule(h.Guests, vni, mac)
	best := bestHeldByRule(h, vni, mac)
	own := ownRouteByRule(found, h.Id)
	if found == (impl.Guest{}) || best == (impl.Route{}) || frozenByRule(h, vni, mac) || !preferred(best, own) {
		return h
	}
	h = copyOfHouse(h)
	h.Guests = guestDropByRule(h.Guests, vni, mac).Guests
	key := impl.Route{Kind: impl.RtMac, Vni: vni, Mac: mac, Origin: h.Id}
	return countedByRule(announcedByRule(h, take(key)), vni, mac)
}

// hearNoteByRule returns what the document says of HearNote, for a valid house and note and one of its tellers.
func hearNoteByRule(h impl.House, teller int64, n impl.Note) impl.HouseOut {
	var out impl.RibOut
	switch {
	case n.Kind == impl.NtEnd:
		out = ribSweepByRule(h.Rib, teller)
	case n.Kind == impl.NtTake:
		out = ribTakeByRule(h.Rib, teller, n.Route)
	case n.Route.Origin == h.Id:
		return impl.HouseOut{House: h}
	default:
		out = ribPutByRule(h.Rib, teller, n.Route)
	}
	if out.Code != impl.OK {
		return impl.HouseOut{House: h}
	}
	h.Rib = out.Rib
	if n.Kind == impl.NtPut && n.Route.Kind == impl.RtMac {
		h = checkedByRule(h, n.Route.Vni, n.Route.Mac)
	}
	return impl.HouseOut{House: h}
}

// putOf is the note that announces a guest at a house.
func putOf(g impl.Guest, id int64) impl.Note {
	return put(ownRouteByRule(g, id))
}

// takeOf is the note that withdraws what putOf announces.
func takeOf(g impl.Guest, id int64) impl.Note {
	return take(impl.Route{Kind: impl.RtMac, Vni: g.Vni, Mac: g.Mac, Origin: id})
}

// doorFaultByRule returns the code with which Learn fails, or OK.
func doorFaultByRule(h impl.House, door int64, mac int64, ip int64) int64 {
	switch {
	case !houseRightByRule(h):
		return impl.ErrForm
	case door < 1 || door > 4 || h.Doors[door-1] == 0:
		return impl.ErrNone
	case mac < 0 || mac > 281474976710655 || mac>>40&1 == 1 || ip < 0 || ip > 4294967295:
		return impl.ErrForm
	}
	return impl.OK
}

// learnByRule returns what the document says of Learn.
func learnByRule(h impl.House, door int64, mac int64, ip int64) impl.HouseOut {
	if code := doorFaultByRule(h, door, mac, ip); code != impl.OK {
		return houseError(code)
	}
	vni := h.Doors[door-1]
	found, best := guestAtByRule(h.Guests, vni, mac), bestHeldByRule(h, vni, mac)
	isHere, comes := found != impl.Guest{}, best != impl.Route{}
	nothing := frozenByRule(h, vni, mac) || isHere && found.Sticky && found.Door != door
	if nothing || !isHere && (best.Sticky || best.Seq == 1000000 || len(h.Guests) == 8) {
		return impl.HouseOut{House: h}
	}
	g := impl.Guest{Vni: vni, Mac: mac, Ip: ip, Door: door, Seen: h.Now}
	if isHere {
		g.Seq, g.Sticky = found.Seq, found.Sticky
	} else if comes {
		g.Seq = best.Seq + 1
	}
	if isHere && ip == 0 {
		g.Ip = found.Ip
	}
	h = copyOfHouse(h)
	h.Guests = guestPutByRule(h.Guests, g).Guests
	if !isHere || g.Ip != found.Ip {
		h = announcedByRule(h, putOf(g, h.Id))
	}
	if !isHere && comes {
		h = countedByRule(h, vni, mac)
	}
	return impl.HouseOut{House: h}
}

// pinByRule returns what the document says of Pin.
func pinByRule(h impl.House, door int64, mac int64) impl.HouseOut {
	if code := doorFaultByRule(h, door, mac, 0); code != impl.OK {
		return houseError(code)
	}
	vni := h.Doors[door-1]
	found := guestAtByRule(h.Guests, vni, mac)
	switch {
	case frozenByRule(h, vni, mac):
		return houseError(impl.ErrState)
	case bestHeldByRule(h, vni, mac).Sticky:
		return houseError(impl.ErrThere)
	case found == impl.Guest{} && len(h.Guests) == 8:
		return houseError(impl.ErrFull)
	}
	g := impl.Guest{Vni: vni, Mac: mac, Ip: found.Ip, Door: door, Seen: h.Now, Sticky: true}
	h = copyOfHouse(h)
	h.Guests = guestPutByRule(h.Guests, g).Guests
	return impl.HouseOut{House: announcedByRule(h, putOf(g, h.Id))}
}

// clearByRule returns what the document says of Clear.
func clearByRule(h impl.House, vni int64, mac int64) impl.HouseOut {
	switch {
	case !houseRightByRule(h):
		return houseError(impl.ErrForm)
	case !frozenByRule(h, vni, mac):
		return houseError(impl.ErrNone)
	}
	h = copyOfHouse(h)
	h.Frozen = slices.DeleteFunc(h.Frozen, func(f impl.Frozen) bool { return f.Vni == vni && f.Mac == mac })
	h.Went = wentDropByRule(h.Went, vni, mac).Went
	h = checkedByRule(h, vni, mac)
	if g := guestAtByRule(h.Guests, vni, mac); g != (impl.Guest{}) {
		h = announcedByRule(h, putOf(g, h.Id))
	}
	return impl.HouseOut{House: h}
}

// tellerFaultByRule returns the code with which functions with a teller fail first, or OK.
func tellerFaultByRule(h impl.House, teller int64) int64 {
	switch {
	case !houseRightByRule(h):
		return impl.ErrForm
	case teller < 1 || teller > int64(len(h.Pipes)):
		return impl.ErrNone
	}
	return impl.OK
}

// begunByRule returns what the document says of a session that starts anew, for a valid house and one of its tellers.
func begunByRule(h impl.House, teller int64) impl.House {
	h = copyOfHouse(h)
	h.Rib = ribStaleByRule(h.Rib, teller).Rib
	for _, text := range dumpByRule(ownByRule(h)) {
		if out := putByRule(h.Pipes[teller-1], text); out.Code == impl.OK {
			h.Pipes[teller-1] = out.Pipe
		}
	}
	return h
}

// houseHearByRule returns what the document says of HouseHear.
func houseHearByRule(h impl.House, teller int64, x impl.Packet) impl.HouseOut {
	if code := tellerFaultByRule(h, teller); code != impl.OK {
		return houseError(code)
	}
	if !impl.PacketRight(x) {
		return houseError(impl.ErrForm)
	}
	h = copyOfHouse(h)
	out := hearByRule(h.Pipes[teller-1], x)
	h.Pipes[teller-1] = out.Pipe
	if out.Fresh {
		h = begunByRule(h, teller)
	}
	for _, text := range out.Texts {
		if n := impl.NoteRead(text); n.Code == impl.OK {
			h = hearNoteByRule(h, teller, n.Note).House
		}
	}
	return impl.HouseOut{House: h}
}

// houseResetByRule returns what the document says of HouseReset.
func houseResetByRule(h impl.House, teller int64) impl.HouseOut {
	if code := tellerFaultByRule(h, teller); code != impl.OK {
		return houseError(code)
	}
	if h.Epoch == 1000000 {
		return houseError(impl.ErrFull)
	}
	h = copyOfHouse(h)
	h.Epoch++
	h.Pipes[teller-1] = impl.Pipe{Epoch: h.Epoch, Peer: h.Pipes[teller-1].Peer}
	return impl.HouseOut{House: begunByRule(h, teller)}
}

// houseRestartByRule returns what the document says of HouseRestart.
func houseRestartByRule(h impl.House) impl.HouseOut {
	switch {
	case !houseRightByRule(h):
		return houseError(impl.ErrForm)
	case h.Epoch == 1000000:
		return houseError(impl.ErrFull)
	}
	out := houseNewByRule(h.Id, h.Epoch+1, h.Doors, int64(len(h.Pipes)))
	out.House.Now = h.Now
	return out
}

// houseTickByRule returns what the document says of HouseTick.
func houseTickByRule(h impl.House) impl.HouseOut {
	switch {
	case !houseRightByRule(h):
		return houseError(impl.ErrForm)
	case h.Now == 1000000:
		return houseError(impl.ErrFull)
	}
	h = copyOfHouse(h)
	h.Now++
	h.Went = wentTrimByRule(h.Went, h.Now).Went
	for _, g := range guestsAgeByRule(h.Guests, h.Now).Gone {
		if !frozenByRule(h, g.Vni, g.Mac) {
			h.Guests = guestDropByRule(h.Guests, g.Vni, g.Mac).Guests
			h = announcedByRule(h, takeOf(g, h.Id))
		}
	}
	return impl.HouseOut{House: h}
}

// operation is something that a house may do, and what the document says of it.
type operation struct {
	what string
	do   func(h impl.House) impl.HouseOut
	rule func(h impl.House) impl.HouseOut
}

func toLearn(door int64, mac int64, ip int64) operation {
	return operation{
		fmt.Sprint("Learn door ", door, ", guest ", mac, ", address ", ip),
		func(h impl.House) impl.HouseOut { return impl.Learn(h, door, mac, ip) },
		func(h impl.House) impl.HouseOut { return learnByRule(h, door, mac, ip) },
	}
}

func toPin(door int64, mac int64) operation {
	return operation{
		fmt.Sprint("Pin door ", door, ", guest ", mac),
		func(h impl.House) impl.HouseOut { return impl.Pin(h, door, mac) },
		func(h impl.House) impl.HouseOut { return pinByRule(h, door, mac) },
	}
}

func toClear(vni int64, mac int64) operation {
	return operation{
		fmt.Sprint("Clear room ", vni, ", guest ", mac),
		func(h impl.House) impl.HouseOut { return impl.Clear(h, vni, mac) },
		func(h impl.House) impl.HouseOut { return clearByRule(h, vni, mac) },
	}
}

func toHearNote(teller int64, n impl.Note) operation {
	return operation{
		fmt.Sprintf("HearNote teller %d, %+v", teller, n),
		func(h impl.House) impl.HouseOut { return impl.HearNote(h, teller, n) },
		func(h impl.House) impl.HouseOut {
			code := tellerFaultByRule(h, teller)
			if code == impl.OK && !impl.NoteRight(n) {
				code = impl.ErrForm
			}
			if code != impl.OK {
				return houseError(code)
			}
			return hearNoteByRule(h, teller, n)
		},
	}
}

func toHear(teller int64, x impl.Packet) operation {
	return operation{
		fmt.Sprintf("HouseHear teller %d, %+v", teller, x),
		func(h impl.House) impl.HouseOut { return impl.HouseHear(h, teller, x) },
		func(h impl.House) impl.HouseOut { return houseHearByRule(h, teller, x) },
	}
}

func toReset(teller int64) operation {
	return operation{
		fmt.Sprint("HouseReset teller ", teller),
		func(h impl.House) impl.HouseOut { return impl.HouseReset(h, teller) },
		func(h impl.House) impl.HouseOut { return houseResetByRule(h, teller) },
	}
}

func toRestart() operation {
	return operation{"HouseRestart", impl.HouseRestart, houseRestartByRule}
}

func toTick() operation {
	return operation{"HouseTick", impl.HouseTick, houseTickByRule}
}

// wantDone checks what an operation makes of a house against the document's wording, and returns the house.
func wantDone(t *testing.T, what string, h impl.House, o operation) impl.House {
	t.Helper()
	got, want := o.do(h), o.rule(h)
	wantHouse(t, what+": "+o.what, got, want)
	same(t, what+": "+o.what+": valid", impl.HouseRight(got.House), want.Code == impl.OK)
	return got.House
}

// guestOperations are all that a house may do about one guest.
func guestOperations(vni int64, mac int64) []operation {
	out := []operation{toClear(vni, mac)}
	for door := int64(0); door <= 5; door++ {
		for _, ip := range []int64{-1, 0, 11, 77} {
			out = append(out, toLearn(door, mac, ip))
		}
		out = append(out, toPin(door, mac))
	}
	return out
}

// packetsFor are packets for a pipe: with all kinds of numbers, and with a text if it is the next one.
func packetsFor(p impl.Pipe, text string) []impl.Packet {
	out := []impl.Packet{{}, {Epoch: p.Peer + 1, Text: text}, {Epoch: impl.MaxTime + 1, Echo: p.Epoch, Num: p.In + 1, Text: text}}
	for epoch := p.Peer - 1; epoch <= p.Peer+1; epoch++ {
		for echo := p.Epoch - 1; echo <= p.Epoch; echo++ {
			for _, ack := range []int64{0, p.Base + 1} {
				for _, num := range []int64{0, 1, p.In, p.In + 1, p.In + 2} {
					x := impl.Packet{Epoch: epoch, Echo: echo, Num: num, Ack: ack}
					if num > 0 {
						x.Text = text
					}
					out = append(out, x)
				}
			}
		}
	}
	return out
}

// nextPackets are packets with a text for a pipe that takes it: one of the same session, and one of a new one.
func nextPackets(p impl.Pipe, text string) []impl.Packet {
	return []impl.Packet{
		{Epoch: p.Peer, Echo: p.Epoch, Num: p.In + 1, Text: text},
		{Epoch: p.Peer + 1, Echo: p.Epoch, Num: 1, Text: text},
	}
}

// noNotes are texts that are no notes.
func noNotes() []string {
	right := noteText(put(macRoute()))
	return []string{"", "x", right + "x", right[1:], right[:len(right)-1], "\x06\x06", "\x08", noteText(take(macRoute())), strings.Repeat("y", impl.MaxText)}
}

// tellerOperations are all that a house may do about one of its tellers.
func tellerOperations(h impl.House, teller int64) []operation {
	out := []operation{toReset(teller)}
	p := h.Pipes[teller-1]
	for _, x := range packetsFor(p, noteText(put(route(5, 161, 9, neighbour(h.Id), 9)))) {
		out = append(out, toHear(teller, x))
	}
	for _, text := range noNotes() {
		for _, x := range nextPackets(p, text) {
			out = append(out, toHear(teller, x))
		}
	}
	for _, n := range notesFor(h) {
		out = append(out, toHearNote(teller, n))
		for _, x := range nextPackets(p, noteText(n)) {
			out = append(out, toHear(teller, x))
		}
	}
	return out
}

// operationsOn are all that a house may do, with all kinds of arguments.
func operationsOn(h impl.House) []operation {
	out := []operation{toRestart(), toTick()}
	names := append(namesIn(h), [2]int64{5, 170}, [2]int64{5, -1}, [2]int64{5, 1 << 40}, [2]int64{0, impl.MaxMac + 1}, [2]int64{-1, 161})
	for i, name := range names {
		if !slices.Contains(names[:i], name) {
			out = append(out, guestOperations(name[0], name[1])...)
		}
	}
	for teller := range h.Pipes {
		out = append(out, tellerOperations(h, int64(teller)+1)...)
	}
	for _, teller := range append([]int64{0, int64(len(h.Pipes)) + 1}, peers.out...) {
		out = append(out, toReset(teller), toHear(teller, somePacket()), toHear(teller, impl.Packet{}), toHearNote(teller, end()), toHearNote(teller, impl.Note{}))
	}
	return out
}

// notesFor are notes of all kinds about guests and rooms that some house knows, and about others.
func notesFor(h impl.House) []impl.Note {
	out := []impl.Note{end()}
	var routes []impl.Route
	for _, x := range h.Rib {
		routes = append(routes, x.Route, renewed(x.Route))
	}
	for origin := int64(1); origin <= 4; origin++ {
		routes = append(routes, roomAt(5, origin), roomAt(8, origin), route(6, 170, 9, origin, 1))
		for _, g := range h.Guests {
			for seq := max(g.Seq-1, 0); seq <= g.Seq+1; seq++ {
				routes = append(routes, route(g.Vni, g.Mac, 9, origin, seq), stuck(route(g.Vni, g.Mac, 9, origin, seq)))
			}
		}
	}
	for _, r := range routes {
		out = append(out, put(r), take(impl.KeyOf(r)))
	}
	return out
}

// crowdHere returns n guests of room 5, the last ones of which some house does not know.
func crowdHere(n int) []impl.Guest {
	var out []impl.Guest
	for i := range int64(n) {
		out = append(out, impl.Guest{Vni: 5, Mac: 163 + i, Ip: 13 + i, Door: 1 + i%2*2, Seq: 1, Seen: 100 * (i % 3), Sticky: i == 0})
	}
	return out
}

// heldWithSeq returns routes of one guest of some house with a Seq, and of another one with a Seq and Sticky.
func heldWithSeq(seq int64) []impl.Held {
	return []impl.Held{held(1, route(5, 161, 21, 3, seq)), held(1, stuck(route(5, 162, 22, 3, seq)))}
}

// busyHouses are valid houses in which operations have different effects.
func busyHouses() map[string]impl.House {
	out := map[string]impl.House{
		"some house":      someHouse(),
		"an empty house":  emptyHouse(),
		"nobody frozen":   houseWith(func(h *impl.House) { h.Frozen = nil }),
		"all frozen":      houseWith(func(h *impl.House) { h.Frozen = iced(8) }),
		"the last time":   houseWith(func(h *impl.House) { h.Now = impl.MaxTime }),
		"a full table":    houseWith(func(h *impl.House) { h.Rib = manyHeld()[30:90] }),
		"unknown tellers": houseWith(func(h *impl.House) { h.Pipes = []impl.Pipe{{Epoch: 1}, {Epoch: 7}} }),
		"one teller": houseWith(func(h *impl.House) {
			h.Pipes, h.Rib = h.Pipes[:1], []impl.Held{held(1, route(5, 161, 21, 3, 2)), marked(held(1, route(5, 162, 22, 3, 2)))}
		}),
		"full pipes": houseWith(func(h *impl.House) {
			h.Pipes[0].Out = messages(impl.MaxOut)
			h.Pipes[1] = impl.Pipe{Epoch: 3, Peer: 1, Base: impl.MaxTime}
		}),
		"pipes nearly full": houseWith(func(h *impl.House) {
			h.Pipes[0].Out = messages(impl.MaxOut - 1)
			h.Pipes[1] = impl.Pipe{Epoch: 3, Peer: 1, Base: impl.MaxTime - 1}
		}),
		"the last epoch":                houseWith(func(h *impl.House) { h.Epoch = impl.MaxTime }),
		"the last epoch but one":        houseWith(func(h *impl.House) { h.Epoch = impl.MaxTime - 1 }),
		"the last time but one":         houseWith(func(h *impl.House) { h.Now = impl.MaxTime - 1 }),
		"as many guests as fit":         houseWith(func(h *impl.House) { h.Guests = crowdHere(8) }),
		"as many guests but one":        houseWith(func(h *impl.House) { h.Guests = crowdHere(7) }),
		"the last Seq":                  houseWith(func(h *impl.House) { h.Guests, h.Rib = nil, heldWithSeq(impl.MaxTime) }),
		"the last Seq but one":          houseWith(func(h *impl.House) { h.Guests, h.Rib = nil, heldWithSeq(impl.MaxTime-1) }),
		"as many moves as there may be": houseWith(func(h *impl.House) { h.Now, h.Went, h.Frozen = 400, walk(impl.MaxMoves), nil }),
	}
	for moves := range 5 {
		for frozen := 7; frozen <= 8; frozen++ {
			for _, mac := range []int64{161, 162, 163} {
				out[fmt.Sprint("moves ", moves, " of ", mac, ", frozen ", frozen)] = houseWith(func(h *impl.House) {
					h.Went = slices.Repeat([]impl.Went{{Vni: 5, Mac: mac, At: 271}}, moves)
					h.Frozen = iced(8)[:frozen]
					for i := range h.Frozen {
						h.Frozen[i].Mac += 100
					}
				})
			}
		}
	}
	return out
}

func TestHearNotePut(t *testing.T) {
	h := hearing(nil)
	r := route(5, 161, 11, 3, 4)
	for teller := int64(1); teller <= 2; teller++ {
		got := impl.HearNote(h, teller, put(r)).House
		wantList(t, "a route of another house", got.Rib, []impl.Held{held(teller, r)})
		same(t, "its place", impl.PlaceOf(got, 5, 161), impl.Place{House: 3})
		got = impl.HearNote(h, teller, put(roomAt(9, 4))).House
		wantList(t, "a room of another house", got.Rib, []impl.Held{held(teller, roomAt(9, 4))})
		for _, own := range []impl.Route{route(5, 161, 11, 2, 4), roomAt(5, 2)} {
			wantHouse(t, "a route of this house", impl.HearNote(h, teller, put(own)), impl.HouseOut{House: h})
		}
		stale := copyOfHouse(h)
		stale.Rib = []impl.Held{marked(held(teller, r))}
		got = impl.HearNote(stale, teller, put(renewed(r))).House
		wantList(t, "announced again", got.Rib, []impl.Held{held(teller, renewed(r))})
	}
}

func TestHearNotePutOfABetterRoute(t *testing.T) {
	h := hearing(nil, someGuestHere())
	h.Pipes[1].Peer = 1
	h.Went = nil
	r := route(5, 161, 9, 3, 5)
	got := impl.HearNote(h, 2, put(r)).House
	want := copyOfHouse(h)
	want.Rib, want.Guests, want.Went = []impl.Held{held(2, r)}, nil, []impl.Went{{Vni: 5, Mac: 161, At: 300}}
	withdrawn := noteText(take(impl.Route{Kind: impl.RtMac, Vni: 5, Mac: 161, Origin: 2}))
	for i := range want.Pipes {
		want.Pipes[i].Out = append(want.Pipes[i].Out, withdrawn)
	}
	wantHouse(t, "the guest has moved there", impl.HouseOut{House: got}, impl.HouseOut{House: want})
	for _, worse := range []impl.Route{route(5, 161, 9, 3, 4), route(5, 161, 9, 1, 3), route(5, 162, 9, 1, 9), route(6, 161, 9, 1, 9)} {
		got := impl.HearNote(h, 2, put(worse)).House
		want := copyOfHouse(h)
		want.Rib = []impl.Held{held(2, worse)}
		wantHouse(t, fmt.Sprintf("the guest has not moved: %+v", worse), impl.HouseOut{House: got}, impl.HouseOut{House: want})
	}
	// The better route may be another one than that of the note.
	h.Rib = []impl.Held{held(1, route(5, 161, 9, 4, 6))}
	got = impl.HearNote(h, 2, put(route(5, 161, 9, 3, 0))).House
	wantList(t, "another route is better", got.Guests, nil)
	h.Frozen = []impl.Frozen{{Vni: 5, Mac: 161, House: 2, Door: 1}}
	got = impl.HearNote(h, 2, put(r)).House
	wantList(t, "a frozen guest stays", got.Guests, h.Guests)
	wantList(t, "a frozen guest does not move", got.Went, nil)
	same(t, "nothing is announced of it", samePipes(got.Pipes[0], h.Pipes[0]), true)
}

func TestHearNoteWithAFullTable(t *testing.T) {
	full := sortedRib(append(ribOfOne(impl.MaxHeld-1), held(1, route(5, 161, 9, 3, 5))))
	h := openHouse(someGuestHere())
	h.Rib = full
	for _, n := range []impl.Note{put(route(5, 170, 9, 3, 5)), put(roomAt(9, 3))} {
		for teller := int64(1); teller <= 2; teller++ {
			wantEffect(t, fmt.Sprintf("teller %d, %+v", teller, n), h, impl.HearNote(h, teller, n), nil)
		}
	}
	// What is not stored is no reason to look again where the guest is.
	wantEffect(t, "the same guest from the other teller", h, impl.HearNote(h, 2, put(route(5, 161, 9, 3, 5))), nil)
	known := full[7].Route
	known.Ip = 1
	wantEffect(t, "a key that is there", h, impl.HearNote(h, 1, put(known)), func(h *impl.House) { h.Rib[7].Route.Ip = 1 })
	wantEffect(t, "a key that is there, from the other teller", h, impl.HearNote(h, 2, put(known)), nil)
	h.Rib = h.Rib[:impl.MaxHeld-1]
	same(t, "room for one", len(impl.HearNote(h, 2, put(known)).House.Rib), impl.MaxHeld)
}

// ribOfOne returns n routes of guests from house 3 that the first teller announced.
func ribOfOne(n int) []impl.Held {
	var out []impl.Held
	for i := range int64(n) {
		out = append(out, held(1, route(6, 200+i, 9, 3, 1)))
	}
	return out
}

func TestHearNoteFreezes(t *testing.T) {
	// Three moves within the window, and this is the fourth.
	h := hearing(nil, someGuestHere())
	h.Went = movesAt(271, 280, 300)
	r := route(5, 161, 9, 3, 5)
	got := impl.HearNote(h, 1, put(r)).House
	wantList(t, "frozen at the fourth move", got.Frozen, []impl.Frozen{{Vni: 5, Mac: 161, House: 3}})
	h.Went[0].At = 270
	got = impl.HearNote(h, 1, put(r)).House
	wantList(t, "the first move is too long ago", got.Frozen, nil)
	h.Went[0] = impl.Went{Vni: 6, Mac: 161, At: 271}
	got = impl.HearNote(h, 1, put(r)).House
	wantList(t, "the first move was another guest's", got.Frozen, nil)
	h.Went = movesAt(271, 280, 300)
	for _, n := range []int{7, 8} {
		h.Frozen = iced(n)
		for i := range h.Frozen {
			h.Frozen[i].Mac += 100
		}
		want := slices.Clone(h.Frozen)
		if n == 7 {
			want = append([]impl.Frozen{{Vni: 5, Mac: 161, House: 3}}, want...)
		}
		got = impl.HearNote(h, 1, put(r)).House
		wantList(t, fmt.Sprint("frozen before ", n), got.Frozen, want)
		wantList(t, fmt.Sprint("gone, frozen before ", n), got.Guests, nil)
	}
}

func TestHearNoteTakeAndEnd(t *testing.T) {
	h := someHouse()
	for i, x := range h.Rib {
		got := impl.HearNote(h, x.Peer, take(impl.KeyOf(x.Route))).House
		wantList(t, fmt.Sprint("entry ", i, " withdrawn"), got.Rib, slices.Delete(slices.Clone(h.Rib), i, i+1))
	}
	for _, key := range []impl.Route{{Kind: impl.RtMac, Vni: 5, Mac: 167, Origin: 3}, roomAt(6, 4), {Kind: impl.RtMac, Vni: 9, Mac: 9, Origin: 1}} {
		// Only the second teller announced the guests, and only the first one the room.
		teller := int64(1)
		if key.Kind == impl.RtRoom {
			teller = 2
		}
		wantHouse(t, fmt.Sprintf("%+v, which teller %d has not announced", key, teller), impl.HearNote(h, teller, take(key)), impl.HouseOut{House: h})
	}
	for teller := int64(1); teller <= 2; teller++ {
		got := impl.HearNote(h, teller, end()).House
		rest, _ := without(h.Rib, func(x impl.Held) bool { return x.Peer == teller && x.Stale })
		wantList(t, "swept", got.Rib, rest)
		same(t, "something was Stale", len(rest) < len(h.Rib), true)
		got.Rib = h.Rib
		wantHouse(t, "all else is as before", impl.HouseOut{House: got}, impl.HouseOut{House: h})
	}
}

func TestHearNoteErrorsInOrder(t *testing.T) {
	right, wrong := put(route(5, 161, 9, 3, 9)), []impl.Note{{}, put(impl.Route{}), take(route(5, 161, 9, 3, 9)), {Kind: impl.NtEnd, Route: roomAt(5, 1)}, {Kind: 4}, {Kind: -1}}
	notes := append(wrong, right, end(), take(roomAt(5, 1)))
	tellers := append([]int64{1, 2, 3}, origins.out...)
	for i, h := range wrongHouses() {
		for _, teller := range tellers {
			for _, n := range notes {
				wantHouse(t, fmt.Sprintf("wrong house %d, teller %d, %+v", i, teller, n), impl.HearNote(h, teller, n), houseError(impl.ErrForm))
			}
		}
	}
	one := houseWith(func(h *impl.House) { h.Pipes, h.Rib = h.Pipes[:1], nil })
	for most, h := range map[int64]impl.House{1: one, 2: someHouse()} {
		for _, teller := range append([]int64{most + 1, 3, 1 + 1<<32, 2 + 1<<32}, origins.out...) {
			for _, n := range notes {
				wantHouse(t, fmt.Sprintf("teller %d, %+v", teller, n), impl.HearNote(h, teller, n), houseError(impl.ErrNone))
			}
		}
		for teller := int64(1); teller <= most; teller++ {
			for _, n := range wrong {
				wantHouse(t, fmt.Sprintf("teller %d, %+v", teller, n), impl.HearNote(h, teller, n), houseError(impl.ErrForm))
			}
			same(t, "no error", impl.HearNote(h, teller, right).Code, impl.OK)
		}
		for _, kind := range badNoteKinds {
			wantHouse(t, fmt.Sprint("kind ", kind), impl.HearNote(h, 1, impl.Note{Kind: kind, Route: right.Route}), houseError(impl.ErrForm))
		}
	}
}

// openHouse is a house with these guests whose pipes take messages, and which knows of nothing else.
func openHouse(guests ...impl.Guest) impl.House {
	return houseWith(func(h *impl.House) {
		h.Pipes = []impl.Pipe{{Epoch: 7, Peer: 3}, {Epoch: 6, Peer: 4, Base: 2, In: 1, Out: []string{"before"}}}
		h.Rib, h.Guests, h.Went, h.Frozen = nil, guests, nil, nil
	})
}

// openHouseWith is an open house with a change.
func openHouseWith(change func(h *impl.House), guests ...impl.Guest) impl.House {
	h := openHouse(guests...)
	change(&h)
	return h
}

// knowing is an open house that received these routes from its first teller.
func knowing(routes []impl.Route, guests ...impl.Guest) impl.House {
	return openHouseWith(func(h *impl.House) { h.Rib = hearing(routes).Rib }, guests...)
}

// wantEffect checks that an operation changes an open house just so, and puts these notes into all of its pipes.
func wantEffect(t *testing.T, what string, before impl.House, got impl.HouseOut, change func(h *impl.House), notes ...impl.Note) {
	t.Helper()
	want := copyOfHouse(before)
	if change != nil {
		change(&want)
	}
	for i := range want.Pipes {
		for _, n := range notes {
			want.Pipes[i].Out = append(want.Pipes[i].Out, noteText(n))
		}
	}
	wantHouse(t, what, got, impl.HouseOut{House: want})
	same(t, what+": valid", impl.HouseRight(got.House), true)
}

func TestLearnOfANewGuest(t *testing.T) {
	h := openHouse()
	for door, vni := range map[int64]int64{1: 5, 2: 6, 3: 5} {
		for _, mac := range singles.in {
			for _, ip := range ips.in {
				got := impl.Learn(h, door, mac, ip)
				g := impl.Guest{Vni: vni, Mac: mac, Ip: ip, Door: door, Seen: 300}
				what := fmt.Sprintf("%+v", g)
				wantEffect(t, what, h, got, func(h *impl.House) { h.Guests = []impl.Guest{g} }, put(route(vni, mac, ip, 2, 0)))
				same(t, what, impl.PlaceOf(got.House, vni, mac), impl.Place{House: 2, Door: door})
			}
		}
	}
	// It may be known in another room, or as another guest, or only from this house itself.
	others := knowing([]impl.Route{route(6, 161, 9, 3, 9), route(5, 160, 9, 3, 9), stuck(route(5, 161, 9, 2, 9)), roomAt(5, 3)}, impl.Guest{Vni: 6, Mac: 161, Door: 2, Seq: 4}, impl.Guest{Vni: 6, Mac: 162, Door: 2})
	others.Frozen = []impl.Frozen{{Vni: 5, Mac: 162}, {Vni: 6, Mac: 161}}
	g := impl.Guest{Vni: 5, Mac: 161, Door: 3, Seen: 300}
	wantEffect(t, "known as others", others, impl.Learn(others, 3, 161, 0), func(h *impl.House) { h.Guests = append([]impl.Guest{g}, h.Guests...) }, put(route(5, 161, 0, 2, 0)))
}

func TestLearnOfAGuestHere(t *testing.T) {
	for _, g := range []impl.Guest{someGuestHere(), pinned(someGuestHere())} {
		for _, routes := range [][]impl.Route{nil, {route(5, 161, 9, 3, 4)}, {route(5, 161, 9, 3, 9)}, {stuck(route(5, 161, 9, 3, 9))}, {route(5, 161, 9, 3, impl.MaxTime)}} {
			h := knowing(routes, g)
			h.Went = movesAt(290, 291, 292, 293)
			for _, door := range []int64{1, 3} {
				if g.Sticky && door != 3 {
					for _, ip := range []int64{0, 11, 12} {
						wantEffect(t, fmt.Sprint("pinned at another door, address ", ip), h, impl.Learn(h, door, 161, ip), nil)
					}
					continue
				}
				want := g
				want.Door, want.Seen = door, 300
				for _, ip := range []int64{0, 11} {
					wantEffect(t, fmt.Sprint("door ", door, ", address ", ip), h, impl.Learn(h, door, 161, ip), func(h *impl.House) { h.Guests = []impl.Guest{want} })
				}
				for _, ip := range []int64{1, 12, impl.MaxIp} {
					want.Ip = ip
					wantEffect(t, fmt.Sprint("door ", door, ", address ", ip), h, impl.Learn(h, door, 161, ip), func(h *impl.House) { h.Guests = []impl.Guest{want} }, putOf(want, 2))
				}
			}
		}
	}
	// The address of this guest was unknown.
	g := someGuestHere()
	g.Ip = 0
	h := openHouse(g)
	g.Seen = 300
	wantEffect(t, "unknown, and still so", h, impl.Learn(h, 3, 161, 0), func(h *impl.House) { h.Guests = []impl.Guest{g} })
	g.Ip = 7
	wantEffect(t, "no longer unknown", h, impl.Learn(h, 3, 161, 7), func(h *impl.House) { h.Guests = []impl.Guest{g} }, put(route(5, 161, 7, 2, 4)))
	// Its MAC address is also heard in the other room.
	there := impl.Guest{Vni: 6, Mac: 161, Ip: 11, Door: 2, Seen: 300}
	wantEffect(t, "the other room", h, impl.Learn(h, 2, 161, 11), func(h *impl.House) { h.Guests = append(h.Guests, there) }, put(route(6, 161, 11, 2, 0)))
}

func TestLearnOfAFrozenGuest(t *testing.T) {
	for what, h := range map[string]impl.House{
		"nothing known": openHouse(),
		"here":          openHouse(someGuestHere()),
		"pinned here":   openHouse(pinned(someGuestHere())),
		"elsewhere":     knowing([]impl.Route{route(5, 161, 9, 3, 9)}),
		"both":          knowing([]impl.Route{route(5, 161, 9, 3, 9)}, someGuestHere()),
		"no room":       openHouse(crowdHere(8)...),
	} {
		for _, f := range []impl.Frozen{{Vni: 5, Mac: 161}, {Vni: 5, Mac: 161, House: 3}, {Vni: 5, Mac: 161, House: 2, Door: 1}, {Vni: 5, Mac: 161, House: 2, Door: 3}} {
			h.Frozen = []impl.Frozen{f}
			for _, door := range []int64{1, 3} {
				for _, ip := range []int64{0, 11, 12} {
					wantEffect(t, fmt.Sprintf("%s, %+v, door %d, address %d", what, f, door, ip), h, impl.Learn(h, door, 161, ip), nil)
				}
			}
		}
	}
}

func TestLearnWithABestHeld(t *testing.T) {
	for _, origin := range []int64{1, 3, 4} {
		for _, seq := range []int64{0, 1, 9, impl.MaxTime - 2, impl.MaxTime - 1} {
			for _, marks := range []bool{false, true} {
				h := knowing([]impl.Route{route(5, 161, 9, origin, seq), route(5, 161, 9, 2, seq+1)})
				h.Went = movesAt(290, 291)
				for i := range h.Rib {
					h.Rib[i].Stale = marks
				}
				g := impl.Guest{Vni: 5, Mac: 161, Ip: 11, Door: 3, Seq: seq + 1, Seen: 300}
				got := impl.Learn(h, 3, 161, 11)
				wantEffect(t, fmt.Sprint("origin ", origin, ", Seq ", seq), h, got, func(h *impl.House) { h.Guests, h.Went = []impl.Guest{g}, movesAt(290, 291, 300) }, put(route(5, 161, 11, 2, seq+1)))
				same(t, "here", impl.PlaceOf(got.House, 5, 161), impl.Place{House: 2, Door: 3})
			}
			h := knowing([]impl.Route{stuck(route(5, 161, 9, origin, seq))})
			wantEffect(t, fmt.Sprint("Sticky, origin ", origin, ", Seq ", seq), h, impl.Learn(h, 3, 161, 11), nil)
		}
		for _, r := range []impl.Route{route(5, 161, 9, origin, impl.MaxTime), stuck(route(5, 161, 9, origin, impl.MaxTime))} {
			h := knowing([]impl.Route{r})
			wantEffect(t, fmt.Sprintf("%+v", r), h, impl.Learn(h, 3, 161, 11), nil)
		}
	}
	// The preferred one of several routes counts.
	h := knowing([]impl.Route{route(5, 161, 9, 1, 3), route(5, 161, 9, 3, 7), route(5, 161, 9, 4, 7)})
	same(t, "the greatest Seq", impl.Learn(h, 1, 161, 0).House.Guests[0].Seq, 8)
	h = knowing([]impl.Route{route(5, 161, 9, 1, impl.MaxTime), stuck(route(5, 161, 9, 3, 0))})
	wantEffect(t, "one of them is Sticky", h, impl.Learn(h, 1, 161, 0), nil)
}

func TestLearnWithNoRoom(t *testing.T) {
	for _, routes := range [][]impl.Route{nil, {route(5, 161, 9, 3, 2)}} {
		full, nearly := knowing(routes, crowdHere(8)...), knowing(routes, crowdHere(7)...)
		full.Went, nearly.Went = movesAt(298, 299, 300), nil
		wantEffect(t, "no room", full, impl.Learn(full, 1, 161, 11), nil)
		wantEffect(t, "no room in the other room", full, impl.Learn(full, 2, 161, 11), nil)
		got := impl.Learn(nearly, 1, 161, 11).House
		same(t, "room for one", len(got.Guests), 8)
		same(t, "and it is here", impl.PlaceOf(got, 5, 161), impl.Place{House: 2, Door: 1})
		for i, g := range full.Guests {
			renewed := g
			renewed.Ip, renewed.Seen = 99, 300
			got := impl.Learn(full, g.Door, g.Mac, 99)
			wantEffect(t, fmt.Sprintf("%+v is here already", g), full, got, func(h *impl.House) { h.Guests[i] = renewed }, putOf(renewed, 2))
		}
	}
}

// doorProbes are doors of openHouse and others, with the codes of Learn and Pin for them.
func doorProbes() map[int64]int64 {
	out := map[int64]int64{1: impl.OK, 2: impl.OK, 3: impl.OK, 4: impl.ErrNone, 1 + 1<<8: impl.ErrNone, 1 + 1<<32: impl.ErrNone}
	for _, door := range doorNums.out {
		out[door] = impl.ErrNone
	}
	return out
}

func TestLearnAndPinErrorsInOrder(t *testing.T) {
	wrongMacs := append([]int64{-1, 1 << 40, lastSingleMac + 1, impl.MaxMac, impl.MaxMac + 1}, singles.out...)
	for i, h := range wrongHouses() {
		for door := range doorProbes() {
			for _, mac := range append(wrongMacs, 161, 167) {
				what := fmt.Sprint("wrong house ", i, ", door ", door, ", guest ", mac)
				wantHouse(t, what, impl.Learn(h, door, mac, 0), houseError(impl.ErrForm))
				wantHouse(t, what, impl.Learn(h, door, mac, -1), houseError(impl.ErrForm))
				wantHouse(t, what, impl.Pin(h, door, mac), houseError(impl.ErrForm))
			}
		}
	}
	frozen := openHouseWith(func(h *impl.House) { h.Frozen = []impl.Frozen{{Vni: 5, Mac: 161}, {Vni: 6, Mac: 161}} })
	for _, h := range []impl.House{openHouse(), openHouse(someGuestHere()), frozen} {
		for door, code := range doorProbes() {
			for _, mac := range append(wrongMacs, 161) {
				for _, ip := range append([]int64{0, 11, impl.MaxIp}, ips.out...) {
					learnCode, pinCode := code, code
					if pinCode == impl.OK && len(h.Frozen) > 0 {
						pinCode = impl.ErrState
					}
					if code == impl.OK && mac != 161 {
						learnCode, pinCode = impl.ErrForm, impl.ErrForm
					}
					if learnCode == impl.OK && (ip < 0 || ip > impl.MaxIp) {
						learnCode = impl.ErrForm
					}
					what := fmt.Sprint("door ", door, ", guest ", mac, ", address ", ip)
					learnt, pinned := impl.Learn(h, door, mac, ip), impl.Pin(h, door, mac)
					same(t, "Learn: "+what, learnt.Code, learnCode)
					same(t, "Pin: "+what, pinned.Code, pinCode)
					if learnCode != impl.OK {
						wantHouse(t, "Learn: "+what, learnt, houseError(learnCode))
					}
					if pinCode != impl.OK {
						wantHouse(t, "Pin: "+what, pinned, houseError(pinCode))
					}
				}
			}
		}
	}
}

func TestPin(t *testing.T) {
	for door, vni := range map[int64]int64{1: 5, 2: 6, 3: 5} {
		for _, mac := range singles.in {
			for _, routes := range [][]impl.Route{nil, {route(vni, mac, 9, 3, 0)}, {route(vni, mac, 9, 1, impl.MaxTime)}, {stuck(route(vni, mac, 9, 2, 0))}} {
				h := knowing(routes)
				h.Went = movesAt(297, 298, 299)
				g := impl.Guest{Vni: vni, Mac: mac, Door: door, Seen: 300, Sticky: true}
				got := impl.Pin(h, door, mac)
				wantEffect(t, fmt.Sprintf("new: %+v", g), h, got, func(h *impl.House) { h.Guests = []impl.Guest{g} }, put(stuck(route(vni, mac, 0, 2, 0))))
				same(t, "new", impl.PlaceOf(got.House, vni, mac), impl.Place{House: 2, Door: door})
			}
		}
	}
	for _, door := range []int64{1, 3} {
		for _, old := range []impl.Guest{someGuestHere(), pinned(someGuestHere())} {
			for _, routes := range [][]impl.Route{nil, {route(5, 161, 9, 3, 9)}} {
				h := knowing(routes, old)
				g := impl.Guest{Vni: 5, Mac: 161, Ip: 11, Door: door, Seen: 300, Sticky: true}
				got := impl.Pin(h, door, 161)
				wantEffect(t, fmt.Sprintf("at door %d: %+v", door, old), h, got, func(h *impl.House) { h.Guests = []impl.Guest{g} }, put(stuck(route(5, 161, 11, 2, 0))))
				again := impl.Pin(got.House, door, 161)
				wantEffect(t, "once more", got.House, again, nil, put(stuck(route(5, 161, 11, 2, 0))))
				same(t, "pinned", impl.PlaceOf(again.House, 5, 161), impl.Place{House: 2, Door: door})
			}
		}
	}
	// The guest of the other room is another one.
	h := openHouse(someGuestHere())
	g := impl.Guest{Vni: 6, Mac: 161, Door: 2, Seen: 300, Sticky: true}
	wantEffect(t, "the other room", h, impl.Pin(h, 2, 161), func(h *impl.House) { h.Guests = append(h.Guests, g) }, put(stuck(route(6, 161, 0, 2, 0))))
}

func TestPinFurtherErrorsInOrder(t *testing.T) {
	there := []impl.Route{stuck(route(5, 161, 9, 3, 0)), route(5, 161, 9, 4, 9)}
	for _, c := range []struct {
		what   string
		frozen bool
		routes []impl.Route
		guests []impl.Guest
		code   int64
	}{
		{"nothing", false, nil, nil, impl.OK},
		{"a route that is not Sticky", false, there[1:], nil, impl.OK},
		{"frozen", true, nil, nil, impl.ErrState},
		{"frozen, and here", true, nil, []impl.Guest{someGuestHere()}, impl.ErrState},
		{"frozen, and pinned here", true, nil, []impl.Guest{pinned(someGuestHere())}, impl.ErrState},
		{"frozen, and pinned elsewhere", true, there, nil, impl.ErrState},
		{"frozen, and no room", true, nil, crowdHere(8), impl.ErrState},
		{"frozen, pinned elsewhere, and no room", true, there, crowdHere(8), impl.ErrState},
		{"pinned elsewhere", false, there, nil, impl.ErrThere},
		{"pinned elsewhere, and here", false, there, []impl.Guest{someGuestHere()}, impl.ErrThere},
		{"pinned here and elsewhere", false, there, []impl.Guest{pinned(someGuestHere())}, impl.ErrThere},
		{"pinned elsewhere, and no room", false, there, crowdHere(8), impl.ErrThere},
		{"no room", false, nil, crowdHere(8), impl.ErrFull},
		{"a route that is not Sticky, and no room", false, there[1:], crowdHere(8), impl.ErrFull},
		{"room for one", false, nil, crowdHere(7), impl.OK},
	} {
		h := knowing(c.routes, c.guests...)
		if c.frozen {
			h.Frozen = []impl.Frozen{{Vni: 5, Mac: 161, House: 2, Door: 1}}
		}
		got := impl.Pin(h, 1, 161)
		same(t, c.what, got.Code, c.code)
		if c.code != impl.OK {
			wantHouse(t, c.what, got, houseError(c.code))
		}
	}
	full := openHouse(crowdHere(8)...)
	for i, g := range full.Guests {
		g.Seq, g.Seen, g.Sticky = 0, 300, true
		wantEffect(t, fmt.Sprintf("%+v is here already", g), full, impl.Pin(full, g.Door, g.Mac), func(h *impl.House) { h.Guests[i] = g }, putOf(g, 2))
	}
}

func TestClear(t *testing.T) {
	g, key := someGuestHere(), impl.Route{Kind: impl.RtMac, Vni: 5, Mac: 161, Origin: 2}
	others := []impl.Went{{Vni: 5, Mac: 160, At: 290}, {Vni: 6, Mac: 161, At: 291}}
	mixed := append(append(movesAt(250, 280), others...), movesAt(300, 300)...)
	around := []impl.Frozen{{Vni: 5, Mac: 160, House: 3}, {Vni: 6, Mac: 161}}
	for _, f := range []impl.Frozen{{Vni: 5, Mac: 161}, {Vni: 5, Mac: 161, House: 3}, {Vni: 5, Mac: 161, House: 2, Door: 1}} {
		for _, c := range []struct {
			what   string
			routes []impl.Route
			guests []impl.Guest
			leaves bool
			notes  []impl.Note
			place  impl.Place
		}{
			{"nowhere", nil, nil, false, nil, impl.Place{}},
			{"elsewhere", []impl.Route{route(5, 161, 9, 4, 2)}, nil, false, nil, impl.Place{House: 4}},
			{"here", nil, []impl.Guest{g}, false, []impl.Note{putOf(g, 2)}, impl.Place{House: 2, Door: 3}},
			{"here, and worse elsewhere", []impl.Route{route(5, 161, 9, 4, 4)}, []impl.Guest{g}, false, []impl.Note{putOf(g, 2)}, impl.Place{House: 2, Door: 3}},
			{"pinned here", []impl.Route{route(5, 161, 9, 4, 9)}, []impl.Guest{pinned(g)}, false, []impl.Note{putOf(pinned(g), 2)}, impl.Place{House: 2, Door: 3}},
			{"here, and better elsewhere", []impl.Route{route(5, 161, 9, 4, 5)}, []impl.Guest{g}, true, []impl.Note{take(key)}, impl.Place{House: 4}},
			{"pinned here, and better elsewhere", []impl.Route{stuck(route(5, 161, 9, 1, 4))}, []impl.Guest{pinned(g)}, true, []impl.Note{take(key)}, impl.Place{House: 1}},
		} {
			h := knowing(c.routes, c.guests...)
			h.Went, h.Frozen = mixed, []impl.Frozen{around[0], f, around[1]}
			got := impl.Clear(h, 5, 161)
			wantEffect(t, c.what, h, got, func(h *impl.House) {
				h.Went, h.Frozen = others, around
				if c.leaves {
					h.Guests, h.Went = nil, append(slices.Clone(others), movesAt(300)...)
				}
			}, c.notes...)
			same(t, c.what, impl.PlaceOf(got.House, 5, 161), c.place)
			wantHouse(t, c.what+", once more", impl.Clear(got.House, 5, 161), houseError(impl.ErrNone))
		}
	}
}

func TestClearOfOneThatIsNotFrozen(t *testing.T) {
	h := openHouse(someGuestHere())
	h.Frozen = iced(8)[1:]
	for i, f := range h.Frozen {
		want := slices.Delete(slices.Clone(h.Frozen), i, i+1)
		wantList(t, fmt.Sprint("frozen guest ", i), impl.Clear(h, f.Vni, f.Mac).House.Frozen, want)
	}
	for _, vni := range append([]int64{4, 5, 6, 5 + 1<<24, 5 + 1<<32}, vnis.out...) {
		for _, mac := range append([]int64{161, 160, 170, 162 + 1<<32, 0}, singles.out...) {
			wantHouse(t, fmt.Sprint("room ", vni, ", guest ", mac), impl.Clear(h, vni, mac), houseError(impl.ErrNone))
		}
	}
	for i, wrong := range wrongHouses() {
		for _, name := range append(namesIn(wrong), [2]int64{0, -1}) {
			wantHouse(t, fmt.Sprint("wrong house ", i), impl.Clear(wrong, name[0], name[1]), houseError(impl.ErrForm))
		}
	}
}

// met is an open house with something in each of its fields, whose pipes have the epochs 7 and 6 and the peers 3 and 4.
func met() impl.House {
	h := someHouse()
	h.Pipes = openHouse().Pipes
	return h
}

// dumpOfMet is what a house like met announces to a teller, its guests as they are in guestsOfHouse.
func dumpOfMet() []string {
	return []string{
		noteText(put(roomAt(5, 2))),
		noteText(put(roomAt(6, 2))),
		noteText(put(route(5, 161, 11, 2, 3))),
		noteText(put(route(5, 162, 12, 2, 3))),
		noteText(put(stuck(route(5, 163, 13, 2, 0)))),
		noteText(put(route(6, 161, 61, 2, 5))),
		noteText(end()),
	}
}

// staleOf returns a table in which all of a peer is Stale.
func staleOf(l []impl.Held, peer int64) []impl.Held {
	out := slices.Clone(l)
	for i := range out {
		out[i].Stale = out[i].Stale || out[i].Peer == peer
	}
	return out
}

func TestHouseHearOfAFreshPacket(t *testing.T) {
	h := met()
	for teller, own := range map[int64]int64{1: 7, 2: 6} {
		old := h.Pipes[teller-1]
		for _, epoch := range []int64{old.Peer + 1, old.Peer + 9, impl.MaxTime} {
			for _, x := range []impl.Packet{{Epoch: epoch}, {Epoch: epoch, Echo: own, Ack: 1}, {Epoch: epoch, Echo: own - 1, Num: 1, Text: noteText(end())}, {Epoch: epoch, Echo: own, Num: 2, Text: noteText(end())}} {
				got := impl.HouseHear(h, teller, x)
				wantEffect(t, fmt.Sprintf("teller %d, %+v", teller, x), h, got, func(h *impl.House) {
					h.Pipes[teller-1] = impl.Pipe{Epoch: own, Peer: epoch, Out: dumpOfMet()}
					h.Rib = staleOf(h.Rib, teller)
				})
			}
			x := impl.Packet{Epoch: epoch, Echo: own, Num: 1, Text: noteText(end())}
			got := impl.HouseHear(h, teller, x)
			wantEffect(t, fmt.Sprintf("teller %d, %+v", teller, x), h, got, func(h *impl.House) {
				h.Pipes[teller-1] = impl.Pipe{Epoch: own, Peer: epoch, In: 1, Out: dumpOfMet()}
				h.Rib, _ = without(h.Rib, func(x impl.Held) bool { return x.Peer == teller })
			})
		}
	}
	for door := range int64(4) {
		unknown := openHouseWith(func(h *impl.House) { h.Pipes[0], h.Doors = impl.Pipe{Epoch: 7}, make([]int64, 4) })
		unknown.Doors[door] = 9
		got := impl.HouseHear(unknown, 1, impl.Packet{Epoch: 1})
		wantEffect(t, "heard for the first time", unknown, got, func(h *impl.House) {
			h.Pipes[0] = impl.Pipe{Epoch: 7, Peer: 1, Out: []string{noteText(put(roomAt(9, 2))), noteText(end())}}
		})
	}
}

func TestHouseHearOfAFreshPacketWithANote(t *testing.T) {
	h := met()
	// What is announced again is not Stale, and a guest that it takes away was announced before.
	better := route(5, 162, 22, 3, 9)
	got := impl.HouseHear(h, 1, impl.Packet{Epoch: 4, Echo: 7, Num: 1, Text: noteText(put(better))})
	gone := noteText(takeOf(impl.Guest{Vni: 5, Mac: 162}, 2))
	wantEffect(t, "a better route", h, got, func(h *impl.House) {
		h.Pipes[0] = impl.Pipe{Epoch: 7, Peer: 4, In: 1, Out: append(dumpOfMet(), gone)}
		h.Pipes[1].Out = append(h.Pipes[1].Out, gone)
		h.Rib = ribPutByRule(staleOf(h.Rib, 1), 1, better).Rib
		h.Guests = slices.Delete(h.Guests, 1, 2)
		h.Went = append(h.Went, impl.Went{Vni: 5, Mac: 162, At: 300})
	})
	same(t, "the route is not Stale", slices.Contains(got.House.Rib, held(1, better)), true)
	// A frozen guest is not announced, and not taken away.
	got = impl.HouseHear(h, 2, impl.Packet{Epoch: 5, Echo: 6, Num: 1, Text: noteText(put(route(5, 168, 9, 3, 99)))})
	wantEffect(t, "a frozen guest", h, got, func(h *impl.House) {
		h.Pipes[1] = impl.Pipe{Epoch: 6, Peer: 5, In: 1, Out: dumpOfMet()}
		h.Rib = ribPutByRule(staleOf(h.Rib, 2), 2, route(5, 168, 9, 3, 99)).Rib
	})
}

func TestHouseHearOfTheSameSession(t *testing.T) {
	h := met()
	h.Pipes[0] = impl.Pipe{Epoch: 7, Peer: 3, Base: 5, In: 8, Out: []string{"six", "seven"}}
	for what, c := range map[string]struct {
		x    impl.Packet
		pipe impl.Pipe
	}{
		"nothing":                {impl.Packet{Epoch: 3, Echo: 7}, h.Pipes[0]},
		"acknowledged":           {impl.Packet{Epoch: 3, Echo: 7, Ack: 6}, impl.Pipe{Epoch: 7, Peer: 3, Base: 6, In: 8, Out: []string{"seven"}}},
		"all acknowledged":       {impl.Packet{Epoch: 3, Echo: 7, Ack: 7}, impl.Pipe{Epoch: 7, Peer: 3, Base: 7, In: 8}},
		"more acknowledged":      {impl.Packet{Epoch: 3, Echo: 7, Ack: 8}, h.Pipes[0]},
		"for another session":    {impl.Packet{Epoch: 3, Echo: 6, Ack: 6, Num: 9, Text: noteText(end())}, h.Pipes[0]},
		"of a past session":      {impl.Packet{Epoch: 2, Echo: 7, Ack: 6, Num: 9, Text: noteText(end())}, h.Pipes[0]},
		"the last message again": {impl.Packet{Epoch: 3, Echo: 7, Num: 8, Text: noteText(end())}, h.Pipes[0]},
		"a later message":        {impl.Packet{Epoch: 3, Echo: 7, Num: 10, Text: noteText(end())}, h.Pipes[0]},
		"the first message":      {impl.Packet{Epoch: 3, Echo: 7, Num: 1, Text: noteText(end())}, h.Pipes[0]},
	} {
		wantEffect(t, what, h, impl.HouseHear(h, 1, c.x), func(h *impl.House) { h.Pipes[0] = c.pipe })
	}
	for _, text := range noNotes() {
		same(t, fmt.Sprintf("%q is no note", text), impl.NoteRead(text).Code, impl.ErrSyntax)
		x := impl.Packet{Epoch: 3, Echo: 7, Num: 9, Text: text}
		wantEffect(t, fmt.Sprintf("%q", text), h, impl.HouseHear(h, 1, x), func(h *impl.House) { h.Pipes[0].In = 9 })
	}
	for teller, p := range h.Pipes {
		for _, n := range notesFor(h) {
			// A note in a packet has the effect that HearNote of it has.
			x := impl.Packet{Epoch: p.Peer, Echo: p.Epoch, Num: p.In + 1, Text: noteText(n)}
			want := impl.HearNote(h, int64(teller)+1, n)
			want.House.Pipes[teller].In = p.In + 1
			wantHouse(t, fmt.Sprintf("teller %d, %+v", teller, n), impl.HouseHear(h, int64(teller)+1, x), want)
		}
	}
}

func TestTellerErrorsInOrder(t *testing.T) {
	wrong := []impl.Packet{{}, {Epoch: impl.MaxTime + 1}, {Epoch: 4, Num: -1}, {Epoch: 4, Text: "x"}, {Epoch: 4, Num: 1, Text: strings.Repeat("x", impl.MaxText+1)}}
	packets := append(wrong, impl.Packet{Epoch: 9})
	none := append([]int64{3, 4, 1 + 1<<8, 1 + 1<<32, 2 + 1<<32}, origins.out...)
	for i, h := range wrongHouses() {
		for _, teller := range append([]int64{1, 2}, none...) {
			what := fmt.Sprint("wrong house ", i, ", teller ", teller)
			for _, x := range packets {
				wantHouse(t, what, impl.HouseHear(h, teller, x), houseError(impl.ErrForm))
			}
			wantHouse(t, what, impl.HouseReset(h, teller), houseError(impl.ErrForm))
		}
	}
	last := met()
	last.Epoch = impl.MaxTime
	one := houseWith(func(h *impl.House) { h.Pipes, h.Rib = h.Pipes[:1], nil })
	for _, h := range []impl.House{met(), last, one} {
		tellers := int64(len(h.Pipes))
		for _, teller := range append([]int64{tellers + 1}, none...) {
			for _, x := range packets {
				wantHouse(t, fmt.Sprintf("teller %d, %+v", teller, x), impl.HouseHear(h, teller, x), houseError(impl.ErrNone))
			}
			wantHouse(t, fmt.Sprint("teller ", teller), impl.HouseReset(h, teller), houseError(impl.ErrNone))
		}
		for teller := int64(1); teller <= tellers; teller++ {
			for _, x := range wrong {
				wantHouse(t, fmt.Sprintf("teller %d, %+v", teller, x), impl.HouseHear(h, teller, x), houseError(impl.ErrForm))
			}
			same(t, "HouseHear", impl.HouseHear(h, teller, packets[len(wrong)]).Code, impl.OK)
			if h.Epoch == impl.MaxTime {
				wantHouse(t, "HouseReset in the last epoch", impl.HouseReset(h, teller), houseError(impl.ErrFull))
			}
		}
	}
}

func TestHouseReset(t *testing.T) {
	for _, epoch := range []int64{7, 8, 300, impl.MaxTime - 1} {
		h := met()
		h.Epoch = epoch
		for teller, peer := range map[int64]int64{1: 3, 2: 4} {
			got := impl.HouseReset(h, teller)
			wantEffect(t, fmt.Sprint("Epoch ", epoch, ", teller ", teller), h, got, func(h *impl.House) {
				h.Epoch = epoch + 1
				h.Pipes[teller-1] = impl.Pipe{Epoch: epoch + 1, Peer: peer, Out: dumpOfMet()}
				h.Rib = staleOf(h.Rib, teller)
			})
			// Without knowing the teller, nothing can be announced to it.
			unknown := copyOfHouse(h)
			unknown.Pipes[teller-1] = impl.Pipe{Epoch: 2}
			got = impl.HouseReset(unknown, teller)
			wantEffect(t, fmt.Sprint("Epoch ", epoch, ", unknown teller ", teller), unknown, got, func(h *impl.House) {
				h.Epoch, h.Pipes[teller-1].Epoch = epoch+1, epoch+1
				h.Rib = staleOf(h.Rib, teller)
			})
		}
	}
	// The most that a house may have to announce.
	h := openHouse(crowdHere(8)...)
	h.Doors = []int64{5, 7, 5, 6}
	got := impl.HouseReset(h, 1).House.Pipes[0].Out
	same(t, "three rooms, eight guests and the end", len(got), 12)
	wantList(t, "in order", got, dumpByRule(ownByRule(h)))
}

func TestHouseRestart(t *testing.T) {
	for _, now := range []int64{300, impl.MaxTime} {
		for _, epoch := range []int64{7, 300, impl.MaxTime - 1, impl.MaxTime} {
			for id := int64(1); id <= 4; id++ {
				for tellers := 1; tellers <= 2; tellers++ {
					h := houseAt(id)
					h.Now, h.Epoch, h.Pipes = now, epoch, h.Pipes[:tellers]
					h.Rib, _ = without(h.Rib, func(x impl.Held) bool { return x.Peer > int64(tellers) })
					want := impl.HouseOut{House: impl.House{Id: id, Now: now, Epoch: epoch + 1, Doors: []int64{5, 6, 5, 0}}}
					for range tellers {
						want.House.Pipes = append(want.House.Pipes, impl.Pipe{Epoch: epoch + 1})
					}
					if epoch == impl.MaxTime {
						want = houseError(impl.ErrFull)
					}
					wantHouse(t, fmt.Sprint("at ", now, ", Epoch ", epoch, ", Id ", id, ", tellers ", tellers), impl.HouseRestart(h), want)
				}
			}
		}
	}
	for i, h := range wrongHouses() {
		wantHouse(t, fmt.Sprint("wrong house ", i), impl.HouseRestart(h), houseError(impl.ErrForm))
	}
}

func TestHouseTick(t *testing.T) {
	for _, now := range []int64{0, 1, 300, impl.MaxTime - 2, impl.MaxTime - 1} {
		h := openHouseWith(func(h *impl.House) { h.Now = now })
		wantEffect(t, fmt.Sprint("at ", now), h, impl.HouseTick(h), func(h *impl.House) { h.Now = now + 1 })
	}
	for _, epoch := range []int64{7, impl.MaxTime} {
		h := openHouseWith(func(h *impl.House) { h.Now, h.Epoch = impl.MaxTime, epoch })
		wantHouse(t, "at the last time", impl.HouseTick(h), houseError(impl.ErrFull))
	}
	for i, h := range wrongHouses() {
		wantHouse(t, fmt.Sprint("wrong house ", i), impl.HouseTick(h), houseError(impl.ErrForm))
	}
}

func TestHouseTickOfGuests(t *testing.T) {
	guest := func(vni int64, mac int64, seen int64) impl.Guest {
		return impl.Guest{Vni: vni, Mac: mac, Ip: 9, Door: vni - 4, Seq: mac, Seen: seen}
	}
	// At time 301, those last heard before time 101 go.
	old, older, ancient := guest(5, 161, 100), guest(5, 163, 99), guest(6, 161, 0)
	late, recent, stays := guest(5, 162, 101), guest(6, 163, 300), pinned(guest(6, 162, 0))
	h := openHouse(old, late, older, ancient, stays, recent)
	got := impl.HouseTick(h)
	wantEffect(t, "three guests go", h, got, func(h *impl.House) {
		h.Now, h.Guests = 301, []impl.Guest{late, stays, recent}
	}, takeOf(old, 2), takeOf(older, 2), takeOf(ancient, 2))
	wantEffect(t, "and another one then", got.House, impl.HouseTick(got.House), func(h *impl.House) {
		h.Now, h.Guests = 302, []impl.Guest{stays, recent}
	}, takeOf(late, 2))
	// A frozen guest stays, wherever it is assumed to be.
	for _, f := range []impl.Frozen{{Vni: 5, Mac: 163}, {Vni: 5, Mac: 163, House: 3}, {Vni: 5, Mac: 163, House: 2, Door: 1}} {
		h.Frozen = []impl.Frozen{f}
		wantEffect(t, fmt.Sprintf("%+v", f), h, impl.HouseTick(h), func(h *impl.House) {
			h.Now, h.Guests = 301, []impl.Guest{late, older, stays, recent}
		}, takeOf(old, 2), takeOf(ancient, 2))
	}
	h.Frozen = []impl.Frozen{{Vni: 5, Mac: 161}, {Vni: 5, Mac: 163}, {Vni: 6, Mac: 161}}
	wantEffect(t, "all of them frozen", h, impl.HouseTick(h), func(h *impl.House) { h.Now = 301 })
	// To go is no move, and does not wait for a better route.
	h = openHouse(old)
	h.Rib, h.Went = []impl.Held{held(1, route(5, 161, 9, 3, 999))}, movesAt(298, 299, 300)
	wantEffect(t, "known elsewhere", h, impl.HouseTick(h), func(h *impl.House) { h.Now, h.Guests = 301, nil }, takeOf(old, 2))
}

func TestHouseTickOfMoves(t *testing.T) {
	h := openHouse(someGuestHere())
	h.Guests[0].Seen = 300
	h.Went = []impl.Went{{Vni: 5, Mac: 161, At: 0}, {Vni: 5, Mac: 162, At: 270}, {Vni: 5, Mac: 161, At: 271}, {Vni: 5, Mac: 162, At: 271}, {Vni: 5, Mac: 161, At: 272}, {Vni: 6, Mac: 161, At: 300}}
	for _, frozen := range [][]impl.Frozen{nil, {{Vni: 5, Mac: 161, House: 3}}} {
		h.Frozen = frozen
		got := impl.HouseTick(h)
		wantEffect(t, "at 301, those until 271 go", h, got, func(h *impl.House) { h.Now, h.Went = 301, h.Went[4:] })
		wantEffect(t, "at 302, that at 272 goes", got.House, impl.HouseTick(got.House), func(h *impl.House) { h.Now, h.Went = 302, h.Went[1:] })
	}
	full := openHouse()
	full.Went = walk(impl.MaxMoves)
	full.Now = full.Went[len(full.Went)-1].At
	want := movesWithout(full.Went, func(w impl.Went) bool { return w.At <= full.Now+1-30 })
	wantEffect(t, "many moves", full, impl.HouseTick(full), func(h *impl.House) { h.Now, h.Went = full.Now+1, want })
}

// pipesThatTake returns pipes by how many messages they still take.
func pipesThatTake() map[int]impl.Pipe {
	return map[int]impl.Pipe{
		0: {Epoch: 7, Peer: 3, Out: messages(impl.MaxOut)},
		1: {Epoch: 7, Peer: 3, Base: 9, In: 4, Out: messages(impl.MaxOut - 1)},
		2: {Epoch: 7, Peer: 3, Base: impl.MaxTime - 5, Out: messages(3)},
		9: {Epoch: 7, Peer: 3},
	}
}

func TestNotesGoIntoEachPipeThatTakesThem(t *testing.T) {
	old := func(mac int64) impl.Guest { return impl.Guest{Vni: 5, Mac: mac, Door: 1} }
	ticking, frozen := openHouse(old(161), old(162), old(163)), openHouse(someGuestHere())
	frozen.Frozen = []impl.Frozen{{Vni: 5, Mac: 161}}
	for what, c := range map[string]struct {
		h     impl.House
		o     operation
		notes []impl.Note
	}{
		"Learn":     {openHouse(), toLearn(1, 161, 7), []impl.Note{put(route(5, 161, 7, 2, 0))}},
		"Pin":       {openHouse(), toPin(1, 161), []impl.Note{put(stuck(route(5, 161, 0, 2, 0)))}},
		"Clear":     {frozen, toClear(5, 161), []impl.Note{putOf(someGuestHere(), 2)}},
		"HearNote":  {openHouse(someGuestHere()), toHearNote(1, put(route(5, 161, 0, 1, 5))), []impl.Note{takeOf(someGuestHere(), 2)}},
		"HouseTick": {ticking, toTick(), []impl.Note{takeOf(old(161), 2), takeOf(old(162), 2), takeOf(old(163), 2)}},
	} {
		unknown, last := impl.Pipe{Epoch: 7}, impl.Pipe{Epoch: 7, Peer: 3, Base: impl.MaxTime, In: 5}
		for takes, p := range pipesThatTake() {
			for _, other := range []impl.Pipe{unknown, last} {
				for at := range 2 {
					h := copyOfHouse(c.h)
					h.Pipes = []impl.Pipe{other, other}
					h.Pipes[at] = p
					got := c.o.do(h)
					want := copyOf(p)
					for _, n := range c.notes[:min(takes, len(c.notes))] {
						want.Out = append(want.Out, noteText(n))
					}
					name := fmt.Sprint(what, ", a pipe that takes ", takes)
					same(t, name, got.Code, impl.OK)
					wantPipe(t, name, impl.PipeOut{Pipe: got.House.Pipes[at]}, impl.PipeOut{Pipe: want})
					wantPipe(t, name+": the other one", impl.PipeOut{Pipe: got.House.Pipes[1-at]}, impl.PipeOut{Pipe: other})
				}
			}
		}
	}
}

func TestLearningExample(t *testing.T) {
	h := impl.Learn(impl.HouseNew(1, 1, []int64{5, 5, 0, 0}, 1).House, 1, 161, 0).House
	there := func(seq int64) {
		h = impl.HearNote(h, 1, put(route(5, 161, 0, 2, seq))).House
	}
	there(1)
	same(t, "at house 2", impl.PlaceOf(h, 5, 161), impl.Place{House: 2})
	h = impl.Learn(h, 1, 161, 0).House
	there(3)
	same(t, "at house 2 again", impl.PlaceOf(h, 5, 161), impl.Place{House: 2})
	wantList(t, "after three moves", h.Frozen, nil)
	h = impl.Learn(h, 2, 161, 0).House
	wantList(t, "at the fourth move", h.Frozen, []impl.Frozen{{Vni: 5, Mac: 161, House: 1, Door: 2}})
	there(9)
	same(t, "a route with Seq 9", impl.PlaceOf(h, 5, 161), impl.Place{House: 1, Door: 2})
	same(t, "after Clear", impl.PlaceOf(impl.Clear(h, 5, 161).House, 5, 161), impl.Place{House: 2})
}

// telling are houses about which much can be said in few operations.
func telling() []impl.House {
	all := busyHouses()
	return append(argumentHouses(), met(), all["moves 3 of 161, frozen 7"], all["pipes nearly full"], all["full pipes"], all["unknown tellers"], all["as many guests but one"])
}

func TestHouseOperationsLeaveTheirArguments(t *testing.T) {
	for _, given := range telling() {
		for _, o := range operationsOn(given) {
			h, all := roomyHouse(given)
			before := all()
			o.do(h)
			if !sameHouses(all(), before) {
				t.Errorf("%s changes %+v to %+v", o.what, before, all())
			}
		}
	}
}

// textsOfHouse returns the messages in the pipes of a house.
func textsOfHouse(h impl.House) []string {
	var out []string
	for _, p := range h.Pipes {
		out = append(out, p.Out...)
	}
	return out
}

// wantApart checks that the lists of a house share no memory: all but one of them are as before when that is cleared.
func wantApart(t *testing.T, what string, h impl.House) {
	t.Helper()
	texts := textsOfHouse(h)
	for i := range texts {
		wantNoOverlap(t, what, texts[:i], texts[i:i+1])
	}
	for i, p := range h.Pipes {
		want := copyOfHouse(h)
		clear(p.Out[:cap(p.Out)])
		clear(want.Pipes[i].Out)
		if !sameHouses(h, want) {
			t.Errorf("%s: the messages of pipe %d share memory with others", what, i)
		}
	}
}

func TestHouseOperationsAreNew(t *testing.T) {
	for _, given := range telling() {
		for _, o := range operationsOn(given) {
			h, _ := roomyHouse(given)
			first, second := o.do(h), o.do(h)
			want := impl.HouseOut{House: copyOfHouse(first.House), Code: first.Code}
			wantNoOverlap(t, o.what, textsOfHouse(first.House), textsOfHouse(h))
			wipeHouse(h)
			wantHouse(t, o.what+" after its argument is changed", first, want)
			wipeHouse(first.House)
			wantHouse(t, o.what+" after another result is changed", second, want)
			wantApart(t, o.what, second.House)
		}
	}
}

func TestHouseOperationsKeepNoTexts(t *testing.T) {
	h := met()
	for teller, p := range h.Pipes {
		for _, n := range notesFor(h) {
			for _, x := range nextPackets(p, noteText(n)) {
				x.Text = strings.Clone(x.Text)
				got := impl.HouseHear(h, int64(teller)+1, x)
				wantNoOverlap(t, "HouseHear", textsOfHouse(got.House), []string{x.Text})
			}
		}
	}
}
