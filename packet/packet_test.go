package packet

import (
	"bytes"
	"encoding/binary"
	"fmt"
	"hash/crc32"
	"math"
	"math/rand"
	"slices"
	"testing"

	"waymark/api"
)

// edges are numbers at the edges that a packet's numbers have, and far off them.
var edges = []int{
	math.MinInt, math.MinInt + 1, -1 << 62, -1 << 32, -64, -2, -1, 0, 1, 2, 3, 4, 5, 6, 7, 8, 9, 15, 16, 17, 63, 64, 65, 66, 127, 128, 129, 255, 256, 257, 258, 259,
	1<<30 - 1, 1 << 30, 1<<30 + 1, 1<<31 - 1, 1 << 31, 1<<31 + 1, 1<<32 - 1, 1 << 32, 1<<32 + 1, 1<<32 + 5,
	1<<62 - 1, 1 << 62, 1<<62 + 1, math.MaxInt - 1, math.MaxInt,
}

// upTo are the nodes from 1 to n.
func upTo(n int) []int {
	var l []int
	for i := range n {
		l = append(l, i+1)
	}
	return l
}

// met are neighbours that are heard, each started so often as its number tells.
func met(nodes ...int) []api.Heard {
	var l []api.Heard
	for _, n := range nodes {
		l = append(l, api.Heard{Of: n, Boot: 100 + n})
	}
	return l
}

// had are items of nodes.
func had(nodes ...int) []api.Item {
	var l []api.Item
	for _, n := range nodes {
		l = append(l, api.Item{Origin: n, Seq: 1000 + n})
	}
	return l
}

// told is a node's Lsa with links to these nodes.
func told(n int, to ...int) api.Lsa {
	l := api.Lsa{Origin: n, Seq: 10 * n}
	for i, k := range to {
		l.Links = append(l.Links, api.Link{To: k, Cost: 100*k + i + 1})
	}
	return l
}

// some are Lsas of nodes, each with one link or none.
func some(nodes ...int) []api.Lsa {
	var l []api.Lsa
	for _, n := range nodes {
		if n%3 == 0 {
			l = append(l, told(n))
		} else {
			l = append(l, told(n, n%64+1))
		}
	}
	return l
}

// full is a node's Lsa with as many links as there may be, for a node above 16.
func full(n int) api.Lsa { return told(n, upTo(16)...) }

// who is a packet of a kind from node 1 to node 2, without anything else.
func who(kind int) api.Packet {
	return api.Packet{Kind: kind, From: 1, Boot: 3, To: 2, ToBoot: 4}
}

// The packets of each kind.
func hello(l ...api.Heard) api.Packet {
	p := who(api.PacketHello)
	p.Heard = l
	return p
}

func sum(epoch int, l ...api.Item) api.Packet {
	p := who(api.PacketSum)
	p.Epoch, p.Items = epoch, l
	return p
}

func ack(l ...api.Item) api.Packet {
	p := who(api.PacketAck)
	p.Items = l
	return p
}

func got(epoch, to int) api.Packet {
	p := who(api.PacketGot)
	p.Epoch, p.ToEpoch = epoch, to
	return p
}

func lsas(l ...api.Lsa) api.Packet {
	p := who(api.PacketLsas)
	p.Lsas = l
	return p
}

// each is a packet of each kind, with something in all that its kind names.
func each() []api.Packet {
	return []api.Packet{hello(met(2, 5, 64)...), sum(6, had(1, 3, 64)...), got(7, 8), lsas(told(1, 2), full(20), told(63, 1, 64)), ack(had(2, 9)...)}
}

// heads are packets as p, with all edges of who sends, and to whom, that may be.
func heads(p api.Packet) []api.Packet {
	var l []api.Packet
	for _, x := range []api.Packet{
		{From: 1, Boot: 1, To: 2}, {From: 2, Boot: 1, To: 1}, {From: 64, Boot: 1 << 30, To: 63, ToBoot: 1 << 30}, {From: 63, Boot: 1, To: 64, ToBoot: 1},
		{From: 33, Boot: 0x01020304, To: 34, ToBoot: 0x05060708}, {From: 1, Boot: 1<<30 - 1, To: 64, ToBoot: 1<<30 - 1}, {From: 64, Boot: 255, To: 1, ToBoot: 256},
	} {
		q := p
		q.From, q.Boot, q.To, q.ToBoot = x.From, x.Boot, x.To, x.ToBoot
		l = append(l, q)
	}
	return l
}

// maybe are packets that may be, at the edges of each number and list.
func maybe() []api.Packet {
	l := []api.Packet{
		hello(), hello([]api.Heard{}...), hello(met(1)...), hello(met(2)...), hello(met(1, 64)...), hello(met(upTo(16)...)...), hello(met(upTo(15)...)...), hello(met(49, 50, 51, 52, 53, 54, 55, 56, 57, 58, 59, 60, 61, 62, 63, 64)...),
		hello(api.Heard{Of: 64, Boot: 1}), hello(api.Heard{Of: 1, Boot: 1 << 30}), hello(api.Heard{Of: 3, Boot: 0x01020304}),
		sum(1), sum(1 << 30), sum(0x01020304), sum(1, had(1)...), sum(1<<30, had(upTo(64)...)...), sum(1, had(64)...), sum(3, had(upTo(63)...)...), sum(3, had(2, 5, 7)...),
		sum(1, api.Item{Origin: 1, Seq: 1}), sum(1, api.Item{Origin: 64, Seq: 1 << 62}), sum(1, api.Item{Origin: 3, Seq: 0x0102030405060708}),
		ack(), ack([]api.Item{}...), ack(had(1)...), ack(had(64)...), ack(had(upTo(64)...)...), ack(had(upTo(63)...)...), ack(had(1, 2, 64)...),
		ack(api.Item{Origin: 1, Seq: 1}), ack(api.Item{Origin: 64, Seq: 1 << 62}), ack(api.Item{Origin: 3, Seq: 1<<62 - 1}),
		got(1, 1), got(1<<30, 1), got(1, 1<<30), got(1<<30, 1<<30), got(0x01020304, 0x05060708), got(7, 7),
		lsas(told(1)), lsas(told(64)), lsas(told(1, 2)), lsas(told(2, 1)), lsas(some(upTo(8)...)...), lsas(some(upTo(7)...)...), lsas(some(57, 58, 59, 60, 61, 62, 63, 64)...), lsas(full(17), full(64)),
		lsas(full(17), full(18), full(19), full(20), full(21), full(22), full(23), full(64)), lsas(told(1), api.Lsa{Origin: 2, Seq: 1}, api.Lsa{Origin: 64, Seq: 1 << 62, Links: []api.Link{{To: 63, Cost: 1 << 30}}}),
		lsas(api.Lsa{Origin: 3, Seq: 7, Links: []api.Link{}}),
	}
	for _, p := range each() {
		l = append(l, heads(p)...)
		p.Heard, p.Items, p.Lsas = append([]api.Heard{}, p.Heard...), append([]api.Item{}, p.Items...), append([]api.Lsa{}, p.Lsas...)
		l = append(l, p)
	}
	return l
}

// turns are ways to turn one thing of a packet, so that it may not be.
func turns() []func(p *api.Packet) {
	var l []func(p *api.Packet)
	for _, n := range []int{0, -1, 65, 66, 255, 257, math.MinInt, math.MaxInt, 1<<32 + 5, 1 << 32} {
		l = append(l, func(p *api.Packet) { p.From = n }, func(p *api.Packet) { p.To = n })
	}
	for _, n := range []int{-1, -2, 1<<30 + 1, 1 << 31, 1<<32 - 1, 1 << 32, 1<<32 + 1, math.MinInt, math.MaxInt} {
		l = append(l, func(p *api.Packet) { p.Boot = n }, func(p *api.Packet) { p.ToBoot = n })
	}
	for _, n := range []int{0, -1, 6, 7, 255, 256, 257, 258, 259, 260, 261, 1<<32 + 1, 1<<32 + 4, math.MinInt, math.MaxInt} {
		l = append(l, func(p *api.Packet) { p.Kind = n })
	}
	return append(l, func(p *api.Packet) { p.Boot = 0 }, func(p *api.Packet) { p.To = p.From }, func(p *api.Packet) { p.From = p.To })
}

// never are packets that may not be.
func never() []api.Packet {
	l := []api.Packet{
		{}, {Kind: 1}, {Kind: 5}, {From: 1, Boot: 1, To: 2}, {Kind: 5, From: 1, To: 2}, {Kind: 5, Boot: 1, To: 2}, {Kind: 5, Boot: 1, From: 1},
		hello(met(0)...), hello(met(65)...), hello(met(-1)...), hello(met(257)...), hello(met(2, 2)...), hello(met(3, 2)...), hello(met(1, 3, 3)...), hello(met(1, 3, 2)...), hello(met(upTo(17)...)...), hello(met(upTo(64)...)...), hello(met(64, 65)...), hello(met(0, 1)...),
		hello(make([]api.Heard, 1)...), hello(make([]api.Heard, 17)...), hello(api.Heard{Of: 3}), hello(api.Heard{Of: 3, Boot: -1}), hello(api.Heard{Of: 3, Boot: 1<<30 + 1}), hello(api.Heard{Of: 3, Boot: 1<<32 + 1}), hello(api.Heard{Of: 1, Boot: 1}, api.Heard{Of: 2}),
		sum(0), sum(-1), sum(1<<30 + 1), sum(1 << 32), sum(1<<32 + 1), sum(math.MaxInt), sum(math.MinInt), sum(0, had(1)...), sum(1<<30+1, had(1)...),
		got(0, 1), got(1, 0), got(0, 0), got(-1, 1), got(1, -1), got(1<<30+1, 1), got(1, 1<<30+1), got(1<<32+1, 1), got(1, 1<<32+1),
		lsas(), lsas([]api.Lsa{}...), lsas(some(upTo(9)...)...), lsas(some(upTo(64)...)...), lsas(told(3), told(3)), lsas(told(3), told(2)), lsas(told(1), told(4), told(4)), lsas(told(1), told(4), told(3)),
		lsas(told(0)), lsas(told(65)), lsas(told(3, 3)), lsas(told(3, 4, 4)), lsas(told(3, 65)), lsas(api.Lsa{}), lsas(api.Lsa{Origin: 3}), lsas(api.Lsa{Seq: 3}), lsas(api.Lsa{Origin: 3, Seq: 1<<62 + 1}), lsas(told(1), told(2), told(30, upTo(17)...)), lsas(told(1, 1), told(2)),
	}
	for _, items := range [][]api.Item{
		had(0), had(65), had(-1), had(257), had(2, 2), had(3, 2), had(1, 3, 3), had(1, 3, 2), had(upTo(65)...), had(0, 1), had(64, 65), make([]api.Item, 1), make([]api.Item, 65), slices.Repeat(had(1), 65),
		{{Origin: 3}}, {{Origin: 3, Seq: -1}}, {{Origin: 3, Seq: 1<<62 + 1}}, {{Origin: 3, Seq: math.MaxInt}}, {{Origin: 3, Seq: math.MinInt}}, {{Origin: 1, Seq: 1}, {Origin: 2}}, {{Seq: 1}},
	} {
		l = append(l, sum(1, items...), ack(items...))
	}
	for _, p := range each() {
		for _, turn := range turns() {
			q := p
			turn(&q)
			l = append(l, q)
		}
	}
	return append(l, besides()...)
}

// besides are packets that may not be as one thing alone that their kind does not name is there.
func besides() []api.Packet {
	var l []api.Packet
	for _, p := range each() {
		for _, n := range []int{1, -1, 2, 1 << 30, 1<<30 + 1, 1 << 32, math.MinInt, math.MaxInt} {
			if p.Epoch == 0 {
				q := p
				q.Epoch = n
				l = append(l, q)
			}
			if p.ToEpoch == 0 {
				q := p
				q.ToEpoch = n
				l = append(l, q)
			}
		}
		for _, x := range append(each(), hello(make([]api.Heard, 1)...), ack(make([]api.Item, 1)...), lsas(make([]api.Lsa, 1)...)) {
			q, isMore := p, false
			if q.Heard == nil && x.Heard != nil {
				q.Heard, isMore = x.Heard, true
			}
			if q.Items == nil && x.Items != nil {
				q.Items, isMore = x.Items, true
			}
			if q.Lsas == nil && x.Lsas != nil {
				q.Lsas, isMore = x.Lsas, true
			}
			if isMore {
				l = append(l, q)
			}
		}
	}
	return l
}

// isNode, isBoot: the chapter's words.
func isNode(n int) bool { return n >= 1 && n <= 64 }
func isBoot(n int) bool { return n >= 1 && n <= 1<<30 }

// doRise tells whether numbers rise.
func doRise(l []int) bool {
	for i := 1; i < len(l); i++ {
		if l[i] <= l[i-1] {
			return false
		}
	}
	return true
}

// mayLsa tells, as chapter 9 words it, whether an Lsa may be.
func mayLsa(l api.Lsa) bool {
	var to []int
	for _, k := range l.Links {
		if !isNode(k.To) || k.To == l.Origin || k.Cost < 1 || k.Cost > 1<<30 {
			return false
		}
		to = append(to, k.To)
	}
	return isNode(l.Origin) && l.Seq >= 1 && l.Seq <= 1<<62 && len(to) <= 16 && doRise(to)
}

// mayHeard, mayItems, mayLsas: the chapter's words of each list.
func mayHeard(l []api.Heard) bool {
	var of []int
	for _, x := range l {
		if !isNode(x.Of) || !isBoot(x.Boot) {
			return false
		}
		of = append(of, x.Of)
	}
	return len(l) <= 16 && doRise(of)
}

func mayItems(l []api.Item) bool {
	var of []int
	for _, x := range l {
		if !isNode(x.Origin) || x.Seq < 1 || x.Seq > 1<<62 {
			return false
		}
		of = append(of, x.Origin)
	}
	return len(l) <= 64 && doRise(of)
}

func mayLsas(l []api.Lsa) bool {
	var of []int
	for _, x := range l {
		if !mayLsa(x) {
			return false
		}
		of = append(of, x.Origin)
	}
	return len(l) >= 1 && len(l) <= 8 && doRise(of)
}

// may tells, as the chapter words it, whether a packet may be.
func may(p api.Packet) bool {
	if !isNode(p.From) || !isNode(p.To) || p.From == p.To || !isBoot(p.Boot) || p.ToBoot < 0 || p.ToBoot > 1<<30 {
		return false
	}
	noEpoch, noTo := p.Epoch == 0, p.ToEpoch == 0
	noHeard, noItems, noLsas := len(p.Heard) == 0, len(p.Items) == 0, len(p.Lsas) == 0
	switch p.Kind {
	case 1:
		return mayHeard(p.Heard) && noEpoch && noTo && noItems && noLsas
	case 2:
		return isBoot(p.Epoch) && mayItems(p.Items) && noTo && noHeard && noLsas
	case 3:
		return isBoot(p.Epoch) && isBoot(p.ToEpoch) && noHeard && noItems && noLsas
	case 4:
		return mayLsas(p.Lsas) && noEpoch && noTo && noHeard && noItems
	case 5:
		return mayItems(p.Items) && noEpoch && noTo && noHeard && noLsas
	}
	return false
}

// four is bytes with a number of four behind; eight of eight.
func four(b []byte, n int) []byte  { return binary.BigEndian.AppendUint32(b, uint32(n)) }
func eight(b []byte, n int) []byte { return binary.BigEndian.AppendUint64(b, uint64(n)) }

// sealed is bytes with their check behind.
func sealed(b []byte) []byte { return four(bytes.Clone(b), int(crc32.ChecksumIEEE(b))) }

// laid are a packet's bytes without their check, as the chapter words it, whether it may be or not.
func laid(p api.Packet) []byte {
	b := four([]byte{byte(p.Kind), byte(p.From)}, p.Boot)
	b = four(append(b, byte(p.To)), p.ToBoot)
	if p.Kind == 2 || p.Kind == 3 {
		b = four(b, p.Epoch)
	}
	switch p.Kind {
	case 1:
		b = append(b, byte(len(p.Heard)))
		for _, x := range p.Heard {
			b = four(append(b, byte(x.Of)), x.Boot)
		}
	case 2, 5:
		b = append(b, byte(len(p.Items)))
		for _, x := range p.Items {
			b = eight(append(b, byte(x.Origin)), x.Seq)
		}
	case 3:
		b = four(b, p.ToEpoch)
	case 4:
		b = append(b, byte(len(p.Lsas)))
		for _, x := range p.Lsas {
			b = append(eight(append(b, byte(x.Origin)), x.Seq), byte(len(x.Links)))
			for _, k := range x.Links {
				b = four(append(b, byte(k.To)), k.Cost)
			}
		}
	}
	return b
}

// hand reads bytes, by the tests' own words.
type hand struct {
	b     []byte
	short bool
}

// number is the number of the next so many bytes; one too great for an int is as the greatest int.
func (h *hand) number(width int) int {
	if h.short || len(h.b) < width {
		h.short = true
		return 0
	}
	n := binary.BigEndian.Uint64(append(make([]byte, 8-width), h.b[:width]...))
	h.b = h.b[width:]
	return int(min(n, math.MaxInt))
}

// seen is, as the chapter words it, the packet whose bytes, with their check, are all of b, and whether there is one.
func seen(b []byte) (api.Packet, bool) {
	if len(b) < 4 || !bytes.Equal(sealed(b[:len(b)-4]), b) {
		return api.Packet{}, false
	}
	h := &hand{b: b[:len(b)-4]}
	p := api.Packet{Kind: h.number(1), From: h.number(1), Boot: h.number(4), To: h.number(1), ToBoot: h.number(4)}
	switch p.Kind {
	case 1:
		for range h.number(1) {
			p.Heard = append(p.Heard, api.Heard{Of: h.number(1), Boot: h.number(4)})
		}
	case 2, 5:
		if p.Kind == 2 {
			p.Epoch = h.number(4)
		}
		for range h.number(1) {
			p.Items = append(p.Items, api.Item{Origin: h.number(1), Seq: h.number(8)})
		}
	case 3:
		p.Epoch, p.ToEpoch = h.number(4), h.number(4)
	case 4:
		for range h.number(1) {
			l := api.Lsa{Origin: h.number(1), Seq: h.number(8)}
			for range h.number(1) {
				l.Links = append(l.Links, api.Link{To: h.number(1), Cost: h.number(4)})
			}
			p.Lsas = append(p.Lsas, l)
		}
	}
	return p, !h.short && len(h.b) == 0 && may(p)
}

// equalLsa and equal tell whether things are alike, by the tests' own words; an empty list and no list are.
func equalLsa(a, b api.Lsa) bool {
	return a.Origin == b.Origin && a.Seq == b.Seq && slices.Equal(a.Links, b.Links)
}

func equal(a, b api.Packet) bool {
	numbers := func(p api.Packet) [7]int {
		return [7]int{p.Kind, p.From, p.Boot, p.To, p.ToBoot, p.Epoch, p.ToEpoch}
	}
	return numbers(a) == numbers(b) && slices.Equal(a.Heard, b.Heard) && slices.Equal(a.Items, b.Items) && slices.EqualFunc(a.Lsas, b.Lsas, equalLsa)
}

// isGot fails if not this packet is got.
func isGot(t *testing.T, b []byte, want api.Packet) {
	t.Helper()
	if p, e := Get(b); e != api.OK || !equal(p, want) {
		t.Errorf("Get(%x) = %v, %d, want %v", b, p, e, want)
	}
}

// isNone fails if a packet is got, or if something is answered beside the error.
func isNone(t *testing.T, b []byte, what ...any) {
	t.Helper()
	p, e := Get(b)
	if e != api.ErrText || !equal(p, api.Packet{}) || p.Heard != nil || p.Items != nil || p.Lsas != nil {
		t.Errorf("%v: Get = %v, %d", fmt.Sprint(what...), p, e)
	}
}

// asWords fails if Get answers something else than the chapter's words, or if what is got is put as other bytes;
// it tells whether there is a packet.
func asWords(t *testing.T, b []byte) bool {
	t.Helper()
	want, ok := seen(b)
	if !ok {
		isNone(t, b, b)
		return false
	}
	isGot(t, b, want)
	if again, e := Put(want); e != api.OK || !bytes.Equal(again, b) {
		t.Errorf("%x is got as %v, which is put as %x, %d", b, want, again, e)
	}
	return true
}

// isRight fails if Check answers something else than the chapter's words, or Put something else than Check.
func isRight(t *testing.T, p api.Packet) {
	t.Helper()
	want := api.ErrArg
	if may(p) {
		want = api.OK
	}
	if e := Check(p); e != want {
		t.Errorf("Check(%v) = %d, want %d", p, e, want)
	}
	b, e := Put(p)
	if e != want || e == api.OK && !bytes.Equal(b, sealed(laid(p))) || e != api.OK && b != nil {
		t.Errorf("Put(%v) = %x, %d, want %d", p, b, e, want)
	}
}

// Pa1: Check and Put, of packets that may be and that may not.
func TestCheckKnown(t *testing.T) {
	for _, p := range maybe() {
		if e := Check(p); e != api.OK || !may(p) {
			t.Errorf("Check(%v) = %d", p, e)
		}
		isRight(t, p)
	}
	for _, p := range never() {
		if e := Check(p); e != api.ErrArg || may(p) {
			t.Errorf("Check(%v) = %d", p, e)
		}
		isRight(t, p)
	}
}

// Pa1: Check and Put, of all edges of each number, alone and by twos, in packets of each kind.
func TestCheckNumbers(t *testing.T) {
	for _, p := range each() {
		for _, a := range edges {
			for _, b := range edges {
				for _, turn := range []func(q *api.Packet){
					func(q *api.Packet) { q.From, q.Boot = a, b }, func(q *api.Packet) { q.To, q.ToBoot = a, b }, func(q *api.Packet) { q.Epoch, q.ToEpoch = a, b },
					func(q *api.Packet) { q.From, q.To = a, b }, func(q *api.Packet) { q.Kind, q.Epoch = a, b },
				} {
					q := p
					turn(&q)
					isRight(t, q)
				}
			}
		}
	}
	for _, a := range edges {
		for _, b := range edges {
			isRight(t, hello(api.Heard{Of: a, Boot: b}))
			isRight(t, hello(api.Heard{Of: 2, Boot: 1}, api.Heard{Of: a, Boot: b}))
			isRight(t, hello(api.Heard{Of: a, Boot: b}, api.Heard{Of: 63, Boot: 1}))
			isRight(t, lsas(api.Lsa{Origin: a, Seq: b}))
			isRight(t, lsas(told(2), api.Lsa{Origin: a, Seq: b}))
			isRight(t, lsas(told(2), api.Lsa{Origin: 5, Seq: 1, Links: []api.Link{{To: a, Cost: b}}}, told(6)))
			for _, with := range []func(l ...api.Item) api.Packet{ack, func(l ...api.Item) api.Packet { return sum(9, l...) }} {
				isRight(t, with(api.Item{Origin: a, Seq: b}))
				isRight(t, with(api.Item{Origin: 2, Seq: 1}, api.Item{Origin: a, Seq: b}))
				isRight(t, with(api.Item{Origin: a, Seq: b}, api.Item{Origin: 63, Seq: 1}))
			}
		}
	}
}

// Pa1: Check and Put, of all nodes that send, and to whom.
func TestCheckNodes(t *testing.T) {
	for from := -2; from <= 70; from++ {
		for to := -2; to <= 70; to++ {
			for _, p := range each() {
				p.From, p.To = from, to
				isRight(t, p)
			}
		}
	}
}

// Pa1: Check and Put, of all kinds, whatever stands there.
func TestCheckKinds(t *testing.T) {
	for kind := -2; kind <= 300; kind++ {
		for _, p := range append(each(), who(0), got(1, 0), got(0, 1)) {
			p.Kind = kind
			isRight(t, p)
		}
	}
	for kind := range 7 {
		for mask := range 32 {
			p := who(kind)
			p.Epoch, p.ToEpoch = mask&1, mask>>1&1
			p.Heard, p.Items, p.Lsas = met(upTo(mask>>2&1)...), had(upTo(mask>>3&1)...), some(upTo(mask>>4)...)
			isRight(t, p)
		}
	}
}

// Pa1: Check and Put, of as many things as there may be, and of more.
func TestCheckMany(t *testing.T) {
	for n := range 70 {
		isRight(t, hello(met(upTo(n)...)...))
		isRight(t, sum(5, had(upTo(n)...)...))
		isRight(t, ack(had(upTo(n)...)...))
		isRight(t, lsas(some(upTo(n)...)...))
	}
	for _, n := range []int{255, 256, 257, 264, 272, 320, 1000} {
		isRight(t, hello(slices.Repeat(met(3), n)...))
		isRight(t, sum(5, slices.Repeat(had(3), n)...))
		isRight(t, ack(slices.Repeat(had(3), n)...))
		isRight(t, lsas(slices.Repeat(some(3), n)...))
	}
}

// Pa1: a list is looked at as a whole: no thing of it that may not be, or does not rise, wherever it stands.
func TestCheckPlaces(t *testing.T) {
	for i := range 16 {
		for _, n := range []int{0, i, i + 2, 16, 65} {
			l := met(upTo(16)...)
			l[i].Of = n
			isRight(t, hello(l...))
		}
		l := met(upTo(16)...)
		l[i].Boot = 0
		isRight(t, hello(l...))
	}
	for i := range 64 {
		for _, n := range []int{0, i, i + 2, 64, 65} {
			l := had(upTo(64)...)
			l[i].Origin = n
			isRight(t, ack(l...))
			isRight(t, sum(2, l...))
		}
		l := had(upTo(64)...)
		l[i].Seq = 1<<62 + 1
		isRight(t, ack(l...))
		isRight(t, sum(2, l...))
	}
	for i := range 8 {
		for _, n := range []int{0, i, i + 2, 8, 65} {
			l := some(upTo(8)...)
			l[i].Origin = n
			isRight(t, lsas(l...))
		}
		l := some(upTo(8)...)
		l[i].Seq = 0
		isRight(t, lsas(l...))
		l = some(upTo(8)...)
		l[i].Links = []api.Link{{To: i + 1, Cost: 1}}
		isRight(t, lsas(l...))
	}
}

// Pa1: bytes that are known.
func TestPutKnown(t *testing.T) {
	for _, c := range []struct {
		p    api.Packet
		want string
	}{
		{hello(), "\x01\x01\x00\x00\x00\x03\x02\x00\x00\x00\x04\x00"},
		{hello(api.Heard{Of: 5, Boot: 0x01020304}), "\x01\x01\x00\x00\x00\x03\x02\x00\x00\x00\x04\x01\x05\x01\x02\x03\x04"},
		{api.Packet{Kind: 1, From: 64, Boot: 1 << 30, To: 63, ToBoot: 0x05060708}, "\x01\x40\x40\x00\x00\x00\x3f\x05\x06\x07\x08\x00"},
		{sum(0x01020304), "\x02\x01\x00\x00\x00\x03\x02\x00\x00\x00\x04\x01\x02\x03\x04\x00"},
		{sum(6, api.Item{Origin: 7, Seq: 0x0102030405060708}), "\x02\x01\x00\x00\x00\x03\x02\x00\x00\x00\x04\x00\x00\x00\x06\x01\x07\x01\x02\x03\x04\x05\x06\x07\x08"},
		{got(0x01020304, 0x05060708), "\x03\x01\x00\x00\x00\x03\x02\x00\x00\x00\x04\x01\x02\x03\x04\x05\x06\x07\x08"},
		{lsas(api.Lsa{Origin: 3, Seq: 7, Links: []api.Link{{To: 4, Cost: 5}}}, api.Lsa{Origin: 9, Seq: 1 << 62}),
			"\x04\x01\x00\x00\x00\x03\x02\x00\x00\x00\x04\x02\x03\x00\x00\x00\x00\x00\x00\x00\x07\x01\x04\x00\x00\x00\x05\x09\x40\x00\x00\x00\x00\x00\x00\x00\x00"},
		{ack(), "\x05\x01\x00\x00\x00\x03\x02\x00\x00\x00\x04\x00"},
		{ack(api.Item{Origin: 1, Seq: 2}, api.Item{Origin: 64, Seq: 258}), "\x05\x01\x00\x00\x00\x03\x02\x00\x00\x00\x04\x02\x01\x00\x00\x00\x00\x00\x00\x00\x02\x40\x00\x00\x00\x00\x00\x00\x01\x02"},
	} {
		want := sealed([]byte(c.want))
		if b, e := Put(c.p); e != api.OK || !bytes.Equal(b, want) {
			t.Errorf("Put(%v) = %x, %d, want %x", c.p, b, e, want)
		}
		isGot(t, want, c.p)
	}
	// A whole one, with its check as another program reckons it.
	b, e := Put(api.Packet{Kind: api.PacketAck, From: 1, Boot: 1, To: 2})
	if want := "\x05\x01\x00\x00\x00\x01\x02\x00\x00\x00\x00\x00\xc9\x47\xc4\x00"; e != api.OK || string(b) != want {
		t.Errorf("%x, %d, want %x", b, e, want)
	}
}

// Pa1: how many bytes there are; the first one is the chapter's example.
func TestPutSizes(t *testing.T) {
	for _, c := range []struct {
		want int
		p    api.Packet
	}{
		{23, got(1, 2)}, {23, got(1<<30, 1<<30)}, {16, hello()}, {21, hello(met(3)...)}, {96, hello(met(upTo(16)...)...)}, {20, sum(1)}, {29, sum(1, had(1)...)}, {596, sum(1, had(upTo(64)...)...)},
		{16, ack()}, {25, ack(had(1)...)}, {592, ack(had(upTo(64)...)...)}, {26, lsas(told(1))}, {31, lsas(told(1, 2))}, {106, lsas(full(20))},
		{736, lsas(full(17), full(18), full(19), full(20), full(21), full(22), full(23), full(64))},
	} {
		if b, e := Put(c.p); e != api.OK || len(b) != c.want {
			t.Errorf("Put(%v) has %d bytes, %d, want %d", c.p, len(b), e, c.want)
		}
	}
}

// Pa1: bytes that end ahead of the packet's end are none's, wherever they end, nor are those with more behind,
// be they sealed or not.
func TestGetShortLong(t *testing.T) {
	for _, p := range maybe() {
		b := laid(p)
		isGot(t, sealed(b), p)
		for n := range b {
			isNone(t, sealed(b[:n]), n, " of the bytes of ", p)
			isNone(t, b[:n], n, " of the bytes of ", p, ", not sealed")
			isNone(t, sealed(b)[:n+4], n, " of the sealed bytes of ", p)
		}
		isNone(t, b, "not sealed: ", p)
		isNone(t, sealed(b[1:]), "without a kind: ", p)
		isNone(t, sealed(sealed(b)), "sealed twice: ", p)
		for _, more := range [][]byte{{0}, {1}, {3, 0, 0, 0, 1}, b, sealed(b), make([]byte, 9), make([]byte, 500)} {
			isNone(t, sealed(slices.Concat(b, more)), more, " behind ", p)
			isNone(t, slices.Concat(sealed(b), more), more, " behind the sealed ", p)
		}
	}
	isNone(t, nil, "no bytes")
	isNone(t, []byte{}, "an empty list of bytes")
	for n := range 40 {
		isNone(t, make([]byte, n), n, " noughts")
		isNone(t, sealed(make([]byte, n)), n, " noughts, sealed")
		isNone(t, bytes.Repeat([]byte{255}, n), n, " of 255")
		isNone(t, sealed(bytes.Repeat([]byte{255}, n)), n, " of 255, sealed")
	}
	isNone(t, sealed(append(laid(ack())[:11], bytes.Repeat([]byte{255}, 90000)...)), "255 of all that there is")
}

// Pa1: Get, of how many things there are told to be other than there are.
func TestGetMany(t *testing.T) {
	for n := range 70 {
		nodes := upTo(n)
		for _, c := range []struct {
			p        api.Packet
			at, most int
			least    int
		}{{hello(met(nodes...)...), 11, 16, 0}, {sum(4, had(nodes...)...), 15, 64, 0}, {lsas(some(nodes...)...), 11, 8, 1}, {ack(had(nodes...)...), 11, 64, 0}} {
			b := laid(c.p)
			for x := range 256 {
				b[c.at] = byte(x)
				if is := asWords(t, sealed(b)); is != (x == n && c.least <= n && n <= c.most) {
					t.Errorf("%d of kind %d, told to be %d: %v", n, c.p.Kind, x, is)
				}
			}
		}
	}
}

// Pa1: the bytes of packets that may not be are none's, as far as they are no others'.
func TestGetNever(t *testing.T) {
	for _, p := range never() {
		asWords(t, sealed(laid(p)))
	}
	head := "\x01\x00\x00\x00\x03\x02\x00\x00\x00\x04"
	for what, b := range map[string]string{
		"kind 0": "\x00" + head, "kind 0, and none": "\x00" + head + "\x00", "kind 6": "\x06" + head + "\x00", "kind 255": "\xff" + head + "\x00", "kind 6 alone": "\x06" + head,
		"from 0": "\x05\x00\x00\x00\x00\x03\x02\x00\x00\x00\x04\x00", "from 65": "\x05\x41\x00\x00\x00\x03\x02\x00\x00\x00\x04\x00", "to 0": "\x05\x01\x00\x00\x00\x03\x00\x00\x00\x00\x04\x00",
		"to 65": "\x05\x01\x00\x00\x00\x03\x41\x00\x00\x00\x04\x00", "to itself": "\x05\x01\x00\x00\x00\x03\x01\x00\x00\x00\x04\x00", "start 0": "\x05\x01\x00\x00\x00\x00\x02\x00\x00\x00\x04\x00",
		"start 2^30 + 1": "\x05\x01\x40\x00\x00\x01\x02\x00\x00\x00\x04\x00", "start 2^32 - 1": "\x05\x01\xff\xff\xff\xff\x02\x00\x00\x00\x04\x00", "to start 2^30 + 1": "\x05\x01\x00\x00\x00\x03\x02\x40\x00\x00\x01\x00",
		"to start 2^32 - 1": "\x05\x01\x00\x00\x00\x03\x02\xff\xff\xff\xff\x00", "epoch 0": "\x02" + head + "\x00\x00\x00\x00\x00", "epoch 2^30 + 1": "\x02" + head + "\x40\x00\x00\x01\x00",
		"got of 0": "\x03" + head + "\x00\x00\x00\x00\x00\x00\x00\x01", "got by 0": "\x03" + head + "\x00\x00\x00\x01\x00\x00\x00\x00", "got, and how many": "\x03" + head + "\x00\x00\x00\x01\x00\x00\x00\x01\x00",
		"got by 2^30 + 1": "\x03" + head + "\x00\x00\x00\x01\x40\x00\x00\x01", "got of 2^30 + 1": "\x03" + head + "\x40\x00\x00\x01\x00\x00\x00\x01",
		"heard of 0": "\x01" + head + "\x01\x00\x00\x00\x00\x01", "heard of 65": "\x01" + head + "\x01\x41\x00\x00\x00\x01", "heard start 0": "\x01" + head + "\x01\x03\x00\x00\x00\x00", "heard start 2^30 + 1": "\x01" + head + "\x01\x03\x40\x00\x00\x01",
		"heard that do not rise": "\x01" + head + "\x02\x03\x00\x00\x00\x01\x03\x00\x00\x00\x01", "heard that is not there": "\x01" + head + "\x01", "no how many": "\x01" + head,
		"item of 0": "\x05" + head + "\x01\x00\x00\x00\x00\x00\x00\x00\x00\x01", "item of 65": "\x05" + head + "\x01\x41\x00\x00\x00\x00\x00\x00\x00\x01", "item 0": "\x05" + head + "\x01\x03\x00\x00\x00\x00\x00\x00\x00\x00",
		"item 2^62 + 1": "\x05" + head + "\x01\x03\x40\x00\x00\x00\x00\x00\x00\x01", "item 2^63": "\x05" + head + "\x01\x03\x80\x00\x00\x00\x00\x00\x00\x00", "item 2^63 + 1": "\x05" + head + "\x01\x03\x80\x00\x00\x00\x00\x00\x00\x01",
		"item 2^64 - 1": "\x05" + head + "\x01\x03\xff\xff\xff\xff\xff\xff\xff\xff", "no Lsa": "\x04" + head + "\x00", "Lsa of 65": "\x04" + head + "\x01\x41\x00\x00\x00\x00\x00\x00\x00\x01\x00",
		"Lsa 0": "\x04" + head + "\x01\x03\x00\x00\x00\x00\x00\x00\x00\x00\x00", "Lsa 2^63 + 1": "\x04" + head + "\x01\x03\x80\x00\x00\x00\x00\x00\x00\x01\x00", "a link that is not there": "\x04" + head + "\x01\x03\x00\x00\x00\x00\x00\x00\x00\x01\x01",
	} {
		isNone(t, sealed([]byte(b)), what)
	}
}

// Pa1, Pa2: Get, of all values of each byte, against the chapter's words, sealed and not; what is got is put as these
// very bytes, and other bytes are no same packet's.
func TestGetBytes(t *testing.T) {
	found := 0
	for _, p := range append(each(), hello(), ack(), sum(1), lsas(told(3)), api.Packet{Kind: 5, From: 1, Boot: 1, To: 64}) {
		b := laid(p)
		for i := range b {
			for x := range 256 {
				other := bytes.Clone(b)
				other[i] = byte(x)
				if byte(x) != b[i] {
					turned := append(other[:len(b):len(b)], sealed(b)[len(b):]...)
					isNone(t, turned, "turned at ", i)
				}
				if !asWords(t, sealed(other)) {
					continue
				}
				found++
				if q, _ := Get(sealed(other)); byte(x) != b[i] && (equal(q, p) || Same(q, p)) {
					t.Errorf("%x is got as %v as well", other, p)
				}
			}
		}
	}
	if found < 1000 {
		t.Errorf("%d are packets'", found)
	}
}

// Pa2: a check that is not the bytes' own makes them none's, whichever byte of it is turned.
func TestGetCheck(t *testing.T) {
	for _, p := range maybe() {
		b := sealed(laid(p))
		for i := len(b) - 4; i < len(b); i++ {
			for x := range 256 {
				other := bytes.Clone(b)
				other[i] = byte(x)
				if byte(x) != b[i] {
					isNone(t, other, "check turned at ", i)
				}
			}
		}
	}
}

// Pa2: bits ahead of the check that are turned, all within 32 in a row, make bytes none's.
func TestTurned(t *testing.T) {
	random := rand.New(rand.NewSource(1))
	for _, p := range maybe() {
		b, _ := Put(p)
		bits := 8 * (len(b) - 4)
		turn := func(mask uint32, at int) {
			other := bytes.Clone(b)
			for k := range 32 {
				if mask>>k&1 == 1 && at+k < bits {
					other[(at+k)/8] ^= 1 << ((at + k) % 8)
				}
			}
			if !bytes.Equal(other, b) {
				isNone(t, other, "turned by ", mask, " at ", at)
			}
		}
		for at := range bits {
			for _, mask := range []uint32{1, 3, 5, 0xff, 0xffff, 1<<31 | 1, math.MaxUint32, random.Uint32(), random.Uint32() | 1, random.Uint32() | 1<<31 | 1} {
				turn(mask, at)
			}
		}
	}
}

// anyPacket is any packet that may be.
func anyPacket(random *rand.Rand) api.Packet {
	boot := func() int { return 1 + random.Intn(1<<30)>>random.Intn(30) }
	seq := func() int { return 1 + random.Intn(1<<62)>>random.Intn(62) }
	nodes := func(most int) []int {
		l := random.Perm(64)[:random.Intn(most+1)]
		slices.Sort(l)
		return l
	}
	ends := random.Perm(64)
	p := api.Packet{Kind: 1 + random.Intn(5), From: 1 + ends[0], Boot: boot(), To: 1 + ends[1], ToBoot: boot() * random.Intn(2)}
	switch p.Kind {
	case 1:
		for _, n := range nodes(16) {
			p.Heard = append(p.Heard, api.Heard{Of: n + 1, Boot: boot()})
		}
	case 3:
		p.Epoch, p.ToEpoch = boot(), boot()
	case 4:
		origins := nodes(8)
		if len(origins) == 0 {
			origins = []int{random.Intn(64)}
		}
		for _, n := range origins {
			l := api.Lsa{Origin: n + 1, Seq: seq()}
			for _, k := range nodes(16) {
				if k+1 != l.Origin {
					l.Links = append(l.Links, api.Link{To: k + 1, Cost: boot()})
				}
			}
			p.Lsas = append(p.Lsas, l)
		}
	default:
		if p.Kind == 2 {
			p.Epoch = boot()
		}
		for _, n := range nodes(64) {
			p.Items = append(p.Items, api.Item{Origin: n + 1, Seq: seq()})
		}
	}
	return p
}

// Pa2: what is put is got, any packet that may be.
func TestPutGet(t *testing.T) {
	random := rand.New(rand.NewSource(2))
	for range 5000 {
		p := anyPacket(random)
		b, e := Put(p)
		if e != api.OK || Check(p) != api.OK || !bytes.Equal(b, sealed(laid(p))) {
			t.Fatalf("Put(%v) = %x, %d", p, b, e)
		}
		if q, e := Get(b); e != api.OK || !equal(q, p) || !Same(q, p) {
			t.Fatalf("Get of what %v is put as = %v, %d", p, q, e)
		}
	}
}

// Pa1: Get, of any bytes, against the chapter's words.
func TestGetAny(t *testing.T) {
	random := rand.New(rand.NewSource(3))
	found := 0
	for range 20000 {
		b := laid(anyPacket(random))
		for random.Intn(2) == 0 {
			b[random.Intn(len(b))] += byte(random.Intn(3))
		}
		if random.Intn(10) == 0 {
			b = b[:random.Intn(len(b))]
		}
		if asWords(t, sealed(b)) {
			found++
		}
		noise := make([]byte, random.Intn(40))
		for i := range noise {
			noise[i] = byte(random.Intn(6)) * byte(random.Intn(2))
		}
		asWords(t, sealed(noise))
		asWords(t, noise)
	}
	if found < 5000 || found > 19000 {
		t.Errorf("%d are packets'", found)
	}
}

// Pa1: Same, of all pairs, against the tests' own words, also of packets that may not be.
func TestSame(t *testing.T) {
	all := append(maybe(), never()...)
	for i, a := range all {
		for k, b := range all {
			if is := Same(a, b); is != equal(a, b) {
				t.Errorf("Same of %d and %d = %v", i, k, is)
			}
		}
	}
	empty := api.Packet{Heard: []api.Heard{}, Items: []api.Item{}, Lsas: []api.Lsa{}}
	if !Same(empty, api.Packet{}) || !Same(api.Packet{}, empty) || !Same(lsas(told(3)), lsas(api.Lsa{Origin: 3, Seq: 30, Links: []api.Link{}})) {
		t.Error("no list and an empty one are unlike")
	}
}

// stuffed is a packet, that may not be, with something in all that there is.
func stuffed() api.Packet {
	return api.Packet{Kind: 3, From: 11, Boot: 12, To: 13, ToBoot: 14, Epoch: 15, ToEpoch: 16, Heard: met(3, 5, 9), Items: had(2, 4, 8), Lsas: []api.Lsa{told(1, 2, 3), full(20), told(63)}}
}

// Pa1: packets that are unlike in one thing alone are unlike, whether their kind names it or not.
func TestSameOne(t *testing.T) {
	for i, turn := range []func(p *api.Packet){
		func(p *api.Packet) { p.Kind++ }, func(p *api.Packet) { p.From++ }, func(p *api.Packet) { p.Boot++ }, func(p *api.Packet) { p.To++ }, func(p *api.Packet) { p.ToBoot++ }, func(p *api.Packet) { p.Epoch++ }, func(p *api.Packet) { p.ToEpoch++ },
		func(p *api.Packet) { p.Kind += 256 }, func(p *api.Packet) { p.From += 256 }, func(p *api.Packet) { p.Boot += 1 << 32 }, func(p *api.Packet) { p.To += 256 }, func(p *api.Packet) { p.ToBoot += 1 << 32 }, func(p *api.Packet) { p.Epoch += 1 << 32 }, func(p *api.Packet) { p.ToEpoch += 1 << 32 },
		func(p *api.Packet) { p.From, p.To = p.To, p.From }, func(p *api.Packet) { p.Boot, p.ToBoot = p.ToBoot, p.Boot }, func(p *api.Packet) { p.Epoch, p.ToEpoch = p.ToEpoch, p.Epoch },
		func(p *api.Packet) { p.Heard = nil }, func(p *api.Packet) { p.Heard = p.Heard[:2] }, func(p *api.Packet) { p.Heard = p.Heard[1:] }, func(p *api.Packet) { slices.Reverse(p.Heard) }, func(p *api.Packet) { p.Heard[2].Of++ }, func(p *api.Packet) { p.Heard[0].Boot++ },
		func(p *api.Packet) { p.Items = nil }, func(p *api.Packet) { p.Items = p.Items[:2] }, func(p *api.Packet) { p.Items = p.Items[1:] }, func(p *api.Packet) { slices.Reverse(p.Items) }, func(p *api.Packet) { p.Items[2].Origin++ }, func(p *api.Packet) { p.Items[0].Seq++ },
		func(p *api.Packet) { p.Lsas = nil }, func(p *api.Packet) { p.Lsas = p.Lsas[:2] }, func(p *api.Packet) { p.Lsas = p.Lsas[1:] }, func(p *api.Packet) { slices.Reverse(p.Lsas) }, func(p *api.Packet) { p.Lsas[2].Origin++ }, func(p *api.Packet) { p.Lsas[0].Seq++ },
		func(p *api.Packet) { p.Lsas[1].Links[15].Cost++ }, func(p *api.Packet) { p.Lsas[0].Links[0].To-- }, func(p *api.Packet) { p.Lsas[1].Links = p.Lsas[1].Links[:15] }, func(p *api.Packet) { p.Lsas[0].Links = nil },
	} {
		a, b := stuffed(), stuffed()
		turn(&b)
		if Same(a, b) || Same(b, a) || !Same(a, stuffed()) || !Same(b, b) {
			t.Errorf("turned by %d: %v is as %v", i, b, a)
		}
	}
}

// spoil writes to all that a packet has, and to what stands behind each list.
func spoil(p api.Packet) {
	for _, l := range p.Lsas {
		for i := range l.Links[:cap(l.Links)] {
			l.Links[:cap(l.Links)][i] = api.Link{To: 99, Cost: 99}
		}
	}
	for i := range p.Lsas[:cap(p.Lsas)] {
		p.Lsas[:cap(p.Lsas)][i] = api.Lsa{Origin: 99, Seq: 99}
	}
	for i := range p.Items[:cap(p.Items)] {
		p.Items[:cap(p.Items)][i] = api.Item{Origin: 99, Seq: 99}
	}
	for i := range p.Heard[:cap(p.Heard)] {
		p.Heard[:cap(p.Heard)][i] = api.Heard{Of: 99, Boot: 99}
	}
}

// R3: Put writes to nothing that is handed in, and answers new memory.
func TestPutNewMemory(t *testing.T) {
	for i := range each() {
		p := each()[i]
		first, _ := Put(p)
		second, _ := Put(p)
		clear(second[:cap(second)])
		if !equal(p, each()[i]) {
			t.Errorf("what was handed in is %v now", p)
		}
		spoil(p)
		if !bytes.Equal(first, sealed(laid(each()[i]))) {
			t.Errorf("what was put is %x now", first)
		}
	}
}

// R3: what is got is new memory, each list apart from the others; nothing is written to the bytes, or behind them.
func TestGetNewMemory(t *testing.T) {
	for _, p := range each() {
		whole := append(sealed(laid(p)), 1, 2, 3, 4, 5, 6, 7, 8)
		b := whole[:len(whole)-8]
		kept := bytes.Clone(whole)
		first, _ := Get(b)
		second, _ := Get(b)
		third, _ := Get(b)
		for i := range first.Lsas {
			_ = append(first.Lsas[i].Links, api.Link{To: 99, Cost: 99})
		}
		if !equal(first, p) || !bytes.Equal(whole, kept) {
			t.Errorf("grown into each other: %v, %x", first, whole)
		}
		if len(first.Lsas) > 1 {
			clear(first.Lsas[0].Links)
			if !slices.EqualFunc(first.Lsas[1:], p.Lsas[1:], equalLsa) {
				t.Errorf("with the first one's links turned: %v", first)
			}
		}
		spoil(second)
		clear(b)
		if !equal(third, p) {
			t.Errorf("what was got is %v now", third)
		}
	}
}

// R3: no call writes to what it is handed, nor behind it, also if it may not be.
func TestHandedIn(t *testing.T) {
	for i, anew := range []func() api.Packet{stuffed, func() api.Packet { return each()[0] }, func() api.Packet { return each()[1] }, func() api.Packet { return each()[3] }} {
		p := anew()
		p.Heard = append(slices.Grow(p.Heard, 8), api.Heard{Of: 64, Boot: 3})[:len(p.Heard)]
		p.Items = append(slices.Grow(p.Items, 8), api.Item{Origin: 64, Seq: 3})[:len(p.Items)]
		p.Lsas = append(slices.Grow(p.Lsas, 8), told(64, 3))[:len(p.Lsas)]
		Check(p)
		Put(p)
		Same(p, stuffed())
		Same(stuffed(), p)
		n, m, k := len(p.Heard), len(p.Items), len(p.Lsas)
		if !equal(p, anew()) || p.Heard[:n+1][n] != (api.Heard{Of: 64, Boot: 3}) || p.Items[:m+1][m] != (api.Item{Origin: 64, Seq: 3}) || !equalLsa(p.Lsas[:k+1][k], told(64, 3)) {
			t.Errorf("%d: it is %v now", i, p)
		}
	}
}

// R4: the same calls answer the same.
func TestAgain(t *testing.T) {
	for _, p := range append(maybe(), never()...) {
		first, e := Put(p)
		for range 3 {
			again, f := Put(p)
			if f != e || !bytes.Equal(again, first) || Check(p) != e {
				t.Errorf("Put(%v) = %x, %d, then %x, %d", p, first, e, again, f)
			}
			if e == api.OK {
				isGot(t, again, p)
			}
		}
	}
}
