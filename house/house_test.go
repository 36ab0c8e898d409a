package house_test

import (
	"testing"

	"tollgate/house"
	"tollgate/tls"
)

// faults counts what is told to it.
type faults int

func (f *faults) Helper() {}

func (f *faults) Errorf(string, ...any) { *f++ }

// All paths lead there: a client and a server that feed each other are done.
func TestPathsLeadThere(t *testing.T) {
	var home house.House
	for _, p := range house.Paths([2]int{100, 200}) {
		a, b := home.On(t, p)
		client, said, _ := tls.Dial(a)
		server := tls.Serve(b)
		to, other := server, client
		for len(said) > 0 {
			said, _ = to.Feed(said)
			to, other = other, to
		}
		if !client.Committed() || !server.Done() || server.Peer().Subject != "client" || client.Peer().Subject != "server" || server.Resumed() != p.Resumed {
			t.Errorf("%v: committed %v, done %v, resumed %v", p, client.Committed(), server.Done(), server.Resumed())
		}
	}
}

func TestLent(t *testing.T) {
	var home house.House
	a, b := home.On(t, house.Path{Resumed: true})
	for _, want := range []tls.Config{a, b} {
		l := house.Lend(want)
		var f faults
		if l.Unchanged(&f); f != 0 {
			t.Errorf("%d faults where nothing was changed", f)
		}
		l.Chain[0][0]++
		if l.Unchanged(&f); f != 1 {
			t.Errorf("%d faults where a byte was changed", f)
		}
		root := l.Roots[0]
		if l.Spoil(); l.Chain[0] != nil || l.Roots[0] != nil || root[0] == want.Roots[0][0] {
			t.Error("what was lent stays as it was")
		}
	}
	// What is handed out is handed out anew.
	a.Chain[0][0]++
	a.Saved.Ticket[0]++
	a.Saved.Peer.Key[0]++
	again, _ := home.On(t, house.Path{Resumed: true})
	if again.Chain[0][0] == a.Chain[0][0] || house.SameSaved(again.Saved, a.Saved) {
		t.Error("what is handed out is shared")
	}
}
