package txn

import (
	"cmp"
	"slices"

	"clearway/api"
)

// desk is a desk that is being run: with what does the requests of each kind, the index of the request that is being done, and what came of the requests so far.
type desk struct {
	api.Desk
	acts     map[int]act
	at       int
	outcomes []api.Outcome
}

// deskOf returns a desk of the valid graph g.
func deskOf(g api.Graph) *desk {
	own := api.Graph{
		Vertices: slices.Clone(g.Vertices),
		Edges:    slices.Clone(g.Edges),
		Depots:   slices.Clone(g.Depots),
	}
	return &desk{Desk: api.Desk{Graph: own}, acts: acts()}
}

// run runs the request r, which has the index i.
func (d *desk) run(i int, r api.Request) {
	d.at = i
	d.do(r)
	for d.wake() || d.free() {
	}
}

// do does the request r, or lets its client wait with it.
func (d *desk) do(r api.Request) {
	defer func() {
		if recover() != nil {
			d.note(r.Client, api.ORefused, "")
		}
	}()
	s := d.session(r.Client)
	must(s != nil && s.Waits.Kind == 0 || s == nil && r.Kind == api.RBegin)
	needed := needs(d.Graph, r)
	if len(holders(d.Desk, r.Client, needed)) > 0 {
		s.Waits = r
		d.Waiting = append(d.Waiting, r.Client)
		d.note(r.Client, api.OWaits, "")
		return
	}
	if len(needed) > 0 {
		s.Locks = keysOf(slices.Concat(s.Locks, needed)).list()
	}
	d.note(r.Client, api.ODone, d.acts[r.Kind](d, r))
}

// must refuses the request that is being done, unless ok is true.
func must(ok bool) {
	if !ok {
		panic(api.ErrTxn)
	}
}

// note notes what came of a request of this client, during the one that is being run.
func (d *desk) note(client, kind int, read string) {
	d.outcomes = append(d.outcomes, api.Outcome{At: d.at, Client: client, Kind: kind, Read: read})
}

// wake does the request of the first client that waits, but for no one. It reports whether there is one.
func (d *desk) wake() bool {
	pairs := Waits(d.Desk)
	for _, client := range d.Waiting {
		if !slices.ContainsFunc(pairs, func(w [2]int) bool { return w[0] == client }) {
			d.do(d.called(client))
			return true
		}
	}
	return false
}

// free rolls back the transaction of the greatest client in a circle. It reports whether there is one.
func (d *desk) free() bool {
	pairs := Waits(d.Desk)
	for _, s := range slices.Backward(d.Sessions) {
		if inCircle(pairs, s.Client) {
			d.called(s.Client)
			for range s.Frames {
				d.undo(s.Client)
			}
			d.note(s.Client, api.OVictim, "")
			return true
		}
	}
	return false
}

// called returns the request with which the client waits, and lets it wait no more.
func (d *desk) called(client int) api.Request {
	s := d.session(client)
	r := s.Waits
	s.Waits = api.Request{}
	i := slices.Index(d.Waiting, client)
	d.Waiting = slices.Delete(d.Waiting, i, i+1)
	return r
}

// place returns the index of the session of the client, or the one where it would be, and whether it is there.
func (d *desk) place(client int) (int, bool) {
	return slices.BinarySearchFunc(d.Sessions, client, func(s api.Session, client int) int { return cmp.Compare(s.Client, client) })
}

// session returns the session of the client, or nil if there is none.
func (d *desk) session(client int) *api.Session {
	if i, found := d.place(client); found {
		return &d.Sessions[i]
	}
	return nil
}
