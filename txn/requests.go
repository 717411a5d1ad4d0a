package txn

import (
	"slices"

	"clearway/api"
	"clearway/graph"
)

// act does a request of one kind, whose client has the locks that it needs, and returns what was read. It refuses by a panic, before it changes anything.
type act func(d *desk, r api.Request) string

// acts returns what does the requests of each kind.
func acts() map[int]act {
	return map[int]act{
		api.RBegin:    (*desk).begin,
		api.RChange:   (*desk).change,
		api.RRead:     (*desk).read,
		api.RCommit:   (*desk).commit,
		api.RRollback: (*desk).rollback,
	}
}

// begin does an RBegin.
func (d *desk) begin(r api.Request) string {
	i, found := d.place(r.Client)
	if !found {
		d.Sessions = slices.Insert(d.Sessions, i, api.Session{Client: r.Client})
	}
	s := &d.Sessions[i]
	must(len(s.Frames) < api.MaxFrames)
	s.Frames = append(s.Frames, api.Frame{})
	return ""
}

// change does an RChange.
func (d *desk) change(r api.Request) string {
	s := d.session(r.Client)
	made := 0
	for _, f := range s.Frames {
		made += len(f.Changes)
	}
	must(made < api.MaxMade)
	undo, e := graph.Invert(d.Graph, r.Change)
	must(e == api.OK)
	d.Graph, _ = graph.Apply(d.Graph, r.Change)
	last := &s.Frames[len(s.Frames)-1]
	last.Changes = append(last.Changes, r.Change)
	last.Undo = slices.Concat(undo, last.Undo)
	return ""
}

// read does an RRead.
func (d *desk) read(r api.Request) string {
	switch r.Lock.Kind {
	case api.LVertex:
		for _, v := range d.Graph.Vertices {
			if v.ID == r.Lock.ID {
				return encoding(api.Change{Kind: api.CAddVertex, Vertex: v})
			}
		}
	case api.LEdge:
		for _, e := range d.Graph.Edges {
			if e.ID == r.Lock.ID {
				return encoding(api.Change{Kind: api.CAddEdge, Edge: e})
			}
		}
	case api.LDepots:
		return encoding(api.Change{Kind: api.CDepots, Depots: d.Graph.Depots})
	}
	return ""
}

// encoding returns the encoding of a change that makes a part of a valid graph, so that it has one.
func encoding(c api.Change) string {
	s, _ := graph.EncodeChange(c)
	return s
}

// commit does an RCommit.
func (d *desk) commit(r api.Request) string {
	f := d.pop(r.Client)
	if s := d.session(r.Client); s != nil {
		outer := &s.Frames[len(s.Frames)-1]
		outer.Changes = slices.Concat(outer.Changes, f.Changes)
		outer.Undo = slices.Concat(f.Undo, outer.Undo)
	} else {
		d.Log = append(d.Log, f.Changes)
	}
	return ""
}

// rollback does an RRollback.
func (d *desk) rollback(r api.Request) string {
	d.undo(r.Client)
	return ""
}

// undo rolls back the last frame of the client's session. Its changes can be undone, whatever other clients do, because the client has their locks.
func (d *desk) undo(client int) {
	d.Graph, _, _ = graph.ApplyAll(d.Graph, d.pop(client).Undo)
}

// pop removes the last frame of the client's session, and returns it. If it was the only one, the session ends, and with it its locks.
func (d *desk) pop(client int) api.Frame {
	i, _ := d.place(client)
	s := &d.Sessions[i]
	last := len(s.Frames) - 1
	f := s.Frames[last]
	s.Frames = slices.Delete(s.Frames, last, last+1)
	if last == 0 {
		d.Sessions = slices.Delete(d.Sessions, i, i+1)
	}
	return f
}
