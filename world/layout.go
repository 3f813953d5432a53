package world

import (
	"slices"

	"colonnade/api"
	"colonnade/greet"
	"colonnade/hub"
	"colonnade/line"
)

const (
	mostHubs  = 4
	mostHomes = 6
	mostLinks = 6
	mostLets  = 64
	// mostFrame is how many bytes a datagram frame may have. A Gram with its head has fewer.
	mostFrame = 1000
)

// New returns a world whose lines' first datagrams are in flight.
func New(c Config) (*World, api.Errno) {
	if !c.isValid() {
		return nil, api.ErrArg
	}
	w := &World{}
	for range c.Hubs {
		h, e := hub.New(c.Room)
		if e != api.OK {
			return nil, api.ErrArg
		}
		w.relays = append(w.relays, newRelay(h))
	}
	for _, home := range c.Homes {
		x := newEnd()
		w.ends = append(w.ends, x)
		w.connect(x, w.relays[home], c)
	}
	for _, l := range c.Links {
		w.connect(w.relays[l[0]], w.relays[l[1]], c)
	}
	w.send()
	return w, api.OK
}

// isValid reports whether there can be such a world, if its hubs can have such a room.
func (c Config) isValid() bool {
	if c.Hubs < 1 || c.Hubs > mostHubs || len(c.Homes) > mostHomes || len(c.Links) > mostLinks {
		return false
	}
	if c.Lets < 1 || c.Lets > mostLets || c.Late < 1 {
		return false
	}
	peers := make([]int, c.Hubs)
	for _, home := range c.Homes {
		if !c.isHub(home) {
			return false
		}
		peers[home]++
	}
	for _, l := range c.Links {
		if !c.isHub(l[0]) || !c.isHub(l[1]) || l[0] == l[1] {
			return false
		}
		peers[l[0]]++
		peers[l[1]]++
	}
	return slices.Max(peers) <= api.MaxPeers
}

func (c Config) isHub(n int) bool {
	return n >= 0 && n < c.Hubs
}

// connect connects two nodes. Both know each other by the number of their connection.
func (w *World) connect(client, server node, c Config) {
	number := uint64(len(w.ports) / 2)
	a := newPort(client, number, false, c.Late)
	b := newPort(server, number, true, c.Late)
	a.other, b.other = b, a
	w.ports = append(w.ports, a, b)
	client.join(a, c.Lets)
	server.join(b, c.Lets)
}

// lineConfig returns what a side of a connection is. The sides and connections of a world differ in their names, and so in their keys.
func lineConfig(number uint64, server bool) line.Config {
	c := line.Config{
		Server:   server,
		Identity: []byte("colonnade"),
		Secret:   []byte("what both sides of a connection know"),
		Name:     [8]byte{'c', byte(number)},
		Random:   [32]byte{'r', byte(number)},
		Params: greet.Params{
			Credit: api.Credit,
			// A stream that is the only one has all the credit, as one of many objects takes too long otherwise.
			Window: api.Credit,
			Bidi:   api.MaxStreams,
			Uni:    api.MaxStreams,
			Gram:   mostFrame,
		},
	}
	if server {
		c.Name[0], c.Random[0] = 's', 't'
	}
	return c
}
