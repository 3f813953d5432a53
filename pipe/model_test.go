package pipe_test

import (
	"fmt"
	"maps"
	"math/rand/v2"
	"slices"
	"testing"

	"colonnade/api"
	"colonnade/frame"
	"colonnade/pipe"
)

// mark is what became of a byte, of an end, or of a reset.
type mark byte

const (
	unsent mark = iota
	flying
	again // to be sent again
	arrived
)

// account is a till.
type account struct {
	window, limit, came, read uint64
}

// news reports whether a new limit is announced.
func (a *account) news() bool {
	if a.limit-a.read >= max(a.window/2, 1) || a.read+a.window <= a.limit {
		return false
	}
	a.limit = a.read + a.window
	return true
}

// sendModel is a model of a sending part, byte by byte.
type sendModel struct {
	p       []byte
	marks   []mark
	ended   bool
	end     mark
	reset   bool
	arrived bool // that it is reset
	code    uint64
	limit   uint64
}

func (h *sendModel) over() bool {
	if h.reset {
		return h.arrived
	}
	return h.ended && h.end == arrived && h.waiting() == 0
}

func (h *sendModel) waiting() int {
	i := slices.IndexFunc(h.marks, func(m mark) bool { return m != arrived })
	if h.reset || i < 0 {
		return 0
	}
	return len(h.p) - i
}

func (h *sendModel) sent() uint64 {
	i := slices.Index(h.marks, unsent)
	if i < 0 {
		return uint64(len(h.p))
	}
	return uint64(i)
}

// next returns from where to where is to be sent next.
func (h *sendModel) next(left uint64) (uint64, uint64, bool) {
	if h.reset {
		return 0, 0, false
	}
	first, what := slices.Index(h.marks, again), again
	if first < 0 {
		first, what = int(h.sent()), unsent
	}
	to := first
	for to < len(h.p) && h.marks[to] == what && (what == again || uint64(to) < h.limit && uint64(to-first) < left) {
		to++
	}
	ends := to == len(h.p) && h.ended && (h.end == unsent || h.end == again)
	return uint64(first), uint64(to), to > first || ends
}

// recvModel is a model of a receiving part.
type recvModel struct {
	account
	has      map[uint64]byte
	ended    bool
	done     bool
	reset    bool
	reported bool
	code     uint64
	stopped  bool
	stop     uint64
}

func (o *recvModel) open() bool {
	return !o.done && !o.reset
}

func (o *recvModel) over() bool {
	return o.done || o.reset && o.reported
}

// modelStream has the parts that a stream has.
type modelStream struct {
	id   uint64
	rank pipe.Rank
	send *sendModel
	recv *recvModel
}

func (s *modelStream) over() bool {
	return (s.send == nil || s.send.over()) && (s.recv == nil || s.recv.over())
}

// told names a frame without stream data.
type told struct {
	kind, id uint64
}

// model is a table in the plainest way.
type model struct {
	server     bool
	own, peer  pipe.Limits // as they are by now
	all        account
	spent      uint64
	streams    map[uint64]*modelStream
	opened     [2]uint64
	known      [2]uint64
	overBefore map[uint64]bool
	came       []uint64
	due        map[told]bool
	inFlight   int
}

func newModel(server bool, own, peer pipe.Limits) *model {
	return &model{
		server: server, own: own, peer: peer,
		all:        account{window: own.Credit, limit: own.Credit},
		streams:    map[uint64]*modelStream{},
		overBefore: map[uint64]bool{},
		due:        map[told]bool{},
	}
}

func (m *model) owns(id uint64) bool {
	return (id%2 == 1) == m.server
}

func (m *model) add(id uint64) {
	s := &modelStream{id: id}
	oneWay := id%4 >= 2
	if m.owns(id) || !oneWay {
		s.send = &sendModel{limit: m.peer.Window}
	}
	if !m.owns(id) || !oneWay {
		s.recv = &recvModel{account: account{window: m.own.Window, limit: m.own.Window}, has: map[uint64]byte{}}
	}
	m.streams[id] = s
}

func (m *model) open(uni bool) (uint64, api.Errno) {
	i, may := uint64(0), m.peer.Bidi
	if uni {
		i, may = 1, m.peer.Uni
	}
	if m.opened[i] >= may {
		return 0, api.ErrCredit
	}
	id := m.opened[i]*4 + i*2
	if m.server {
		id++
	}
	m.opened[i]++
	m.add(id)
	return id, api.OK
}

func (m *model) write(id uint64, p []byte, end bool) api.Errno {
	s := m.streams[id]
	switch {
	case s == nil:
		return api.ErrNone
	case s.send == nil:
		return api.ErrState
	case s.send.ended || s.send.reset:
		return api.ErrOver
	case s.send.waiting()+len(p) > waiting:
		return api.ErrFull
	}
	s.send.p = append(s.send.p, p...)
	s.send.marks = append(s.send.marks, make([]mark, len(p))...)
	s.send.ended = end
	return api.OK
}

func (m *model) reset(id, code uint64) api.Errno {
	s := m.streams[id]
	switch {
	case code > top:
		return api.ErrArg
	case s == nil:
		return api.ErrNone
	case s.send == nil:
		return api.ErrState
	case s.send.reset || s.send.over():
		return api.ErrOver
	}
	s.send.reset, s.send.code = true, code
	m.due[told{api.ResetStream, id}] = true
	return api.OK
}

func (m *model) stop(id, code uint64) api.Errno {
	s := m.streams[id]
	switch {
	case code > top:
		return api.ErrArg
	case s == nil:
		return api.ErrNone
	case s.recv == nil:
		return api.ErrState
	case !s.recv.open() || s.recv.stopped:
		return api.ErrOver
	}
	s.recv.stopped, s.recv.stop = true, code
	m.due[told{api.StopSending, id}] = true
	return api.OK
}

func (m *model) read(id uint64, most int) got {
	s := m.streams[id]
	switch {
	case s == nil:
		return got{e: api.ErrNone}
	case s.recv == nil:
		return got{e: api.ErrState}
	case s.recv.reset:
		s.recv.reported = true
		m.settle()
		return got{code: s.recv.code, e: api.ErrClosed}
	case s.recv.done:
		return got{e: api.ErrOver}
	}
	var p []byte
	for len(p) < most {
		b, ok := s.recv.has[s.recv.read+uint64(len(p))]
		if !ok {
			break
		}
		p = append(p, b)
	}
	m.took(s, uint64(len(p)))
	s.recv.done = s.recv.ended && s.recv.read == s.recv.came
	m.settle()
	return got{p: string(p), done: s.recv.done}
}

func (m *model) took(s *modelStream, n uint64) {
	s.recv.read += n
	m.all.read += n
	if s.recv.news() {
		m.due[told{api.MaxStreamData, s.id}] = true
	}
	if m.all.news() {
		m.due[told{api.MaxData, 0}] = true
	}
}

// settle finds the streams that are over since.
func (m *model) settle() {
	for id, s := range m.streams {
		if !s.over() || m.overBefore[id] {
			continue
		}
		m.overBefore[id] = true
		if m.owns(id) {
			continue
		}
		if id%4 >= 2 {
			m.own.Uni++
			m.due[told{api.StreamsUni, 0}] = true
		} else {
			m.own.Bidi++
			m.due[told{api.StreamsBidi, 0}] = true
		}
	}
}

func (m *model) hear(f api.Frame) uint64 {
	switch f.Kind {
	case api.MaxData:
		m.peer.Credit = max(m.peer.Credit, f.N)
		return 0
	case api.StreamsBidi:
		m.peer.Bidi = max(m.peer.Bidi, f.N)
		return 0
	case api.StreamsUni:
		m.peer.Uni = max(m.peer.Uni, f.N)
		return 0
	}
	oneWay := f.ID%4 >= 2
	size := f.Kind == api.Stream || f.Kind == api.ResetStream
	i, lets := 0, m.own.Bidi
	if oneWay {
		i, lets = 1, m.own.Uni
	}
	switch {
	case size && m.owns(f.ID) && oneWay, !size && !m.owns(f.ID) && oneWay, m.owns(f.ID) && m.streams[f.ID] == nil:
		return api.StreamState
	case !m.owns(f.ID) && f.ID/4 >= lets:
		return api.StreamLimit
	}
	if c := m.refuse(f); size && c != 0 {
		return c
	}
	for ; !m.owns(f.ID) && m.known[i] <= f.ID/4; m.known[i]++ {
		id := m.known[i]*4 + f.ID%4
		m.add(id)
		m.came = append(m.came, id)
	}
	m.take(m.streams[f.ID], f)
	return 0
}

// refuse returns the code for a Stream or a ResetStream that does not agree with what is known.
func (m *model) refuse(f api.Frame) uint64 {
	var came, limit uint64 = 0, m.own.Window
	var ended bool
	if s := m.streams[f.ID]; s != nil && s.recv != nil {
		came, limit, ended = s.recv.came, s.recv.limit, s.recv.ended
	}
	to := f.Off + uint64(len(f.Data))
	ends := f.Fin || f.Kind == api.ResetStream
	switch {
	case ended && to > came, ended && ends && to != came, ends && to < came:
		return api.FinalSize
	case to > limit, to > came && m.all.came+to-came > m.all.limit:
		return api.FlowControl
	}
	return 0
}

func (m *model) take(s *modelStream, f api.Frame) {
	switch f.Kind {
	case api.Stream, api.ResetStream:
		m.receive(s, f)
	case api.StopSending:
		if !s.send.reset && !s.send.over() {
			s.send.reset, s.send.code = true, f.Code
			m.due[told{api.ResetStream, s.id}] = true
		}
	case api.MaxStreamData:
		s.send.limit = max(s.send.limit, f.N)
	}
}

func (m *model) receive(s *modelStream, f api.Frame) {
	if !s.recv.open() {
		return
	}
	if to := f.Off + uint64(len(f.Data)); to > s.recv.came {
		m.all.came += to - s.recv.came
		s.recv.came = to
	}
	s.recv.ended = s.recv.ended || f.Fin || f.Kind == api.ResetStream
	if f.Kind == api.ResetStream {
		m.took(s, f.Off-s.recv.read)
		s.recv.reset, s.recv.code = true, f.Code
		return
	}
	for i, b := range f.Data {
		if _, ok := s.recv.has[f.Off+uint64(i)]; !ok {
			s.recv.has[f.Off+uint64(i)] = b
		}
	}
}

// notice returns the frame for what is due, if it is of use.
func (m *model) notice(n told) (api.Frame, bool) {
	s := m.streams[n.id]
	switch n.kind {
	case api.MaxData:
		return limitOf(n.kind, m.all.limit), true
	case api.StreamsBidi:
		return limitOf(n.kind, m.own.Bidi), true
	case api.StreamsUni:
		return limitOf(n.kind, m.own.Uni), true
	case api.MaxStreamData:
		return windowOf(n.id, s.recv.limit), !s.recv.ended
	case api.ResetStream:
		return resetOf(n.id, s.send.code, s.send.sent()), !s.send.arrived
	}
	return stopOf(n.id, s.recv.stop), s.recv.open()
}

// notices returns what is due and of use, in its order.
func (m *model) notices() []api.Frame {
	var l []api.Frame
	for _, kind := range []uint64{api.MaxData, api.MaxStreamData, api.StreamsBidi, api.StreamsUni, api.ResetStream, api.StopSending} {
		for id := range uint64(100) {
			if m.due[told{kind, id}] {
				if f, ok := m.notice(told{kind, id}); ok {
					l = append(l, f)
				}
			}
		}
	}
	return l
}

// best returns the stream that goes first, or nil.
func (m *model) best() *modelStream {
	var best *modelStream
	for _, id := range slices.Sorted(maps.Keys(m.streams)) {
		s := m.streams[id]
		if s.send == nil {
			continue
		}
		if _, _, ok := s.send.next(m.peer.Credit - m.spent); !ok {
			continue
		}
		if best == nil || slices.Compare(s.rank[:], best.rank[:]) < 0 {
			best = s
		}
	}
	return best
}

func (m *model) frames(room int) []api.Frame {
	var l []api.Frame
	for _, f := range m.notices() {
		if n := sizeOf(f); n <= room {
			room -= n
			l = append(l, f)
			delete(m.due, told{f.Kind, f.ID})
		}
	}
	for s := m.best(); s != nil; s = m.best() {
		f, ok := m.piece(s, room)
		if !ok {
			break
		}
		room -= sizeOf(f)
		l = append(l, f)
	}
	m.inFlight += len(l)
	return l
}

// piece sends the longest piece of a stream that has room.
func (m *model) piece(s *modelStream, room int) (api.Frame, bool) {
	off, to, _ := s.send.next(m.peer.Credit - m.spent)
	for end := to; end > off || end == to; end-- {
		f := api.Frame{Kind: api.Stream, ID: s.id, Off: off, Data: s.send.p[off:end], Fin: s.send.ended && end == uint64(len(s.send.p))}
		if p, e := frame.Bytes(f); e == api.OK && len(p) <= room {
			for i := off; i < end; i++ {
				if s.send.marks[i] == unsent {
					m.spent++
				}
			}
			m.set(f, flying)
			return f, true
		}
		if end == 0 {
			break
		}
	}
	return api.Frame{}, false
}

// set marks what a Stream frame has.
func (m *model) set(f api.Frame, to mark) {
	h := m.streams[f.ID].send
	for i := range f.Data {
		h.marks[f.Off+uint64(i)] = to
	}
	if f.Fin && h.end != arrived {
		h.end = to
	}
}

func (m *model) lost(f api.Frame) {
	m.inFlight--
	if f.Kind == api.Stream {
		m.set(f, again)
	} else {
		m.due[told{f.Kind, f.ID}] = true
	}
}

func (m *model) acked(f api.Frame) {
	m.inFlight--
	switch f.Kind {
	case api.Stream:
		m.set(f, arrived)
	case api.ResetStream:
		m.streams[f.ID].send.arrived = true
	}
	m.settle()
}

// state is what is told without a change.
func (m *model) state() string {
	var unread, unacked, streams int
	for _, s := range m.streams {
		if !s.over() {
			streams++
		}
		if s.send != nil {
			unacked += s.send.waiting()
		}
		if s.recv != nil && s.recv.open() {
			unread += len(s.recv.has) - int(s.recv.read)
		}
	}
	idle := m.inFlight == 0 && len(m.notices()) == 0 && m.best() == nil
	return fmt.Sprint(unread, unacked, streams, idle)
}

func stateOf(x *pipe.Table) string {
	unread, unacked := x.Held()
	return fmt.Sprint(unread, unacked, x.Streams(), x.Idle())
}

// pair is a table and a model of it, with which the same is done.
type pair struct {
	*testing.T
	*rand.Rand
	x      *pipe.Table
	m      *model
	flight []api.Frame
}

func newPair(t *testing.T, seed uint64) *pair {
	random := rand.New(rand.NewPCG(7, seed))
	limits := func() pipe.Limits {
		return pipe.Limits{Window: random.Uint64N(20), Credit: random.Uint64N(60), Bidi: random.Uint64N(4), Uni: random.Uint64N(4)}
	}
	server, own, peer := random.IntN(2) == 0, limits(), limits()
	c := &pair{T: t, Rand: random, x: pipe.New(server, own), m: newModel(server, own, peer)}
	c.x.Peer(peer)
	return c
}

func (c *pair) id() uint64 {
	return c.Uint64N(24)
}

// text returns some bytes, mostly few.
func (c *pair) text() []byte {
	p := make([]byte, c.IntN(9))
	if c.IntN(20) == 0 {
		p = make([]byte, c.IntN(waiting+9))
	}
	for i := range p {
		p[i] = byte('a' + c.IntN(26))
	}
	return p
}

// frame returns one that may come.
func (c *pair) frame() api.Frame {
	id, n := c.id(), c.Uint64N(40)
	switch c.IntN(14) {
	case 0:
		return resetOf(id, c.Uint64N(9), n)
	case 1:
		return stopOf(id, c.Uint64N(9))
	case 2:
		return windowOf(id, n)
	case 3:
		return limitOf(api.MaxData, c.Uint64N(300))
	case 4:
		return limitOf(api.StreamsBidi, c.Uint64N(6))
	case 5:
		return limitOf(api.StreamsUni, c.Uint64N(6))
	}
	f := api.Frame{Kind: api.Stream, ID: id, Off: n, Data: c.text(), Fin: c.IntN(6) == 0}
	if s := c.m.streams[id]; s != nil && s.recv != nil && c.IntN(2) == 0 {
		f.Off = s.recv.came - min(s.recv.came, c.Uint64N(3))
	}
	return f
}

func (c *pair) hear() {
	f := c.frame()
	if got, want := c.x.Hear(f), c.m.hear(f); got != want {
		c.Fatalf("Hear(%+v) = %d; want %d", f, got, want)
	}
	c.m.settle()
}

func (c *pair) send() {
	room := c.IntN(40) - 2
	if c.IntN(10) == 0 {
		room = 1 << 20
	}
	c.flight = append(c.flight, checkFramesIn(c.T, c.x, room, c.m.frames(room)...)...)
}

// land makes one of the frames in flight lost or acknowledged.
func (c *pair) land() {
	if len(c.flight) == 0 {
		return
	}
	i := c.IntN(len(c.flight))
	f := c.flight[i]
	c.flight = slices.Delete(c.flight, i, i+1)
	if c.IntN(3) == 0 {
		c.x.Lost(f)
		c.m.lost(f)
	} else {
		c.x.Acked(f)
		c.m.acked(f)
	}
}

// call makes one of the calls that are for one stream.
func (c *pair) call() {
	id, code := c.id(), c.Uint64N(9)
	if c.IntN(9) == 0 {
		code = top + c.Uint64N(2)
	}
	switch n := c.IntN(16); {
	case n == 0:
		checkE(c.T, "Reset", c.x.Reset(id, code), c.m.reset(id, code))
	case n == 1:
		checkE(c.T, "Stop", c.x.Stop(id, code), c.m.stop(id, code))
	case n == 2:
		r := pipe.Rank{c.Uint64N(2), c.Uint64N(2), c.Uint64N(2)}
		want := api.ErrNone
		if s := c.m.streams[id]; s != nil {
			s.rank, want = r, api.OK
		}
		checkE(c.T, "Rank", c.x.Rank(id, r), want)
	case n < 8:
		p, end := c.text(), c.IntN(6) == 0
		checkE(c.T, "Write", c.x.Write(id, p, end), c.m.write(id, p, end))
	default:
		most := c.IntN(40) - 2
		checkRead(c.T, c.x, id, most, c.m.read(id, most))
	}
}

func (c *pair) step() {
	switch n := c.IntN(20); {
	case n == 0:
		uni := c.IntN(2) == 0
		id, e := c.m.open(uni)
		checkOpen(c.T, c.x, uni, id, e)
	case n == 1:
		checkCame(c.T, c.x, c.m.came...)
		c.m.came = nil
	case n < 7:
		c.hear()
	case n < 14:
		c.call()
	case n < 17:
		c.send()
	default:
		c.land()
	}
	if got, want := stateOf(c.x), c.m.state(); got != want {
		c.Fatalf("Held, Streams, Idle: %s; want %s", got, want)
	}
}

// Whatever is done, a table is what its streams are byte by byte.
func TestAgainstModel(t *testing.T) {
	for seed := range uint64(400) {
		t.Run(fmt.Sprint(seed), func(t *testing.T) {
			c := newPair(t, seed)
			for range 500 {
				c.step()
			}
		})
	}
}
