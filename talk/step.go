package talk

import (
	"slices"

	"colonnade/word"
)

// step is what a message does to a request.
type step struct {
	kind  uint64 // of the request
	asker bool   // whether the side that made the request sends the message, or the one that was asked
	from  []int  // the states of the request in which it may be sent
	to    int    // the state after it
}

// stepOf returns what messages of a kind do to a request, or false if they do nothing to any.
func stepOf(kind uint64) (step, bool) {
	p := step{kind: about(kind)}
	switch kind {
	case word.SubscribeOK, word.AnnounceOK, word.FetchOK:
		p.from, p.to = []int{Waiting}, Granted
	case word.SubscribeError, word.AnnounceError, word.FetchError:
		p.from, p.to = []int{Waiting}, Over
	case word.SubscribeDone:
		p.from, p.to = []int{Granted}, Over
	case word.Unsubscribe, word.FetchCancel:
		p.asker, p.from, p.to = true, []int{Waiting, Granted}, Over
	case word.Unannounce:
		p.asker, p.from, p.to = true, []int{Granted}, Over
	default:
		return step{}, false
	}
	return p, true
}

// about returns the kind of the requests that messages of a kind are about.
func about(kind uint64) uint64 {
	switch kind {
	case word.SubscribeOK, word.SubscribeError, word.SubscribeDone, word.Unsubscribe:
		return word.Subscribe
	case word.AnnounceOK, word.AnnounceError, word.Unannounce:
		return word.Announce
	case word.FetchOK, word.FetchError, word.FetchCancel:
		return word.Fetch
	}
	return 0
}

// target returns the request that m is about, or nil if its side never made it.
func (p step) target(d *side, m word.Msg) *Ask {
	if m.Kind == word.Unannounce {
		return d.announced(m.Name)
	}
	return d.ask(m.ID, p.kind)
}

// suits reports whether the step may be taken with a request.
func (p step) suits(a *Ask) bool {
	return slices.Contains(p.from, a.State)
}
