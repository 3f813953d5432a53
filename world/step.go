package world

import (
	"colonnade/api"
	"colonnade/word"
)

const (
	mostTicks = 1000
	mostGram  = 900
)

// takes reports whether a step is one.
func (w *World) takes(s Step) bool {
	return w.end(s.Who) != nil && s.Kind <= Withdraw && s.N >= 0 && !isTooLong(s.Object) && !(s.Kind == Publish && isNowhere(s.Object))
}

func isTooLong(o api.Object) bool {
	if o.Gram {
		return len(o.Data) > mostGram
	}
	return len(o.Data) > api.MaxObject
}

// isNowhere reports whether an object can't be sent, as its place has no encoding.
func isNowhere(o api.Object) bool {
	return o.Group > api.MaxNum || o.Object > api.MaxNum
}

// perform does what a step says.
func (w *World) perform(s Step) api.Errno {
	x := w.ends[s.Who]
	switch s.Kind {
	case Announce:
		return x.say(word.Msg{Kind: word.Announce, Name: s.Track})
	case Withdraw:
		return x.say(word.Msg{Kind: word.Unannounce, Name: s.Track})
	case Subscribe:
		return x.subscribe(s.Track, s.Msg)
	case Fetch:
		return x.fetch(s.Track, s.Msg)
	case Unsubscribe:
		return x.unsubscribe(s.Msg.ID)
	case Publish:
		return x.publish(s.Track, s.Object)
	case Tick:
		w.wait(uint64(min(max(s.N, 1), mostTicks)))
		return api.OK
	case Break:
		w.ports[s.N%(len(w.ports)/2)*2].shut()
		return api.OK
	}
	return w.handle(s)
}
