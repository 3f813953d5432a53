package credit

import "colonnade/api"

// Till is the receiver's credit.
type Till struct {
	window uint64
	limit  uint64 // the one that was announced
	came   uint64
	read   uint64
}

// NewTill returns a till with that window, where nothing came.
func NewTill(window uint64) *Till {
	window = bounded(window)
	return &Till{window: window, limit: window}
}

// Came raises the amount received to high if it is less.
func (t *Till) Came(high uint64) api.Errno {
	if t == nil {
		return api.ErrNone
	}
	if high > t.limit {
		return api.ErrCredit
	}
	t.came = max(t.came, high)
	return api.OK
}

// Took adds n to the amount read.
func (t *Till) Took(n uint64) api.Errno {
	if t == nil || n > t.came-t.read {
		return api.ErrNone
	}
	t.read += n
	return api.OK
}

// News returns a new limit, which is announced thereby, or false if it is too early for one.
func (t *Till) News() (uint64, bool) {
	if t == nil {
		return 0, false
	}
	// With half a window left the sender need not wait, and a frame for every few bytes would be a waste.
	if t.limit-t.read >= max(t.window/2, 1) {
		return 0, false
	}
	limit := bounded(t.read + t.window)
	if limit <= t.limit {
		return 0, false
	}
	t.limit = limit
	return limit, true
}

// Told returns the limit, the amount received and the amount read.
func (t *Till) Told() (uint64, uint64, uint64) {
	if t == nil {
		return 0, 0, 0
	}
	return t.limit, t.came, t.read
}
