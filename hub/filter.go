package hub

// filter returns the elements of l to be kept, in a list of its own: who ranges over l may replace it by the result.
func filter[T any](l []T, keep func(T) bool) []T {
	var kept []T
	for _, x := range l {
		if keep(x) {
			kept = append(kept, x)
		}
	}
	return kept
}
