package plane

// backwards returns a new list in the opposite order.
func backwards[T any](l []T) []T {
	out := make([]T, 0, len(l))
	for i := len(l) - 1; i >= 0; i-- {
		out = append(out, l[i])
	}
	return out
}

// startingAt returns a new list that is turned so that it begins with the item at an index.
func startingAt[T any](l []T, first int) []T {
	out := make([]T, 0, len(l))
	out = append(out, l[first:]...)
	return append(out, l[:first]...)
}
