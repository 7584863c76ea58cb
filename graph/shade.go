package graph

import "scupper/api"

// shade is what some patches of one sector cover, so that whether another meets one of them is told at once, however many they are.
type shade struct {
	bytes uint64 // a bit for each byte of the sector
	kinds uint64 // a bit for each kind
}

// with is the shade of p, too.
func (s shade) with(p api.Patch) shade {
	return shade{bytes: s.bytes | bytesOf(p), kinds: s.kinds | kindOf(p)}
}

// meets is whether p, of the same sector, meets one of those whose shade it is.
func (s shade) meets(p api.Patch) bool {
	return s.bytes&bytesOf(p) != 0 || s.kinds&^kindOf(p) != 0
}

// bytesOf is the bits of the bytes that p changes.
func bytesOf(p api.Patch) uint64 {
	// Of 64 bytes the shift leaves 0, and one less than that is all bits.
	return (uint64(1)<<len(p.Data) - 1) << p.Off
}

// kindOf is the bit of p's kind.
func kindOf(p api.Patch) uint64 {
	return uint64(1) << p.Kind
}
