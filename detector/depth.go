package detector

import (
	"cmp"
	"slices"

	"hodoscope/api"
)

// Stack returns the planes of a face by rising depths.
func Stack(d api.Detector, face int) []int {
	if !isValid(d) || !isFace(face) {
		return nil
	}
	return stack(d.Planes, face)
}

func stack(planes []api.Plane, face int) []int {
	var l []int
	for i, p := range planes {
		if p.Face == face {
			l = append(l, i)
		}
	}
	slices.SortFunc(l, func(i, j int) int { return cmp.Compare(planes[i].Depth, planes[j].Depth) })
	return l
}

// Thickness returns how much material lies between two depths.
func Thickness(d api.Detector, face, from, to int) int {
	if !isValid(d) || !isFace(face) {
		return 0
	}
	sum := 0
	for _, p := range d.Planes {
		if p.Face == face && p.Depth >= from && p.Depth < to {
			sum += p.Thick
		}
	}
	return sum
}

// Field returns the field at a depth.
func Field(d api.Detector, face, depth int) int {
	if !isValid(d) {
		return 0
	}
	return total(d.Field, face, depth, func(s api.Slab, depth int) int {
		if depth < s.From || depth >= s.To {
			return 0
		}
		return s.B
	})
}

// Integral returns the integral of the field up to a depth.
func Integral(d api.Detector, face, depth int) int {
	if !isValid(d) {
		return 0
	}
	return total(d.Field, face, depth, func(s api.Slab, depth int) int {
		return s.B * max(min(s.To, depth)-s.From, 0)
	})
}

// Bend returns twice the double integral of the field up to a depth.
func Bend(d api.Detector, face, depth int) int {
	if !isValid(d) {
		return 0
	}
	return bend(d.Field, face, depth)
}

func bend(slabs []api.Slab, face, depth int) int {
	return total(slabs, face, depth, func(s api.Slab, depth int) int {
		if s.From >= depth {
			return 0
		}
		whole, beyond := depth-s.From, depth-min(s.To, depth)
		return s.B * (whole*whole - beyond*beyond)
	})
}

// total returns the sum of what the slabs of a face give at a depth, which is brought into the range of depths.
func total(slabs []api.Slab, face, depth int, give func(s api.Slab, depth int) int) int {
	depth = min(max(depth, 0), api.MaxDepth)
	sum := 0
	for _, s := range slabs {
		if s.Face == face {
			sum += give(s, depth)
		}
	}
	return sum
}
