package detector

import "hodoscope/api"

// A frame says for D, U and V of a face which global axis each is, and with which sign.
type frame struct{ axis, sign [3]int }

var frames = [api.Faces]frame{
	{axis: [3]int{0, 1, 2}, sign: [3]int{1, 1, 1}},
	{axis: [3]int{1, 0, 2}, sign: [3]int{1, -1, 1}},
	{axis: [3]int{0, 1, 2}, sign: [3]int{-1, -1, 1}},
	{axis: [3]int{1, 0, 2}, sign: [3]int{-1, 1, 1}},
	{axis: [3]int{2, 0, 1}, sign: [3]int{1, 1, 1}},
	{axis: [3]int{2, 1, 0}, sign: [3]int{-1, 1, 1}},
}

// Axes returns the frame of a face.
func Axes(face int) (axis, sign [3]int, e api.Errno) {
	if !isFace(face) {
		return [3]int{}, [3]int{}, api.ErrNone
	}
	return frames[face].axis, frames[face].sign, api.OK
}

// Global converts a place from the frame of a face.
func Global(face int, p [3]int) ([3]int, api.Errno) {
	if e := checkPlace(face, p); e != api.OK {
		return [3]int{}, e
	}
	var g [3]int
	for i, axis := range frames[face].axis {
		g[axis] = frames[face].sign[i] * p[i]
	}
	return g, api.OK
}

// Local converts a place to the frame of a face.
func Local(face int, g [3]int) ([3]int, api.Errno) {
	if e := checkPlace(face, g); e != api.OK {
		return [3]int{}, e
	}
	var p [3]int
	for i, axis := range frames[face].axis {
		p[i] = frames[face].sign[i] * g[axis]
	}
	return p, api.OK
}

func checkPlace(face int, place [3]int) api.Errno {
	if !isFace(face) {
		return api.ErrNone
	}
	for _, n := range place {
		if !isReach(n) {
			return api.ErrRange
		}
	}
	return api.OK
}

func isReach(n int) bool {
	return isWithin(n, -api.MaxReach, api.MaxReach)
}
