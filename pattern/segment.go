package pattern

import (
	"hodoscope/api"
	"hodoscope/detector"
)

// perUnit is how many parts make 1, in which slopes and bends are counted.
const perUnit = 1024

// scene is points, as a search looks at those of a face.
type scene struct {
	search api.Search
	planes []api.Plane
	points []api.Point
	face   int
	// places has, by the face's planes, their places in the Stack.
	places [api.MaxPlanes]int
}

// look returns the scene of a face, if all of it is valid.
func look(d api.Detector, q api.Search, l []api.Point, face int) (*scene, api.Errno) {
	if !CheckPoints(d, l) || !CheckSearch(q) {
		return nil, api.ErrArg
	}
	if !isWithin(face, 0, api.Faces-1) {
		return nil, api.ErrNone
	}
	return newScene(d, q, l, face), api.OK
}

func newScene(d api.Detector, q api.Search, l []api.Point, face int) *scene {
	s := &scene{search: q, planes: d.Planes, points: l, face: face}
	for place, plane := range detector.Stack(d, face) {
		s.places[plane] = place
	}
	return s
}

// Segments returns the segments of a face.
func Segments(d api.Detector, q api.Search, l []api.Point, face int) ([]api.Segment, api.Errno) {
	s, e := look(d, q, l, face)
	if e != api.OK {
		return nil, e
	}
	return s.segments()
}

func (s *scene) segments() ([]api.Segment, api.Errno) {
	var l []api.Segment
	for a := range s.points {
		for b := range s.points {
			if s.isSegment(a, b) {
				l = append(l, api.Segment{A: a, B: b})
			}
		}
	}
	if len(l) > api.MaxSegments {
		return nil, api.ErrLong
	}
	return l, api.OK
}

// isSegment reports whether two points (their indices) make a segment of the face.
func (s *scene) isSegment(a, b int) bool {
	from, to := s.points[a], s.points[b]
	if s.planes[from.Plane].Face != s.face || s.planes[to.Plane].Face != s.face {
		return false
	}
	if !isWithin(s.places[to.Plane]-s.places[from.Plane], 1, s.search.Skip+1) {
		return false
	}
	reach := s.search.Slope * (s.planes[to.Plane].Depth - s.planes[from.Plane].Depth)
	return isWithin((to.X-from.X)*perUnit, -reach, reach) && isWithin((to.Y-from.Y)*perUnit, -reach, reach)
}

// bends returns the bends of three points (their indices) of the face.
func (s *scene) bends(a, b, c int) (x, y int) {
	return bends(s.planes, s.points[a], s.points[b], s.points[c])
}

// isInside reports whether the segment of a and b is inside of that of b and c.
func (s *scene) isInside(a, b, c int) bool {
	x, y := s.bends(a, b, c)
	return x <= s.search.Kink && y <= s.search.Kink
}

// Bends returns the bends of three points.
func Bends(d api.Detector, a, b, c api.Point) (x, y int, ok bool) {
	if !CheckPoints(d, []api.Point{a, b, c}) || !isBefore(d.Planes, a, b) || !isBefore(d.Planes, b, c) {
		return 0, 0, false
	}
	x, y = bends(d.Planes, a, b, c)
	return x, y, true
}

// isBefore reports whether two points are of one face, the first one at a lesser depth.
func isBefore(planes []api.Plane, a, b api.Point) bool {
	from, to := planes[a.Plane], planes[b.Plane]
	return from.Face == to.Face && from.Depth < to.Depth
}

func bends(planes []api.Plane, a, b, c api.Point) (x, y int) {
	u := planes[b.Plane].Depth - planes[a.Plane].Depth
	v := planes[c.Plane].Depth - planes[b.Plane].Depth
	bend := func(a, b, c int) int {
		n := (c-b)*u - (b-a)*v
		return max(n, -n) * perUnit / (u * v)
	}
	return bend(a.X, b.X, c.X), bend(a.Y, b.Y, c.Y)
}

// Inside reports whether a segment is inside of another one.
func Inside(d api.Detector, q api.Search, l []api.Point, s, t api.Segment) bool {
	if !CheckPoints(d, l) || !CheckSearch(q) || s.B != t.A {
		return false
	}
	for _, i := range []int{s.A, s.B, t.B} {
		if !isWithin(i, 0, len(l)-1) {
			return false
		}
	}
	// Segments that have a point in common are of one face.
	of := newScene(d, q, l, d.Planes[l[s.B].Plane].Face)
	return of.isSegment(s.A, s.B) && of.isSegment(t.A, t.B) && of.isInside(s.A, s.B, t.B)
}
