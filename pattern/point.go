package pattern

import (
	"hodoscope/api"
	"hodoscope/condition"
	"hodoscope/detector"
)

// maxCluster is how many samples a cluster may have of which the point is asked for.
const maxCluster = 65536

// Points returns the points of clusters.
func Points(d api.Detector, s api.Snapshot, l []api.Cluster) ([]api.Point, api.Errno) {
	if !isDetector(d) {
		return nil, api.ErrArg
	}
	var points []api.Point
	for _, c := range l {
		if !isCluster(d.Planes, c) {
			return nil, api.ErrArg
		}
		plane := d.Planes[c.Plane]
		if plane.Face == api.Calorimeter {
			continue
		}
		shiftX, shiftY := condition.Value(s, api.CoShiftX, c.Plane, 0), condition.Value(s, api.CoShiftY, c.Plane, 0)
		if !isValue(shiftX) || !isValue(shiftY) {
			return nil, api.ErrArg
		}
		p := pointOf(plane, c)
		p.X += shiftX
		p.Y += shiftY
		points = append(points, p)
	}
	return points, api.OK
}

func isValue(n int) bool {
	return isWithin(n, -api.MaxValue, api.MaxValue)
}

// isCluster reports whether a cluster has a point, or would have one if it were not of the calorimeter.
func isCluster(planes []api.Plane, c api.Cluster) bool {
	if !isWithin(len(c.Samples), 1, maxCluster) {
		return false
	}
	sum := 0
	for _, m := range c.Samples {
		if m.Cell.Plane != c.Plane || !isSample(planes, m) {
			return false
		}
		sum += m.Adc
	}
	return c.Charge == sum
}

// pointOf returns the point of a cluster, without its shifts.
func pointOf(plane api.Plane, c api.Cluster) api.Point {
	var sumX, sumY int
	var cols, rows []int
	for _, m := range c.Samples {
		x, y, _ := detector.Centre(plane, m.Cell.Col, m.Cell.Row)
		sumX += m.Adc * x
		sumY += m.Adc * y
		cols = append(cols, m.Cell.Col)
		rows = append(rows, m.Cell.Row)
	}
	return api.Point{
		Plane: c.Plane,
		X:     quotient(sumX, c.Charge),
		Y:     quotient(sumY, c.Charge),
		VX:    variance(plane.HalfX, cols),
		VY:    variance(plane.HalfY, rows),
	}
}

// quotient returns a divided by b, rounded down; b is above 0.
func quotient(a, b int) int {
	q := a / b
	if a%b < 0 {
		q--
	}
	return q
}

// variance returns that of a coordinate that was measured by cells of these columns, or rows.
func variance(half int, numbers []int) int {
	return max(half*half/(3*len(different(numbers))), 1)
}

// CheckPoints reports whether points are valid for a detector.
func CheckPoints(d api.Detector, l []api.Point) bool {
	if !isDetector(d) || len(l) > api.MaxPoints {
		return false
	}
	for _, p := range l {
		if !isPoint(d.Planes, p) {
			return false
		}
	}
	return true
}

func isPoint(planes []api.Plane, p api.Point) bool {
	if !isWithin(p.Plane, 0, len(planes)-1) || planes[p.Plane].Face == api.Calorimeter {
		return false
	}
	return isPlace(p.X) && isPlace(p.Y) && isWithin(p.VX, 1, api.MaxVariance) && isWithin(p.VY, 1, api.MaxVariance)
}

func isPlace(n int) bool {
	return isWithin(n, -api.MaxPlace, api.MaxPlace)
}
