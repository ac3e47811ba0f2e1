package pattern

import (
	"iter"

	"hodoscope/api"
	"hodoscope/condition"
	"hodoscope/detector"
)

// directions are those from a cell to its neighbours with lesser keys: of the column, and of the row. From the other neighbours, these lead back to the cell.
var directions = [2][2]int{{-1, 0}, {0, -1}}

// Alive returns the samples of cells that are not dead.
func Alive(s api.Snapshot, l []api.Sample) []api.Sample {
	var alive []api.Sample
	for _, m := range l {
		key, isKey := detector.Key(m.Cell)
		if !isKey || condition.Value(s, api.CoDead, key, 0) == 0 {
			alive = append(alive, m)
		}
	}
	return alive
}

// Clusters returns the clusters of samples.
func Clusters(d api.Detector, l []api.Sample) ([]api.Cluster, api.Errno) {
	if !areSamples(d, l) {
		return nil, api.ErrArg
	}
	var clusters []api.Cluster
	// The keys rise, so the clusters and their samples are in their order as they are found.
	for _, members := range groups(len(l), neighbours(l)) {
		c := api.Cluster{Plane: l[members[0]].Cell.Plane}
		for _, i := range members {
			c.Charge += l[i].Adc
			c.Samples = append(c.Samples, l[i])
		}
		clusters = append(clusters, c)
	}
	return clusters, api.OK
}

// neighbours yields the pairs of samples whose cells are neighbours, each pair once. The keys of the samples rise.
func neighbours(l []api.Sample) iter.Seq2[int, int] {
	return func(yield func(int, int) bool) {
		earlier := make(map[api.Cell]int, len(l))
		for i, m := range l {
			for _, step := range directions {
				cell := api.Cell{Plane: m.Cell.Plane, Col: m.Cell.Col + step[0], Row: m.Cell.Row + step[1]}
				if j, isThere := earlier[cell]; isThere && !yield(j, i) {
					return
				}
			}
			earlier[m.Cell] = i
		}
	}
}

// areSamples reports whether samples are valid for a detector.
func areSamples(d api.Detector, l []api.Sample) bool {
	if !isDetector(d) {
		return false
	}
	before := -1
	for _, m := range l {
		key, isKey := detector.Key(m.Cell)
		if !isKey || key <= before || !isSample(d.Planes, m) {
			return false
		}
		before = key
	}
	return true
}

// isSample reports whether a sample is one of a cell of its plane, and was measured.
func isSample(planes []api.Plane, m api.Sample) bool {
	c := m.Cell
	if !isWithin(c.Plane, 0, len(planes)-1) {
		return false
	}
	p := planes[c.Plane]
	return isWithin(c.Col, 0, p.Cols-1) && isWithin(c.Row, 0, p.Rows-1) && isWithin(m.Adc, 1, api.MaxAdc)
}
