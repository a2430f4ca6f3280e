// Package roof is layer 1: it has the shape of a roof: faces that fall to one of four sides, with outlines of whole numbers in plan. It tells heights, the kinds of edges, where a point is, and where water goes that runs down a face. See shared/doc/01-roof.md.
package roof

import (
	"thatch/api"
	"thatch/words"
)

// Check returns the first error of a roof, or OK: the roof may be.
func Check(r api.Roof) api.Errno {
	if len(r.Faces) > api.MaxFaces {
		return api.ErrLimit
	}
	for i, f := range r.Faces {
		if e := checkFace(f, r.Faces[:i]); e != api.OK {
			return e
		}
	}
	if len(r.Opens) > api.MaxOpens {
		return api.ErrLimit
	}
	for i, o := range r.Opens {
		if e := checkOpen(o, r.Opens[:i], r.Faces); e != api.OK {
			return e
		}
	}
	return checkTogether(r.Faces)
}

// Edges returns all edges: face by face, each face's by their numbers.
func Edges(r api.Roof) ([]api.Edge, api.Errno) {
	if e := Check(r); e != api.OK {
		return nil, e
	}
	return edgesOf(r), api.OK
}

// Height returns the height of a face above a point, which need not be on it.
func Height(r api.Roof, face int, p api.At) (api.Ratio, api.Errno) {
	if e := Check(r); e != api.OK {
		return api.Ratio{}, e
	}
	if !hasFace(r, face) {
		return api.Ratio{}, api.ErrNone
	}
	if !inPlan(p) {
		return api.Ratio{}, api.ErrArg
	}
	return heightAt(r.Faces[face], p), api.OK
}

// Where returns the faces that a point is on, and the opening that it is in, -1 if there is none.
func Where(r api.Roof, p api.At) (faces []int, open int, e api.Errno) {
	if e := Check(r); e != api.OK {
		return nil, 0, e
	}
	if !inPlan(p) {
		return nil, 0, api.ErrArg
	}
	for i, f := range r.Faces {
		if isOn(f.Corners, p) {
			faces = append(faces, i)
		}
	}
	return faces, openAt(r.Opens, p), api.OK
}

// Areas returns, for each face, twice the area of its outline in plan less twice the areas of its openings.
func Areas(r api.Roof) ([]int, api.Errno) {
	if e := Check(r); e != api.OK {
		return nil, e
	}
	areas := make([]int, len(r.Faces))
	for i, f := range r.Faces {
		areas[i] = twiceArea(f.Corners)
	}
	for _, o := range r.Opens {
		areas[o.Face] -= 2 * (o.High.X - o.Low.X) * (o.High.Y - o.Low.Y)
	}
	return areas, api.OK
}

// Lay returns the outline and the openings of a face in its own measure.
func Lay(r api.Roof, face int) (api.Area, api.Errno) {
	if e := Check(r); e != api.OK {
		return api.Area{}, e
	}
	if !hasFace(r, face) {
		return api.Area{}, api.ErrNone
	}
	return layFace(r, face)
}

// Ways returns the ways of water: where it goes at each edge to which it comes.
func Ways(r api.Roof) ([]api.Way, api.Errno) {
	if e := Check(r); e != api.OK {
		return nil, e
	}
	return waysOf(r), api.OK
}

// Stands returns the faces whose water may come to stand.
func Stands(r api.Roof) ([]int, api.Errno) {
	if e := Check(r); e != api.OK {
		return nil, e
	}
	water := survey(r)
	var faces []int
	for i := range r.Faces {
		if water.stands(i) {
			faces = append(faces, i)
		}
	}
	return faces, api.OK
}

// Print returns the text of a roof.
func Print(r api.Roof) (string, api.Errno) { return words.Print(r, Check, write) }

// Parse returns the roof of a text, or the number of the first line that is wrong, 0 if the error is none of a line.
func Parse(text string) (r api.Roof, line int, e api.Errno) {
	return words.Parse(text, read, Check)
}

func hasFace(r api.Roof, face int) bool { return face >= 0 && face < len(r.Faces) }
