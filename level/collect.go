package level

import (
	"slices"

	"mapmaker/api"
	"mapmaker/areas"
	"mapmaker/classify"
	"mapmaker/generalize"
	"mapmaker/mesh"
	"mapmaker/normal"
	"mapmaker/simplify"
)

// collected is a level that is being put together from the lists of its themes.
type collected struct {
	settlements
	courses
	surfaces
}

// settlements lists the places, all of which have the theme Settle.
type settlements struct{ places []api.Place }

// courses lists the lines, which have the themes Road and Border.
type courses struct{ lines []api.Line }

// surfaces lists the areas, which have any other theme or Border.
type surfaces struct{ areas []api.Area }

func (s *settlements) selectPlaces(d api.Data, appears func(l []api.Tag) bool) {
	for _, p := range normal.Places(d) {
		if appears(p.Tags) {
			s.places = append(s.places, p)
		}
	}
}

func (c *courses) selectLines(d api.Data, appears func(l []api.Tag) bool) {
	for _, x := range normal.Lines(d) {
		if theme := classify.Theme(x.Tags); theme != api.Road && theme != api.Border {
			continue
		}
		if !classify.IsArea(x.Tags) && appears(x.Tags) {
			c.lines = append(c.lines, x)
		}
	}
}

func (s *surfaces) selectAreas(d api.Data, appears func(l []api.Tag) bool) {
	all, _ := areas.All(d)
	planar, _ := areas.Planar(all)
	for _, a := range planar {
		if appears(a.Tags) {
			s.areas = append(s.areas, a)
		}
	}
}

func (c *courses) thinLines(limit int) {
	c.lines = generalize.Lines(c.lines, limit)
}

// thinAreas simplifies the areas of each theme together, so that those that touch keep their common sides. Areas of different themes may cross.
func (s *surfaces) thinAreas(limit int) api.Errno {
	members := map[int][]int{} // by theme: the positions of its areas
	for i, a := range s.areas {
		members[a.Theme] = append(members[a.Theme], i)
	}
	for theme := api.Water; theme <= api.Settle; theme++ {
		if err := s.thinTogether(members[theme], limit); err != api.OK {
			return err
		}
	}
	return api.OK
}

// thinTogether gives the areas at these positions the rings of their simplified mesh.
func (s *surfaces) thinTogether(positions []int, limit int) api.Errno {
	var own []api.Area
	for _, i := range positions {
		own = append(own, s.areas[i])
	}
	m, err := mesh.OfAreas(own)
	if err != api.OK {
		return err
	}
	for area, edges := range boundaries(simplify.Mesh(m, limit), len(own)) {
		s.areas[positions[area]].Rings = mesh.Rings(edges, area)
	}
	return api.OK
}

// boundaries returns, for each of n areas, the edges of the mesh that have it on one side only, which are all that its rings depend on.
func boundaries(m []api.Edge, n int) [][]api.Edge {
	out := make([][]api.Edge, n)
	for _, e := range m {
		bound := func(side, other []int) {
			for _, area := range side {
				if _, both := slices.BinarySearch(other, area); !both {
					out[area] = append(out[area], e)
				}
			}
		}
		bound(e.Left, e.Right)
		bound(e.Right, e.Left)
	}
	return out
}
