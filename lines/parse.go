package lines

import (
	"strings"

	"mapmaker/api"
)

// parseChange returns the change whose line is s, and true.
func parseChange(s string) (api.Change, bool) {
	if object, ok := strings.CutPrefix(s, "+"); ok {
		return parseObject(object)
	}
	reference, ok := strings.CutPrefix(s, "-")
	kind, word, found := strings.Cut(reference, " ")
	id, number := Number(word)
	if !ok || !found || !number {
		return api.Change{}, false
	}
	c := api.Change{Op: api.OpDelete}
	switch kind {
	case nodeWord:
		c.Kind, c.Node.ID = api.KNode, id
	case wayWord:
		c.Kind, c.Way.ID = api.KWay, id
	case relWord:
		c.Kind, c.Rel.ID = api.KRel, id
	default:
		return api.Change{}, false
	}
	return c, true
}

// parseObject returns the change that puts the object whose line is s, and true.
func parseObject(s string) (api.Change, bool) {
	words := strings.Split(s, " ")
	c := api.Change{Op: api.OpPut}
	ok := false
	switch words[0] {
	case nodeWord:
		c.Kind = api.KNode
		c.Node, ok = parseNode(words)
	case wayWord:
		c.Kind = api.KWay
		c.Way, ok = parseWay(words)
	case relWord:
		c.Kind = api.KRel
		c.Rel, ok = parseRel(words)
	}
	if !ok {
		return api.Change{}, false
	}
	return c, true
}

func parseNode(words []string) (api.Node, bool) {
	if len(words) < 4 {
		return api.Node{}, false
	}
	id, okID := Number(words[1])
	lon, okLon := Number(words[2])
	lat, okLat := Number(words[3])
	tags, ok := parseAll(words[4:], parseTag)
	return api.Node{ID: id, At: api.Coord{Lon: lon, Lat: lat}, Tags: tags}, okID && okLon && okLat && ok
}

func parseWay(words []string) (api.Way, bool) {
	if len(words) < 3 {
		return api.Way{}, false
	}
	id, okID := Number(words[1])
	nodes, okNodes := parseAll(entries(words[2]), Number)
	tags, ok := parseAll(words[3:], parseTag)
	return api.Way{ID: id, Nodes: nodes, Tags: tags}, okID && okNodes && ok
}

func parseRel(words []string) (api.Rel, bool) {
	if len(words) < 3 {
		return api.Rel{}, false
	}
	id, okID := Number(words[1])
	members, okMembers := parseAll(entries(words[2]), parseMember)
	tags, ok := parseAll(words[3:], parseTag)
	return api.Rel{ID: id, Members: members, Tags: tags}, okID && okMembers && ok
}

func parseTag(word string) (api.Tag, bool) {
	left, right, found := strings.Cut(word, "=")
	key, okKey := unlabel(left)
	val, okVal := Unword(right)
	return api.Tag{Key: key, Val: val}, found && okKey && okVal
}

func parseMember(entry string) (api.Member, bool) {
	left, right, found := strings.Cut(entry, ":")
	kind := api.KNode
	number, ok := strings.CutPrefix(left, "n")
	if !ok {
		kind = api.KWay
		number, ok = strings.CutPrefix(left, "w")
	}
	id, okID := Number(number)
	role, okRole := unlabel(right)
	return api.Member{Ref: api.Ref{Kind: kind, ID: id}, Role: role}, found && ok && okID && okRole
}

// entries returns the entries of a list that are separated by commas.
func entries(word string) []string {
	if word == nothing {
		return nil
	}
	return strings.Split(word, ",")
}

// parseAll returns what parse reads from the words, and whether it could read all of them.
func parseAll[T any](words []string, parse func(word string) (T, bool)) ([]T, bool) {
	var out []T
	for _, word := range words {
		x, ok := parse(word)
		if !ok {
			return nil, false
		}
		out = append(out, x)
	}
	return out, true
}
