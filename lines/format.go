package lines

import (
	"slices"
	"strconv"
	"strings"

	"mapmaker/api"
	"mapmaker/change"
)

// The first words of the lines of objects.
const (
	nodeWord = "node"
	wayWord  = "way"
	relWord  = "rel"
)

func nodeLine(n api.Node) string {
	return objectLine(n.Tags, nodeWord, strconv.Itoa(n.ID), strconv.Itoa(n.At.Lon), strconv.Itoa(n.At.Lat))
}

func wayLine(w api.Way) string {
	var nodes []string
	for _, id := range w.Nodes {
		nodes = append(nodes, strconv.Itoa(id))
	}
	return objectLine(w.Tags, wayWord, strconv.Itoa(w.ID), list(nodes))
}

func relLine(r api.Rel) string {
	var members []string
	for _, m := range r.Members {
		letter := "n"
		if m.Ref.Kind == api.KWay {
			letter = "w"
		}
		members = append(members, letter+strconv.Itoa(m.Ref.ID)+":"+label(m.Role))
	}
	return objectLine(r.Tags, relWord, strconv.Itoa(r.ID), list(members))
}

// objectLine returns the line of an object with these first words.
func objectLine(tags []api.Tag, first ...string) string {
	words := slices.Clone(first)
	for _, t := range tags {
		words = append(words, label(t.Key)+"="+Word(t.Val))
	}
	return join(words...)
}

// list returns the entries separated by commas.
func list(entries []string) string {
	if len(entries) == 0 {
		return nothing
	}
	return strings.Join(entries, ",")
}

// changeLine returns the line of a change that has one.
func changeLine(c api.Change) string {
	if c.Op == api.OpDelete {
		return "-" + join(kindWord(c.Kind), strconv.Itoa(change.Ref(c).ID))
	}
	switch c.Kind {
	case api.KNode:
		return "+" + nodeLine(c.Node)
	case api.KWay:
		return "+" + wayLine(c.Way)
	}
	return "+" + relLine(c.Rel)
}

func kindWord(kind int) string {
	switch kind {
	case api.KNode:
		return nodeWord
	case api.KWay:
		return wayWord
	}
	return relWord
}
