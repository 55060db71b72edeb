package slots

import (
	"slices"

	"cattlegrid/api"
)

// table is the slots of a class: of each the method that stands there.
type table struct {
	g       api.Image
	methods []int
}

// class is a class whose slots are put together: it begins with the table of what it extends, and each method of its own changes that.
type class struct {
	table
}

// tableOf is the slots of a class; none of what a class extends that extends nothing.
func tableOf(g api.Image, t int) table {
	if t == none {
		return table{g: g}
	}
	c := class{tableOf(g, g.Types[t].Extends)}
	for _, m := range virtuals(g, t) {
		c.put(m)
	}
	return c.table
}

// put gives one of the class's own methods its slot.
func (c *class) put(m int) {
	if at := c.placeFor(m); at != none {
		c.methods[at] = m
		return
	}
	c.methods = append(c.methods, m)
}

// placeFor is the slot that a method takes of those that are there; none, if it wants one of its own.
func (c *class) placeFor(m int) int {
	if has(c.g.Methods[m], api.MNew) {
		return none
	}
	return c.firstAlike(m)
}

// firstAlike is the first slot whose method m is alike.
func (x table) firstAlike(m int) int {
	return slices.IndexFunc(x.methods, func(k int) bool { return Alike(x.g.Methods[k], x.g.Methods[m]) })
}

// slotOf is the slot in which a method stands.
func (x table) slotOf(m int) int {
	return slices.Index(x.methods, m)
}
