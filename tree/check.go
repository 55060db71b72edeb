package tree

import (
	"slices"

	"cattlegrid/api"
	"cattlegrid/image"
)

// Check tells the first type that isn't well, and why.
func Check(g api.Image) (int, api.Errno) {
	if !image.Formed(g) {
		return 0, api.ErrArg
	}
	for t := range g.Types {
		if e := wrongWith(g, t); e != api.OK {
			return t, e
		}
	}
	return 0, api.OK
}

// wrongWith tells of the chapter's points the first that isn't so of t, by its error.
func wrongWith(g api.Image, t int) api.Errno {
	switch {
	case !isOfItsKind(g, t), !extendsWell(g, t), !hasFacesWell(g, t):
		return api.ErrTree
	case !isNamedWell(g, t):
		return api.ErrName
	case !holdsWell(g, t):
		return api.ErrSize
	}
	return api.OK
}

// isOfItsKind tells whether t's flags go together, and it extends nothing unless it is a class.
func isOfItsKind(g api.Image, t int) bool {
	// The flags that are asked for, and of these those that are to be there.
	var asked, wanted int
	switch Kind(g, t) {
	case class:
		return true
	case face:
		asked, wanted = api.FAbstract|api.FValue|api.FSealed|api.FDelegate, api.FAbstract
	case value:
		asked, wanted = api.FSealed|api.FAbstract|api.FDelegate, api.FSealed
	case delegate:
		asked, wanted = api.FSealed|api.FAbstract, api.FSealed
	}
	d := g.Types[t]
	return d.Flags&asked == wanted && d.Extends == noType
}

// extendsWell tells whether what t extends, if anything, is a class that may be extended, and going up ends.
func extendsWell(g api.Image, t int) bool {
	if base := g.Types[t].Extends; base != noType && !isOpenClass(g, base) {
		return false
	}
	up := Up(g, t)
	// Up stops ahead of a type that it has told: the last one then extends that.
	return g.Types[up[len(up)-1]].Extends == noType
}

func isOpenClass(g api.Image, t int) bool {
	return Kind(g, t) == class && g.Types[t].Flags&api.FSealed == 0
}

// hasFacesWell tells whether t's faces are interfaces, each once, and t, as an interface, isn't one of its own.
func hasFacesWell(g api.Image, t int) bool {
	faces := g.Types[t].Faces
	if slices.ContainsFunc(faces, func(f int) bool { return Kind(g, f) != face }) {
		return false
	}
	if !differ(faces, func(a, b int) bool { return a != b }) {
		return false
	}
	return Kind(g, t) != face || !comesBack(g, t, byFaces(g))
}

// isNamedWell tells whether t's name is no other type's, and what it has can be told apart by names and signatures.
func isNamedWell(g api.Image, t int) bool {
	name := g.Types[t].Name
	for other, d := range g.Types {
		if other != t && d.Name == name {
			return false
		}
	}
	return differ(Fields(g, t), func(a, b int) bool { return g.Fields[a].Name != g.Fields[b].Name }) &&
		differ(Methods(g, t), func(a, b int) bool { return !isSame(g.Methods[a], g.Methods[b]) })
}

// isSame tells whether two methods have one name and the same signature.
func isSame(a, b api.Method) bool {
	return a.Name == b.Name && slices.Equal(a.Params, b.Params) && a.Ret == b.Ret &&
		a.Flags&api.MStatic == b.Flags&api.MStatic
}

// holdsWell tells whether t has only such fields as its kind may have, and, as a value type, holds no value of its own type.
func holdsWell(g api.Image, t int) bool {
	fields := Fields(g, t)
	switch Kind(g, t) {
	case face:
		return !slices.ContainsFunc(fields, func(f int) bool { return !g.Fields[f].Static })
	case delegate:
		return len(fields) == 0
	case value:
		return !comesBack(g, t, byValues(g))
	}
	return true
}

// differ tells whether each two of the numbers are told apart.
func differ(l []int, apart func(a, b int) bool) bool {
	for i, a := range l {
		if slices.ContainsFunc(l[:i], func(b int) bool { return !apart(a, b) }) {
			return false
		}
	}
	return true
}
