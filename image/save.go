package image

import (
	"slices"

	"cattlegrid/api"
	"cattlegrid/body"
	"cattlegrid/code"
	"cattlegrid/pool"
	"cattlegrid/rows"
	"cattlegrid/sigs"
	"cattlegrid/streams"
)

// What the place of a body that isn't small is a multiple of, and how long the code of a small one isn't any more.
const (
	stride   = 4
	smallEnd = 64
)

// Save is the bytes of g, told the plain way. Of a formed image the layers below tell no error but ErrFull, so the other ones aren't asked for.
func Save(g api.Image) ([]byte, api.Errno) {
	if !Formed(g) {
		return nil, api.ErrArg
	}
	s := saver{image: g, specs: newTold[api.Type](), locals: newTold[string]()}
	for _, m := range g.Methods {
		s.putMethod(m)
	}
	names, namePlaces, e := pool.Names(namesOf(g))
	if e != api.OK {
		return nil, e
	}
	blobs, blobPlaces, e := pool.Blobs(s.blobs())
	if e != api.OK {
		return nil, e
	}
	s.namesAt, s.blobsAt = queue{namePlaces}, queue{blobPlaces}
	stream, _ := rows.Write(s.tables())
	return streams.Join(api.Streams{Rows: stream, Names: names, Blobs: blobs, Code: s.code})
}

// told are things of one kind that are told once: each has a row, from 1 on, in the order in which they come first.
type told[T comparable] struct {
	list []T
	rows map[T]int
}

func newTold[T comparable]() *told[T] {
	return &told[T]{rows: map[T]int{}}
}

// row is the row of x, which gets the next one if it has none.
func (l *told[T]) row(x T) int {
	if row, ok := l.rows[x]; ok {
		return row
	}
	l.list = append(l.list, x)
	l.rows[x] = len(l.list)
	return len(l.list)
}

// queue is places that are asked for in the order in which what stands there was put.
type queue struct {
	places []int
}

func (q *queue) next() int {
	at := q.places[0]
	q.places = q.places[1:]
	return at
}

// saver is an image that is being saved: what its methods ask for (locals as their bytes), their bodies, and of each method its columns of the place and of the locals; and the places of names and blobs.
type saver struct {
	image             api.Image
	specs             *told[api.Type]
	locals            *told[string]
	code              []byte
	bodyAt, localsRow []int
	namesAt, blobsAt  queue
}

// putMethod puts what m has beside its row.
func (s *saver) putMethod(m api.Method) {
	s.localsRow = append(s.localsRow, s.rowOfLocals(m.Locals))
	if len(m.Code) == 0 {
		s.bodyAt = append(s.bodyAt, 0)
		return
	}
	x := s.bodyOf(m)
	for !isSmall(x) && len(s.code)%stride != 0 {
		s.code = append(s.code, 0)
	}
	s.bodyAt = append(s.bodyAt, len(s.code)+1)
	b, _ := body.Write(x)
	s.code = append(s.code, b...)
}

// rowOfLocals is the row of the locals l; 0, if there are none.
func (s *saver) rowOfLocals(l []api.Type) int {
	if len(l) == 0 {
		return 0
	}
	b, _ := sigs.PutLocals(l)
	return s.locals.row(string(b))
}

// bodyOf is the body of m, whose types get their rows: those of the code first.
func (s *saver) bodyOf(m api.Method) api.Body {
	raw := make([]api.Instr, len(m.Code))
	for i, x := range m.Code {
		raw[i] = s.rawOf(x)
	}
	places, _ := code.Places(raw)
	b, _ := code.Encode(raw)
	x := api.Body{Code: b}
	for _, c := range m.Clauses {
		r, _ := body.Raw(places, c)
		if c.Kind == api.CCatch {
			r.Extra = s.specs.row(c.T)
		}
		x.Clauses = append(x.Clauses, r)
	}
	return x
}

// rawOf is x with its type, if it has one, told by the row.
func (s *saver) rawOf(x api.Instr) api.Instr {
	if operandOf(x) == api.PType {
		return api.Instr{Op: x.Op, Arg: int64(s.specs.row(x.T))}
	}
	return x
}

func isSmall(x api.Body) bool {
	return len(x.Code) < smallEnd && len(x.Clauses) == 0
}

// namesOf are the names of all rows, in the order of the rows.
func namesOf(g api.Image) []string {
	var l []string
	for _, d := range g.Types {
		l = append(l, d.Name)
	}
	for _, f := range g.Fields {
		l = append(l, f.Name)
	}
	for _, m := range g.Methods {
		l = append(l, m.Name)
	}
	return l
}

// blobs are the blobs of all rows, in the order of the rows.
func (s *saver) blobs() [][]byte {
	var l [][]byte
	for _, f := range s.image.Fields {
		b, _ := sigs.PutField(f.Type)
		l = append(l, b)
	}
	for _, m := range s.image.Methods {
		b, _ := sigs.PutSig(sigOf(m))
		l = append(l, b)
	}
	for _, t := range s.specs.list {
		b, _ := sigs.Put(t)
		l = append(l, b)
	}
	for _, b := range s.locals.list {
		l = append(l, []byte(b))
	}
	return l
}

// tables are all rows. They are made table by table, as names and blobs were put in that order.
func (s *saver) tables() api.Tables {
	l := make([][][]int, tables)
	for i, d := range s.image.Types {
		l[api.RType] = append(l[api.RType], s.typeRow(i, d))
		for _, face := range d.Faces {
			l[api.RFace] = append(l[api.RFace], []int{i + 1, face + 1})
		}
	}
	for _, f := range s.image.Fields {
		l[api.RField] = append(l[api.RField], s.fieldRow(f))
	}
	for i, m := range s.image.Methods {
		l[api.RMethod] = append(l[api.RMethod], s.methodRow(i, m))
	}
	for range s.specs.list {
		l[api.RSpec] = append(l[api.RSpec], []int{s.blobsAt.next()})
	}
	for range s.locals.list {
		l[api.RLocals] = append(l[api.RLocals], []int{s.blobsAt.next()})
	}
	return api.Tables{Entry: s.image.Entry + 1, Rows: l}
}

// typeRow is the row of type i; its first field and method are the first of this or a later owner.
func (s *saver) typeRow(i int, d api.TypeDef) []int {
	up := 0
	if d.Extends != noType {
		up, _ = rows.Code(api.RType, d.Extends+1)
	}
	field, _ := slices.BinarySearchFunc(s.image.Fields, api.Field{Owner: i}, byFieldOwner)
	method, _ := slices.BinarySearchFunc(s.image.Methods, api.Method{Owner: i}, byMethodOwner)
	return []int{d.Flags, s.namesAt.next(), up, field + 1, method + 1}
}

func (s *saver) fieldRow(f api.Field) []int {
	flags := 0
	if f.Static {
		flags = maxFieldFlags
	}
	return []int{flags, s.namesAt.next(), s.blobsAt.next()}
}

func (s *saver) methodRow(i int, m api.Method) []int {
	return []int{s.bodyAt[i], m.Flags, m.Max, s.namesAt.next(), s.blobsAt.next(), s.localsRow[i]}
}
