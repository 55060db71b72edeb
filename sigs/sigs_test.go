package sigs

import (
	"bytes"
	"math"
	"slices"
	"strings"
	"testing"

	"cattlegrid/api"
)

// lasts are the kinds of plain types, and of each the last number that it may have, as the chapter tells them.
var lasts = map[int]int{api.TVoid: 0, api.TInt: 0, api.TLong: 0, api.TObject: 0, api.TClass: 31, api.TValue: 31, api.TFault: 7}

var (
	void   = api.Type{Kind: api.TVoid}
	num    = api.Type{Kind: api.TInt}
	long   = api.Type{Kind: api.TLong}
	object = api.Type{Kind: api.TObject}
)

// wild are numbers far from all that may be.
var wild = []int{-2, 64, 255, 256, 65536, math.MaxInt32, math.MaxInt, math.MinInt, math.MinInt + 1}

// plainOnes are all plain types there are.
func plainOnes() []api.Type {
	l := []api.Type{void}
	for kind := api.TInt; kind <= api.TFault; kind++ {
		for index := range lasts[kind] + 1 {
			for dims := range 4 {
				l = append(l, api.Type{Kind: kind, Index: index, Dims: dims}, api.Type{Kind: kind, Index: index, Dims: dims, Ref: true})
			}
		}
	}
	return l
}

// otherOnes are types that aren't plain, each for one thing but for the void ones.
func otherOnes() []api.Type {
	var l []api.Type
	for _, kind := range append([]int{api.TNone, api.TNull, api.TFunc, -1, 10}, wild...) {
		l = append(l, api.Type{Kind: kind}, api.Type{Kind: kind, Ref: true}, api.Type{Kind: kind, Dims: 1}, api.Type{Kind: kind, Index: 1})
	}
	for kind, last := range lasts {
		for _, n := range append([]int{-1, last + 1}, wild...) {
			l = append(l, api.Type{Kind: kind, Index: n}, api.Type{Kind: kind, Index: n, Dims: 1}, api.Type{Kind: kind, Index: n, Ref: true})
		}
		for _, n := range append([]int{-1, 4}, wild...) {
			l = append(l, api.Type{Kind: kind, Index: last, Dims: n}, api.Type{Kind: kind, Dims: n, Ref: true})
		}
	}
	for dims := 1; dims <= 3; dims++ {
		l = append(l, api.Type{Kind: api.TVoid, Dims: dims}, api.Type{Kind: api.TVoid, Dims: dims, Ref: true})
	}
	return append(l, api.Type{Kind: api.TVoid, Ref: true})
}

// bytesOf is a plain type's bytes, told here once more.
func bytesOf(t api.Type) []byte {
	var b []byte
	if t.Ref {
		b = append(b, 0x10)
	}
	b = append(b, bytes.Repeat([]byte{0x1d}, t.Dims)...)
	b = append(b, map[int]byte{api.TVoid: 1, api.TInt: 8, api.TLong: 10, api.TObject: 28, api.TClass: 18, api.TValue: 17, api.TFault: 19}[t.Kind])
	switch {
	case t.Kind == api.TFault:
		return append(b, byte(t.Index))
	case t.Kind != api.TClass && t.Kind != api.TValue:
		return b
	case t.Index == 31:
		return append(b, 0x80, 0x80)
	}
	return append(b, byte(4*t.Index+4))
}

// bytesOfAll is a beginning, and the bytes of types behind it.
func bytesOfAll(begin []byte, l ...api.Type) []byte {
	b := slices.Clone(begin)
	for _, t := range l {
		b = append(b, bytesOf(t)...)
	}
	return b
}

func sameSig(x, y api.Sig) bool {
	return x.This == y.This && x.Ret == y.Ret && slices.Equal(x.Params, y.Params)
}

func isVoid(t api.Type) bool { return t.Kind == api.TVoid }

// numbers is a source of numbers below n, the same at each run.
func numbers(seed uint32) func(n int) int {
	return func(n int) int {
		seed = seed*1664525 + 1013904223
		return int(uint64(seed) * uint64(n) >> 32)
	}
}

func wantPut(t *testing.T, what string, b []byte, e api.Errno, want []byte) {
	t.Helper()
	if !bytes.Equal(b, want) || e != api.OK {
		t.Errorf("%s: % x %v, want % x", what, b, e, want)
	}
}

func wantRefused(t *testing.T, what string, b []byte, e, want api.Errno) {
	t.Helper()
	if len(b) != 0 || e != want {
		t.Errorf("%s: % x %v, want %v", what, b, e, want)
	}
}

func wantType(t *testing.T, what string, x api.Type, e api.Errno, want api.Type) {
	t.Helper()
	if x != want || e != api.OK {
		t.Errorf("%s: %v %v, want %v", what, x, e, want)
	}
}

func wantNoType(t *testing.T, b []byte, want api.Errno) {
	t.Helper()
	if x, e := Get(b); x != (api.Type{}) || e != want {
		t.Errorf("Get(% x): %v %v, want %v", b, x, e, want)
	}
}

func wantNoField(t *testing.T, b []byte, want api.Errno) {
	t.Helper()
	if x, e := GetField(b); x != (api.Type{}) || e != want {
		t.Errorf("GetField(% x): %v %v, want %v", b, x, e, want)
	}
}

func wantSig(t *testing.T, b []byte, want api.Sig) {
	t.Helper()
	if x, e := GetSig(b); !sameSig(x, want) || e != api.OK {
		t.Errorf("GetSig(% x): %v %v, want %v", b, x, e, want)
	}
}

func wantNoSig(t *testing.T, b []byte, want api.Errno) {
	t.Helper()
	if x, e := GetSig(b); !sameSig(x, api.Sig{}) || e != want {
		t.Errorf("GetSig(% x): %v %v, want %v", b, x, e, want)
	}
}

func wantLocals(t *testing.T, b []byte, want []api.Type) {
	t.Helper()
	if l, e := GetLocals(b); !slices.Equal(l, want) || e != api.OK {
		t.Errorf("GetLocals(% x): %v %v, want %v", b, l, e, want)
	}
}

func wantNoLocals(t *testing.T, b []byte, want api.Errno) {
	t.Helper()
	if l, e := GetLocals(b); len(l) != 0 || e != want {
		t.Errorf("GetLocals(% x): %v %v, want %v", b, l, e, want)
	}
}

// P5.1: all plain types, and those beside them.
func TestPlain(t *testing.T) {
	for _, x := range plainOnes() {
		if !Plain(x) {
			t.Errorf("%v isn't plain", x)
		}
	}
	for _, x := range otherOnes() {
		if Plain(x) {
			t.Errorf("%v is plain", x)
		}
	}
	n := 0
	for kind := -2; kind <= 12; kind++ {
		for index := -2; index <= 40; index++ {
			for dims := -2; dims <= 6; dims++ {
				for _, ref := range []bool{false, true} {
					if Plain(api.Type{Kind: kind, Index: index, Dims: dims, Ref: ref}) {
						n++
					}
				}
			}
		}
	}
	if want := len(plainOnes()); n != want {
		t.Errorf("%d are plain, want %d", n, want)
	}
}

// P5.1: the bytes of each plain type; no bytes of another one.
func TestPut(t *testing.T) {
	for _, c := range []struct {
		x    api.Type
		want string
	}{
		{void, "\x01"},
		{num, "\x08"},
		{long, "\x0a"},
		{object, "\x1c"},
		{api.Type{Kind: api.TInt, Dims: 1}, "\x1d\x08"},
		{api.Type{Kind: api.TLong, Ref: true}, "\x10\x0a"},
		{api.Type{Kind: api.TClass}, "\x12\x04"},
		{api.Type{Kind: api.TClass, Index: 30}, "\x12\x7c"},
		{api.Type{Kind: api.TClass, Index: 31}, "\x12\x80\x80"},
		{api.Type{Kind: api.TValue, Index: 1}, "\x11\x08"},
		{api.Type{Kind: api.TFault}, "\x13\x00"},
		{api.Type{Kind: api.TFault, Index: 7, Dims: 3, Ref: true}, "\x10\x1d\x1d\x1d\x13\x07"},
	} {
		b, e := Put(c.x)
		wantPut(t, "told here", b, e, []byte(c.want))
	}
	for _, x := range plainOnes() {
		b, e := Put(x)
		wantPut(t, "plain", b, e, bytesOf(x))
	}
	for _, x := range otherOnes() {
		b, e := Put(x)
		wantRefused(t, "not plain", b, e, api.ErrArg)
	}
}

// P5.1: each plain type; its bytes cut off at each place; and with a byte left behind them.
func TestGet(t *testing.T) {
	for _, x := range plainOnes() {
		b := bytesOf(x)
		y, e := Get(b)
		wantType(t, "plain", y, e, x)
		for n := range len(b) {
			wantNoType(t, b[:n], api.ErrShort)
		}
		for _, left := range []byte{0x00, 0x01, 0x08, 0x10, 0x1d, 0xff} {
			wantNoType(t, append(slices.Clone(b), left), api.ErrForm)
		}
		wantNoType(t, append(slices.Clone(b), b...), api.ErrForm)
	}
	wantNoType(t, nil, api.ErrShort)
	wantNoType(t, []byte{}, api.ErrShort)
}

// P5.1: MaxDims of 1D, and more, whatever stands behind them.
func TestGetOfManyDimensions(t *testing.T) {
	for _, ahead := range []string{"", "\x10"} {
		three := ahead + "\x1d\x1d\x1d"
		x, e := Get([]byte(three + "\x1c"))
		wantType(t, "three", x, e, api.Type{Kind: api.TObject, Dims: 3, Ref: ahead != ""})
		for _, behind := range []string{"", "\x1c", "\x1d\x1c", "\x00", "\x01", "\x10", "\x12", "\x12\x00", "\x13\x08", "\x08\x08"} {
			wantNoType(t, []byte(three+"\x1d"+behind), api.ErrDeep)
		}
	}
}

// P5.1: at each place each byte that is none of the told ones; and 10 at the beginning alone.
func TestGetOfOtherBytes(t *testing.T) {
	for _, ahead := range []string{"", "\x10", "\x1d", "\x1d\x1d", "\x1d\x1d\x1d", "\x10\x1d", "\x10\x1d\x1d\x1d"} {
		for x := range 256 {
			b := append([]byte(ahead), byte(x))
			switch byte(x) {
			case 0x08, 0x0a, 0x1c:
				if _, e := Get(b); e != api.OK {
					t.Errorf("% x: %v", b, e)
				}
			case 0x11, 0x12, 0x13:
				wantNoType(t, b, api.ErrShort)
			case 0x1d:
				if strings.Count(ahead, "\x1d") < 3 {
					wantNoType(t, b, api.ErrShort)
				} else {
					wantNoType(t, b, api.ErrDeep)
				}
			case 0x10:
				if ahead == "" {
					wantNoType(t, b, api.ErrShort)
					break
				}
				wantNoType(t, b, api.ErrForm)
				wantNoType(t, append(b, 0x08), api.ErrForm)
			case 0x01:
				if ahead == "" {
					y, e := Get(b)
					wantType(t, "void", y, e, void)
					break
				}
				wantNoType(t, b, api.ErrForm)
				wantNoType(t, append(b, 0x01), api.ErrForm)
			default:
				wantNoType(t, b, api.ErrForm)
				wantNoType(t, append(b, 0x08), api.ErrForm)
			}
		}
	}
}

// P5.1: packed numbers: cut off, none, in more bytes than they need; then what they tell.
func TestGetOfNumbers(t *testing.T) {
	for _, ahead := range []string{"\x12", "\x11", "\x10\x12", "\x1d\x11"} {
		for x := range 128 {
			b := append([]byte(ahead), byte(x))
			if y, e := Get(b); x > 0 && x%4 == 0 {
				if e != api.OK || y.Index != x/4-1 {
					t.Errorf("% x: %v %v", b, y, e)
				}
			} else {
				wantNoType(t, b, api.ErrToken)
			}
		}
		x, e := Get([]byte(ahead + "\x80\x80"))
		if x.Index != 31 || e != api.OK {
			t.Errorf("row 32: %v %v", x, e)
		}
		// Tags 1 to 3 of row 32; rows 33 and 16383 of types; row 16383 of specs; beyond two bytes.
		for _, s := range []string{"\x80\x81", "\x80\x82", "\x80\x83", "\x80\x84", "\x80\x88", "\xc0\x00\xff\xfc", "\xc0\x00\xff\xfe", "\xc0\x01\x00\x00", "\xc0\x01\x00\x04", "\xdf\xff\xff\xff", "\xbf\xfc"} {
			wantNoType(t, []byte(ahead+s), api.ErrToken)
			wantNoType(t, []byte(ahead+s+"\x08"), api.ErrToken)
		}
		wantBrokenNumbers(t, ahead)
	}
	for x := range 128 {
		b := []byte{0x13, byte(x)}
		if x > 7 {
			wantNoType(t, b, api.ErrToken)
			wantNoType(t, append(b, 0), api.ErrToken)
			continue
		}
		y, e := Get(b)
		wantType(t, "fault", y, e, api.Type{Kind: api.TFault, Index: x})
	}
	wantNoType(t, []byte("\x13\x80\x80"), api.ErrToken)
	wantNoType(t, []byte("\x13\xc0\x00\x40\x00"), api.ErrToken)
	wantBrokenNumbers(t, "\x13")
	wantBrokenNumbers(t, "\x10\x1d\x13")
}

func wantBrokenNumbers(t *testing.T, ahead string) {
	t.Helper()
	for _, s := range []string{"\x80\x00", "\x80\x04", "\x80\x7f", "\xc0\x00\x00\x04", "\xc0\x00\x3f\xff", "\xe0", "\xff", "\xe0\x00\x00\x04"} {
		wantNoType(t, []byte(ahead+s), api.ErrForm)
	}
	for _, s := range []string{"", "\x80", "\xbf", "\xc0", "\xc0\x00", "\xdf\xff\xff"} {
		wantNoType(t, []byte(ahead+s), api.ErrShort)
	}
}

// P5.1, P5.5: all bytes up to two, and many of three and more: the bytes of plain types are got, and no others.
func TestGetOfAllBytes(t *testing.T) {
	told := map[string]api.Type{}
	for _, x := range plainOnes() {
		told[string(bytesOf(x))] = x
	}
	look := func(b []byte) {
		want, ok := told[string(b)]
		if x, e := Get(b); (e == api.OK) != ok || x != want {
			t.Fatalf("% x: %v %v, want %v", b, x, e, want)
		}
	}
	for x := range 256 {
		look([]byte{byte(x)})
		for y := range 256 {
			look([]byte{byte(x), byte(y)})
		}
	}
	signs := []byte{0x01, 0x04, 0x08, 0x10, 0x11, 0x12, 0x13, 0x1c, 0x1d, 0x80}
	for n := range 100000 {
		b := make([]byte, 5)
		for i := range b {
			b[i] = signs[n%10]
			n /= 10
		}
		look(b[:3])
		look(b[:4])
		look(b)
	}
}

// P5.2: each plain type, of which those that are void or Ref are no field's.
func TestPutField(t *testing.T) {
	for _, x := range plainOnes() {
		b, e := PutField(x)
		if x.Ref || isVoid(x) {
			wantRefused(t, "no field's", b, e, api.ErrArg)
			continue
		}
		wantPut(t, "a field's", b, e, bytesOfAll([]byte{6}, x))
	}
	for _, x := range otherOnes() {
		b, e := PutField(x)
		wantRefused(t, "not plain", b, e, api.ErrArg)
	}
	b, e := PutField(api.Type{Kind: api.TClass, Index: 2, Dims: 1})
	wantPut(t, "told here", b, e, []byte("\x06\x1d\x12\x0c"))
}

// P5.2: each plain type behind 06, cut off at each place, and with a byte left.
func TestGetField(t *testing.T) {
	for _, x := range plainOnes() {
		b := bytesOfAll([]byte{6}, x)
		for n := range len(b) {
			wantNoField(t, b[:n], api.ErrShort)
		}
		wantNoField(t, append(slices.Clone(b), 8), api.ErrForm)
		if x.Ref || isVoid(x) {
			wantNoField(t, b, api.ErrType)
			continue
		}
		y, e := GetField(b)
		wantType(t, "a field's", y, e, x)
	}
	wantNoField(t, nil, api.ErrShort)
	wantNoField(t, []byte{}, api.ErrShort)
	for head := range 256 {
		if head != 6 {
			wantNoField(t, []byte{byte(head), 8}, api.ErrForm)
			wantNoField(t, []byte{byte(head)}, api.ErrForm)
		}
	}
}

// P5.2: what Get tells of the rest comes ahead of ErrType, and behind the first byte.
func TestGetFieldTellsTheFirst(t *testing.T) {
	for s, want := range map[string]api.Errno{
		"\x06\x10":                 api.ErrShort,
		"\x06\x10\x12":             api.ErrShort,
		"\x06\x10\x12\x80\x04":     api.ErrForm,
		"\x06\x10\x12\x00":         api.ErrToken,
		"\x06\x10\x13\x08":         api.ErrToken,
		"\x06\x10\x01":             api.ErrForm,
		"\x06\x1d\x01":             api.ErrForm,
		"\x06\x10\x1d\x1d\x1d\x1d": api.ErrDeep,
		"\x06\x10\x08\x08":         api.ErrForm,
		"\x06\x01\x01":             api.ErrForm,
		"\x06\x06\x08":             api.ErrForm,
		"\x07\x10\x08":             api.ErrForm,
		"\x07\x1d\x1d\x1d\x1d":     api.ErrForm,
	} {
		wantNoField(t, []byte(s), want)
	}
}

// P5.3: signatures that are told byte by byte here.
func TestPutSig(t *testing.T) {
	for _, c := range []struct {
		x    api.Sig
		want string
	}{
		{api.Sig{Params: []api.Type{num}, Ret: void}, "\x00\x01\x01\x08"},
		{api.Sig{Ret: void}, "\x00\x00\x01"},
		{api.Sig{Params: []api.Type{}, Ret: long, This: true}, "\x20\x00\x0a"},
		{api.Sig{This: true, Params: []api.Type{{Kind: api.TInt, Ref: true}, {Kind: api.TValue, Index: 31}, object}, Ret: api.Type{Kind: api.TFault, Dims: 1}}, "\x20\x03\x1d\x13\x00\x10\x08\x11\x80\x80\x1c"},
	} {
		b, e := PutSig(c.x)
		wantPut(t, "told here", b, e, []byte(c.want))
		wantSig(t, b, c.x)
	}
}

// P5.3: each plain type as what is answered, and as a parameter at each place, put and got.
func TestWhatMayStandInSigs(t *testing.T) {
	for _, x := range plainOnes() {
		s := api.Sig{Params: []api.Type{num}, Ret: x}
		told := bytesOfAll([]byte{0, 1}, x, num)
		b, e := PutSig(s)
		if x.Ref {
			wantRefused(t, "answered", b, e, api.ErrArg)
			wantNoSig(t, told, api.ErrType)
		} else {
			wantPut(t, "answered", b, e, told)
			wantSig(t, told, s)
		}
		for at := range 3 {
			s := api.Sig{This: true, Params: []api.Type{num, long, object}, Ret: void}
			s.Params[at] = x
			told := bytesOfAll([]byte{0x20, 3}, append([]api.Type{void}, s.Params...)...)
			b, e := PutSig(s)
			if isVoid(x) {
				wantRefused(t, "parameter", b, e, api.ErrArg)
				wantNoSig(t, told, api.ErrType)
			} else {
				wantPut(t, "parameter", b, e, told)
				wantSig(t, told, s)
			}
		}
	}
	for _, x := range otherOnes() {
		b, e := PutSig(api.Sig{Ret: x})
		wantRefused(t, "answered, not plain", b, e, api.ErrArg)
		b, e = PutSig(api.Sig{Params: []api.Type{num, x}, Ret: num})
		wantRefused(t, "parameter, not plain", b, e, api.ErrArg)
	}
	b, e := PutSig(api.Sig{})
	wantRefused(t, "nothing told", b, e, api.ErrArg)
}

// P5.3: MaxParams, and more; that there are too many comes ahead of what they are.
func TestParamsUpToTheMost(t *testing.T) {
	for n := range api.MaxParams + 1 {
		s := api.Sig{Params: slices.Repeat([]api.Type{{Kind: api.TInt, Ref: true}}, n), Ret: num}
		b, e := PutSig(s)
		wantPut(t, "up to the most", b, e, bytesOfAll([]byte{0, byte(n)}, append([]api.Type{num}, s.Params...)...))
		wantSig(t, b, s)
	}
	for _, n := range []int{7, 8, 127, 128, 20000} {
		b, e := PutSig(api.Sig{Params: slices.Repeat([]api.Type{num}, n), Ret: num})
		wantRefused(t, "too many", b, e, api.ErrFull)
		b, e = PutSig(api.Sig{Params: make([]api.Type, n)})
		wantRefused(t, "too many, and none of them one", b, e, api.ErrFull)
	}
	for _, s := range []string{"\x07", "\x08", "\x7f", "\x80\x80", "\xbf\xff", "\xc0\x00\x40\x00", "\xdf\xff\xff\xff"} {
		for _, head := range []string{"\x00", "\x20"} {
			for _, behind := range []string{"", "\x10", "\x10\x08", "\x00", "\x01\x08\x08\x08\x08\x08\x08\x08"} {
				wantNoSig(t, []byte(head+s+behind), api.ErrFull)
			}
		}
	}
}

// P5.3: bytes cut off at each place, bytes left, other first bytes, numbers that aren't packed so.
func TestGetSigOfBrokenBytes(t *testing.T) {
	for _, s := range []api.Sig{
		{Ret: void},
		{This: true, Ret: api.Type{Kind: api.TClass, Index: 31, Dims: 2}},
		{Params: []api.Type{num, {Kind: api.TValue, Index: 31, Ref: true}}, Ret: api.Type{Kind: api.TFault, Index: 3}},
		{This: true, Params: []api.Type{{Kind: api.TInt, Dims: 3, Ref: true}, object, long, num, {Kind: api.TFault}, {Kind: api.TClass}}, Ret: long},
	} {
		b, e := PutSig(s)
		if e != api.OK {
			t.Fatal(s, e)
		}
		for n := range len(b) {
			wantNoSig(t, b[:n], api.ErrShort)
		}
		for _, left := range []byte{0x00, 0x01, 0x08, 0x10, 0x1d, 0xff} {
			wantNoSig(t, append(slices.Clone(b), left), api.ErrForm)
		}
		for head := range 256 {
			if head != 0 && head != 0x20 {
				wantNoSig(t, append([]byte{byte(head)}, b[1:]...), api.ErrForm)
				wantNoSig(t, []byte{byte(head)}, api.ErrForm)
			}
		}
	}
	wantNoSig(t, nil, api.ErrShort)
	wantNoSig(t, []byte{}, api.ErrShort)
	for _, s := range []string{"\x80\x00", "\x80\x01", "\x80\x07", "\xc0\x00\x00\x01", "\xe0", "\xff"} {
		wantNoSig(t, []byte("\x00"+s+"\x01\x08"), api.ErrForm)
	}
	for _, s := range []string{"\x80", "\xc0", "\xc0\x00\x00"} {
		wantNoSig(t, []byte("\x20"+s), api.ErrShort)
	}
}

// P5.3: errors are told type by type: a type that may not stand there ahead of all that is behind it.
func TestGetSigTellsTheFirst(t *testing.T) {
	for s, want := range map[string]api.Errno{
		"\x01\x07":                         api.ErrForm,
		"\x01\xe0":                         api.ErrForm,
		"\x00\x00\x10":                     api.ErrShort,
		"\x00\x00\x10\x01":                 api.ErrForm,
		"\x00\x00\x10\x12\x00":             api.ErrToken,
		"\x00\x00\x10\x1d\x1d\x1d\x1d":     api.ErrDeep,
		"\x00\x00\x10\x08\x08":             api.ErrType,
		"\x00\x01\x10\x08":                 api.ErrType,
		"\x00\x01\x10\x08\x02":             api.ErrType,
		"\x00\x01\x10\x08\x01":             api.ErrType,
		"\x00\x01\x10\x08\x1d\x1d\x1d\x1d": api.ErrType,
		"\x00\x01\x01\x01\x01":             api.ErrType,
		"\x00\x02\x01\x01":                 api.ErrType,
		"\x00\x02\x01\x01\x02":             api.ErrType,
		"\x00\x02\x01\x02\x01":             api.ErrForm,
		"\x00\x02\x01\x13\x08\x01":         api.ErrToken,
		"\x00\x02\x01\x12\x80\x04\x01":     api.ErrForm,
		"\x00\x02\x01\x08\x01":             api.ErrType,
		"\x00\x02\x01\x08\x01\x01":         api.ErrType,
		"\x00\x02\x02":                     api.ErrForm,
		"\x00\x02\x1d\x1d\x1d\x1d":         api.ErrDeep,
		"\x00\x01\x01\x1d\x1d\x1d\x1d\x01": api.ErrDeep,
		"\x00\x01\x01\x1d\x01":             api.ErrForm,
		"\x00\x01\x01\x10\x10\x08":         api.ErrForm,
	} {
		wantNoSig(t, []byte(s), want)
	}
}

// P5.4: locals that are told byte by byte here, and none at all.
func TestPutLocals(t *testing.T) {
	for _, none := range [][]api.Type{nil, {}} {
		b, e := PutLocals(none)
		wantPut(t, "none", b, e, []byte{7, 0})
		wantLocals(t, b, nil)
	}
	l := []api.Type{num, {Kind: api.TObject, Ref: true}, {Kind: api.TFault, Index: 7, Dims: 1}}
	b, e := PutLocals(l)
	wantPut(t, "three", b, e, []byte("\x07\x03\x08\x10\x1c\x1d\x13\x07"))
	wantLocals(t, b, l)
}

// P5.4: each plain type as a local at each place, put and got.
func TestWhatMayStandInLocals(t *testing.T) {
	for _, x := range plainOnes() {
		for at := range 3 {
			l := []api.Type{num, long, object}
			l[at] = x
			told := bytesOfAll([]byte{7, 3}, l...)
			b, e := PutLocals(l)
			if isVoid(x) {
				wantRefused(t, "void", b, e, api.ErrArg)
				wantNoLocals(t, told, api.ErrType)
			} else {
				wantPut(t, "a local", b, e, told)
				wantLocals(t, told, l)
			}
		}
	}
	for _, x := range otherOnes() {
		b, e := PutLocals([]api.Type{num, x})
		wantRefused(t, "not plain", b, e, api.ErrArg)
	}
}

// P5.4: MaxLocals, and more; that there are too many comes ahead of what they are.
func TestLocalsUpToTheMost(t *testing.T) {
	for n := range api.MaxLocals + 1 {
		l := slices.Repeat([]api.Type{{Kind: api.TLong, Ref: true}}, n)
		b, e := PutLocals(l)
		wantPut(t, "up to the most", b, e, bytesOfAll([]byte{7, byte(n)}, l...))
		wantLocals(t, b, l)
	}
	for _, n := range []int{13, 14, 127, 128, 20000} {
		b, e := PutLocals(slices.Repeat([]api.Type{num}, n))
		wantRefused(t, "too many", b, e, api.ErrFull)
		b, e = PutLocals(make([]api.Type, n))
		wantRefused(t, "too many, and none of them one", b, e, api.ErrFull)
	}
	for _, s := range []string{"\x0d", "\x7f", "\x80\x80", "\xbf\xff", "\xc0\x00\x40\x00", "\xdf\xff\xff\xff"} {
		for _, behind := range []string{"", "\x01", "\x00", "\x08\x08\x08\x08\x08\x08\x08\x08\x08\x08\x08\x08\x08"} {
			wantNoLocals(t, []byte("\x07"+s+behind), api.ErrFull)
		}
	}
}

// P5.4: bytes cut off at each place, bytes left, other first bytes, numbers that aren't packed so, and what is told first.
func TestGetLocalsOfBrokenBytes(t *testing.T) {
	for _, l := range [][]api.Type{
		nil,
		{num},
		{{Kind: api.TValue, Index: 31, Ref: true}, {Kind: api.TFault, Index: 3}, {Kind: api.TClass, Index: 31, Dims: 2}},
		slices.Repeat([]api.Type{{Kind: api.TInt, Dims: 3, Ref: true}}, 12),
	} {
		b, e := PutLocals(l)
		if e != api.OK {
			t.Fatal(l, e)
		}
		for n := range len(b) {
			wantNoLocals(t, b[:n], api.ErrShort)
		}
		for _, left := range []byte{0x00, 0x01, 0x08, 0x10, 0x1d, 0xff} {
			wantNoLocals(t, append(slices.Clone(b), left), api.ErrForm)
		}
		for head := range 256 {
			if head != 7 {
				wantNoLocals(t, append([]byte{byte(head)}, b[1:]...), api.ErrForm)
				wantNoLocals(t, []byte{byte(head)}, api.ErrForm)
			}
		}
	}
	for s, want := range map[string]api.Errno{
		"":                             api.ErrShort,
		"\x06\x0d":                     api.ErrForm,
		"\x07\x80":                     api.ErrShort,
		"\x07\x80\x01\x08":             api.ErrForm,
		"\x07\xc0\x00\x00\x01\x08":     api.ErrForm,
		"\x07\xe0":                     api.ErrForm,
		"\x07\x02\x01":                 api.ErrType,
		"\x07\x02\x01\x02":             api.ErrType,
		"\x07\x01\x01\x08":             api.ErrType,
		"\x07\x02\x02\x01":             api.ErrForm,
		"\x07\x02\x12\x00\x01":         api.ErrToken,
		"\x07\x02\x08\x01\x08":         api.ErrType,
		"\x07\x01\x1d\x1d\x1d\x1d\x01": api.ErrDeep,
		"\x07\x01\x10\x01":             api.ErrForm,
		"\x07\x01\x10\x10\x08":         api.ErrForm,
	} {
		wantNoLocals(t, []byte(s), want)
	}
	wantNoLocals(t, nil, api.ErrShort)
}

// P5.5: many signatures and locals, put and got.
func TestGetOfPut(t *testing.T) {
	next := numbers(5)
	all := plainOnes()
	pick := func(may func(api.Type) bool) api.Type {
		for {
			if x := all[next(len(all))]; may(x) {
				return x
			}
		}
	}
	isVariable := func(x api.Type) bool { return !isVoid(x) }
	for range 2000 {
		s := api.Sig{This: next(2) == 1, Ret: pick(func(x api.Type) bool { return !x.Ref })}
		for range next(7) {
			s.Params = append(s.Params, pick(isVariable))
		}
		b, e := PutSig(s)
		if e != api.OK {
			t.Fatal(s, e)
		}
		wantSig(t, b, s)
		var l []api.Type
		for range next(13) {
			l = append(l, pick(isVariable))
		}
		b, e = PutLocals(l)
		if e != api.OK {
			t.Fatal(l, e)
		}
		wantLocals(t, b, l)
	}
}

// R1, P5.5: whatever the bytes, all calls end; what is got, is put as these bytes.
func TestAnyBytes(t *testing.T) {
	next := numbers(9)
	signs := []byte{0x00, 0x01, 0x02, 0x03, 0x04, 0x06, 0x07, 0x08, 0x0a, 0x10, 0x11, 0x12, 0x13, 0x1c, 0x1d, 0x20, 0x80, 0xc0, 0xff}
	for range 200000 {
		b := make([]byte, next(9))
		for i := range b {
			b[i] = signs[next(len(signs))]
		}
		if x, e := GetField(b); e == api.OK {
			c, f := PutField(x)
			wantPut(t, "field", c, f, b)
		}
		if x, e := GetSig(b); e == api.OK {
			c, f := PutSig(x)
			wantPut(t, "signature", c, f, b)
		}
		if x, e := GetLocals(b); e == api.OK {
			c, f := PutLocals(x)
			wantPut(t, "locals", c, f, b)
		}
	}
}

// R4: what is handed in isn't changed, spare room included, and isn't kept.
func TestArgumentsStay(t *testing.T) {
	room := []api.Type{num, {Kind: api.TClass, Index: 31}, object, {Kind: 77}, {Kind: 78}}
	kept := slices.Clone(room)
	s, sigError := PutSig(api.Sig{Params: room[:3], Ret: void})
	l, localsError := PutLocals(room[:3])
	if sigError != api.OK || localsError != api.OK || !slices.Equal(room, kept) {
		t.Fatal("a list was changed", sigError, localsError)
	}
	clear(room)
	wantSig(t, s, api.Sig{Params: kept[:3], Ret: void})
	wantLocals(t, l, kept[:3])
	for _, c := range []struct {
		what string
		b    []byte
		get  func([]byte) api.Errno
	}{
		{"Get", []byte("\x10\x1d\x12\x04"), func(b []byte) api.Errno { _, e := Get(b); return e }},
		{"GetField", []byte("\x06\x1d\x12\x04"), func(b []byte) api.Errno { _, e := GetField(b); return e }},
		{"GetSig", s, func(b []byte) api.Errno { _, e := GetSig(b); return e }},
		{"GetLocals", l, func(b []byte) api.Errno { _, e := GetLocals(b); return e }},
	} {
		spare := append(slices.Clone(c.b), 0xee, 0xee, 0xee, 0xee)
		before := slices.Clone(spare)
		if e := c.get(spare[:len(c.b)]); e != api.OK || !bytes.Equal(spare, before) {
			t.Errorf("%s: %v, or its bytes changed", c.what, e)
		}
	}
	b := slices.Clone(s)
	x, _ := GetSig(b)
	clear(b)
	if !sameSig(x, api.Sig{Params: kept[:3], Ret: void}) {
		t.Error("GetSig keeps its bytes")
	}
}

// R4: each answer is memory of its own, spare room included.
func TestAnswersAreNew(t *testing.T) {
	class := api.Type{Kind: api.TClass, Index: 31, Dims: 3}
	s := api.Sig{This: true, Params: []api.Type{num, class, object}, Ret: class}
	for what, put := range map[string]func() ([]byte, api.Errno){
		"Put":       func() ([]byte, api.Errno) { return Put(class) },
		"PutField":  func() ([]byte, api.Errno) { return PutField(class) },
		"PutSig":    func() ([]byte, api.Errno) { return PutSig(s) },
		"PutLocals": func() ([]byte, api.Errno) { return PutLocals(s.Params) },
	} {
		one, _ := put()
		two, _ := put()
		want := slices.Clone(two)
		clear(one[:cap(one)])
		three, e := put()
		if e != api.OK || !bytes.Equal(two, want) || !bytes.Equal(three, want) {
			t.Errorf("%s: answers share memory", what)
		}
	}
	b, _ := PutSig(s)
	one, _ := GetSig(b)
	two, _ := GetSig(b)
	clear(one.Params[:cap(one.Params)])
	if !sameSig(two, s) {
		t.Error("GetSig: answers share memory")
	}
	b, _ = PutLocals(s.Params)
	first, _ := GetLocals(b)
	second, _ := GetLocals(b)
	clear(first[:cap(first)])
	if !slices.Equal(second, s.Params) {
		t.Error("GetLocals: answers share memory")
	}
}
