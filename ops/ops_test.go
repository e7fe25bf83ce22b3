package ops_test

import (
	"slices"
	"strings"
	"testing"

	"garderobe/api"
	"garderobe/ops"
)

// The chapter's table, a row for each instruction: its number, its name, what stands behind it, how many words it takes and leaves, whether it leads elsewhere by what stands behind it, whether nothing goes on behind it. What a row doesn't tell is 0, or no.
var rows = []api.Info{
	{Op: 0, Name: "nop"},
	{Op: 1, Name: "aconst_null", Leave: 1},
	{Op: 2, Name: "sconst_m1", Leave: 1},
	{Op: 3, Name: "sconst_0", Leave: 1},
	{Op: 4, Name: "sconst_1", Leave: 1},
	{Op: 5, Name: "sconst_2", Leave: 1},
	{Op: 6, Name: "sconst_3", Leave: 1},
	{Op: 7, Name: "sconst_4", Leave: 1},
	{Op: 8, Name: "sconst_5", Leave: 1},
	{Op: 16, Name: "bspush", Imm: api.ImmByte, Leave: 1},
	{Op: 17, Name: "sspush", Imm: api.ImmShort, Leave: 1},
	{Op: 21, Name: "aload", Imm: api.ImmLocal, Leave: 1},
	{Op: 22, Name: "sload", Imm: api.ImmLocal, Leave: 1},
	{Op: 24, Name: "aload_0", Leave: 1},
	{Op: 25, Name: "aload_1", Leave: 1},
	{Op: 26, Name: "aload_2", Leave: 1},
	{Op: 27, Name: "aload_3", Leave: 1},
	{Op: 28, Name: "sload_0", Leave: 1},
	{Op: 29, Name: "sload_1", Leave: 1},
	{Op: 30, Name: "sload_2", Leave: 1},
	{Op: 31, Name: "sload_3", Leave: 1},
	{Op: 36, Name: "aaload", Take: 2, Leave: 1},
	{Op: 37, Name: "baload", Take: 2, Leave: 1},
	{Op: 38, Name: "saload", Take: 2, Leave: 1},
	{Op: 40, Name: "astore", Imm: api.ImmLocal, Take: 1},
	{Op: 41, Name: "sstore", Imm: api.ImmLocal, Take: 1},
	{Op: 43, Name: "astore_0", Take: 1},
	{Op: 44, Name: "astore_1", Take: 1},
	{Op: 45, Name: "astore_2", Take: 1},
	{Op: 46, Name: "astore_3", Take: 1},
	{Op: 47, Name: "sstore_0", Take: 1},
	{Op: 48, Name: "sstore_1", Take: 1},
	{Op: 49, Name: "sstore_2", Take: 1},
	{Op: 50, Name: "sstore_3", Take: 1},
	{Op: 55, Name: "aastore", Take: 3},
	{Op: 56, Name: "bastore", Take: 3},
	{Op: 57, Name: "sastore", Take: 3},
	{Op: 59, Name: "pop", Take: 1},
	{Op: 60, Name: "pop2", Take: 2},
	{Op: 61, Name: "dup", Take: 1, Leave: 2},
	{Op: 62, Name: "dup2", Take: 2, Leave: 4},
	{Op: 65, Name: "sadd", Take: 2, Leave: 1},
	{Op: 67, Name: "ssub", Take: 2, Leave: 1},
	{Op: 69, Name: "smul", Take: 2, Leave: 1},
	{Op: 71, Name: "sdiv", Take: 2, Leave: 1},
	{Op: 73, Name: "srem", Take: 2, Leave: 1},
	{Op: 75, Name: "sneg", Take: 1, Leave: 1},
	{Op: 77, Name: "sshl", Take: 2, Leave: 1},
	{Op: 79, Name: "sshr", Take: 2, Leave: 1},
	{Op: 81, Name: "sushr", Take: 2, Leave: 1},
	{Op: 83, Name: "sand", Take: 2, Leave: 1},
	{Op: 85, Name: "sor", Take: 2, Leave: 1},
	{Op: 87, Name: "sxor", Take: 2, Leave: 1},
	{Op: 89, Name: "sinc", Imm: api.ImmInc},
	{Op: 91, Name: "s2b", Take: 1, Leave: 1},
	{Op: 96, Name: "ifeq", Imm: api.ImmJump, Take: 1, Jumps: true},
	{Op: 97, Name: "ifne", Imm: api.ImmJump, Take: 1, Jumps: true},
	{Op: 98, Name: "iflt", Imm: api.ImmJump, Take: 1, Jumps: true},
	{Op: 99, Name: "ifge", Imm: api.ImmJump, Take: 1, Jumps: true},
	{Op: 100, Name: "ifgt", Imm: api.ImmJump, Take: 1, Jumps: true},
	{Op: 101, Name: "ifle", Imm: api.ImmJump, Take: 1, Jumps: true},
	{Op: 102, Name: "ifnull", Imm: api.ImmJump, Take: 1, Jumps: true},
	{Op: 103, Name: "ifnonnull", Imm: api.ImmJump, Take: 1, Jumps: true},
	{Op: 104, Name: "if_acmpeq", Imm: api.ImmJump, Take: 2, Jumps: true},
	{Op: 105, Name: "if_acmpne", Imm: api.ImmJump, Take: 2, Jumps: true},
	{Op: 106, Name: "if_scmpeq", Imm: api.ImmJump, Take: 2, Jumps: true},
	{Op: 107, Name: "if_scmpne", Imm: api.ImmJump, Take: 2, Jumps: true},
	{Op: 108, Name: "if_scmplt", Imm: api.ImmJump, Take: 2, Jumps: true},
	{Op: 109, Name: "if_scmpge", Imm: api.ImmJump, Take: 2, Jumps: true},
	{Op: 110, Name: "if_scmpgt", Imm: api.ImmJump, Take: 2, Jumps: true},
	{Op: 111, Name: "if_scmple", Imm: api.ImmJump, Take: 2, Jumps: true},
	{Op: 112, Name: "goto", Imm: api.ImmJump, Jumps: true, Ends: true},
	{Op: 113, Name: "jsr", Imm: api.ImmJump, Leave: 1, Jumps: true},
	{Op: 114, Name: "ret", Imm: api.ImmLocal, Ends: true},
	{Op: 115, Name: "stableswitch", Imm: api.ImmTable, Take: 1, Jumps: true, Ends: true},
	{Op: 117, Name: "slookupswitch", Imm: api.ImmLookup, Take: 1, Jumps: true, Ends: true},
	{Op: 119, Name: "areturn", Take: 1, Ends: true},
	{Op: 120, Name: "sreturn", Take: 1, Ends: true},
	{Op: 122, Name: "return", Ends: true},
	{Op: 123, Name: "getstatic_a", Imm: api.ImmPool, Leave: 1},
	{Op: 124, Name: "getstatic_b", Imm: api.ImmPool, Leave: 1},
	{Op: 125, Name: "getstatic_s", Imm: api.ImmPool, Leave: 1},
	{Op: 127, Name: "putstatic_a", Imm: api.ImmPool, Take: 1},
	{Op: 128, Name: "putstatic_b", Imm: api.ImmPool, Take: 1},
	{Op: 129, Name: "putstatic_s", Imm: api.ImmPool, Take: 1},
	{Op: 131, Name: "getfield_a", Imm: api.ImmPool, Take: 1, Leave: 1},
	{Op: 132, Name: "getfield_b", Imm: api.ImmPool, Take: 1, Leave: 1},
	{Op: 133, Name: "getfield_s", Imm: api.ImmPool, Take: 1, Leave: 1},
	{Op: 135, Name: "putfield_a", Imm: api.ImmPool, Take: 2},
	{Op: 136, Name: "putfield_b", Imm: api.ImmPool, Take: 2},
	{Op: 137, Name: "putfield_s", Imm: api.ImmPool, Take: 2},
	{Op: 139, Name: "invokevirtual", Imm: api.ImmPool},
	{Op: 140, Name: "invokespecial", Imm: api.ImmPool},
	{Op: 141, Name: "invokestatic", Imm: api.ImmPool},
	{Op: 142, Name: "invokeinterface", Imm: api.ImmIface},
	{Op: 143, Name: "new", Imm: api.ImmPool, Leave: 1},
	{Op: 144, Name: "newarray", Imm: api.ImmKind, Take: 1, Leave: 1},
	{Op: 145, Name: "anewarray", Imm: api.ImmPool, Take: 1, Leave: 1},
	{Op: 146, Name: "arraylength", Take: 1, Leave: 1},
	{Op: 147, Name: "athrow", Take: 1, Ends: true},
	{Op: 148, Name: "checkcast", Imm: api.ImmCast, Take: 1, Leave: 1},
	{Op: 149, Name: "instanceof", Imm: api.ImmCast, Take: 1, Leave: 1},
}

// The numbers of those at which the firewall looks.
var looked = []api.Op{36, 37, 38, 55, 56, 57, 127, 131, 132, 133, 135, 136, 137, 139, 140, 142, 146, 147, 148, 149}

func everyNumber() []api.Op {
	var l []api.Op
	for n := range 256 {
		l = append(l, api.Op(n))
	}
	return l
}

// row: the number's row, and whether there is such an instruction.
func row(o api.Op) (api.Info, bool) {
	for _, x := range rows {
		if x.Op == o {
			return x, true
		}
	}
	return api.Info{}, false
}

// P5.1: each field of each instruction's row.
func TestOf(t *testing.T) {
	for _, want := range rows {
		x, e := ops.Of(want.Op)
		if e != api.OK {
			t.Errorf("Of(%d): %v", want.Op, e)
		}
		if x.Op != want.Op || x.Name != want.Name {
			t.Errorf("Of(%d) is %d, %q; want %q", want.Op, x.Op, x.Name, want.Name)
		}
		if x.Imm != want.Imm {
			t.Errorf("Of(%d), %s: Imm is %d; want %d", want.Op, want.Name, x.Imm, want.Imm)
		}
		if x.Take != want.Take || x.Leave != want.Leave {
			t.Errorf("Of(%d), %s: takes %d, leaves %d; want %d, %d", want.Op, want.Name, x.Take, x.Leave, want.Take, want.Leave)
		}
		if x.Jumps != want.Jumps || x.Ends != want.Ends {
			t.Errorf("Of(%d), %s: Jumps %t, Ends %t; want %t, %t", want.Op, want.Name, x.Jumps, x.Ends, want.Jumps, want.Ends)
		}
	}
}

// P5.1: ErrNone and nothing else, if there is no such instruction: between families, between a family's own, behind the last one.
func TestOfNone(t *testing.T) {
	none := 0
	for _, o := range everyNumber() {
		if _, ok := row(o); ok {
			continue
		}
		none++
		if x, e := ops.Of(o); e != api.ErrNone || x != (api.Info{}) {
			t.Errorf("Of(%d) is %+v, %v; want ErrNone alone", o, x, e)
		}
	}
	if none != 256-102 {
		t.Errorf("%d numbers are no instruction's", none)
	}
}

// P5.1: what the chapter names: the Imms that lead elsewhere, those behind which nothing goes on, the invokes, which take and leave nothing here.
func TestOfKinds(t *testing.T) {
	ends := " goto ret stableswitch slookupswitch areturn sreturn return athrow "
	for _, o := range everyNumber() {
		x, e := ops.Of(o)
		if e != api.OK {
			continue
		}
		if want := x.Imm == api.ImmJump || x.Imm == api.ImmTable || x.Imm == api.ImmLookup; x.Jumps != want {
			t.Errorf("%s: Jumps is %t", x.Name, x.Jumps)
		}
		if want := strings.Contains(ends, " "+x.Name+" "); x.Ends != want {
			t.Errorf("%s: Ends is %t", x.Name, x.Ends)
		}
		if strings.HasPrefix(x.Name, "invoke") && (x.Take != 0 || x.Leave != 0) {
			t.Errorf("%s: takes %d, leaves %d", x.Name, x.Take, x.Leave)
		}
	}
}

// P5.1, P5.2: the chapter's examples.
func TestExamples(t *testing.T) {
	if x, e := ops.Of(65); x.Name != "sadd" || e != api.OK {
		t.Errorf("Of(65) is %+v, %v", x, e)
	}
	if x, e := ops.Of(9); x != (api.Info{}) || e != api.ErrNone {
		t.Errorf("Of(9) is %+v, %v", x, e)
	}
	if o, e := ops.Named("ifnull"); o != 102 || e != api.OK {
		t.Errorf("Named(ifnull) is %d, %v", o, e)
	}
	if o, e := ops.Named("ifnul"); o != 0 || e != api.ErrNone {
		t.Errorf("Named(ifnul) is %d, %v", o, e)
	}
	if l := ops.All(); len(l) != 102 {
		t.Errorf("All has %d", len(l))
	}
	if ops.Access(123) || !ops.Access(147) {
		t.Errorf("Access(123), Access(147) are %t, %t", ops.Access(123), ops.Access(147))
	}
}

// P5.2: each name's number.
func TestNamed(t *testing.T) {
	for _, want := range rows {
		if o, e := ops.Named(want.Name); o != want.Op || e != api.OK {
			t.Errorf("Named(%q) is %d, %v; want %d", want.Name, o, e, want.Op)
		}
	}
}

// wrongNames: what is made of a name and is none, if it isn't another one's by chance.
func wrongNames(name string) []string {
	l := []string{name + " ", " " + name, name + name, name + "\x00", name + "_", strings.ToUpper(name), strings.ToUpper(name[:1]) + name[1:], strings.ReplaceAll(name, "_", "-"), strings.ReplaceAll(name, "_", " ")}
	for i := range name {
		l = append(l, name[:i], name[i+1:], name[:i]+name[i+1:], name[:i]+" "+name[i:], name[:i]+"\xff"+name[i+1:], name[:i]+"_"+name[i:])
		for _, c := range "abcdefghijklmnopqrstuvwxyz0123456789" {
			l = append(l, name[:i]+string(c)+name[i+1:], name+string(c), string(c)+name)
		}
	}
	for _, x := range rows {
		for _, between := range []string{"", " ", ",", ", ", "\n", "\t", "\x00", "|", ";"} {
			l = append(l, name+between+x.Name)
		}
	}
	return l
}

// P5.2: ErrNone, and no number, of what is no name.
func TestNamedNone(t *testing.T) {
	names := map[string]int{}
	for _, x := range rows {
		names[x.Name]++
	}
	l := []string{"", " ", "  ", ",", "_", "_a", "\x00", "\n", "0", "9", "102", "nop nop", "sconst_m2", "sconst_6", "sconst_", "aload_4", "sload_4", "astore_4", "sstore_4", "if", "if_", "getstatic", "putfield", "getfield_i", "invoke", "invokedynamic", "iadd", "s2i", "sswitch", strings.Repeat("nop", 1000)}
	for _, x := range rows {
		l = append(l, wrongNames(x.Name)...)
	}
	for _, name := range l {
		if names[name] > 0 {
			continue
		}
		if o, e := ops.Named(name); o != 0 || e != api.ErrNone {
			t.Errorf("Named(%q) is %d, %v; want ErrNone alone", name, o, e)
		}
	}
}

// P5.2: all numbers, rising, none twice.
func TestAll(t *testing.T) {
	var want []api.Op
	for _, x := range rows {
		want = append(want, x.Op)
	}
	if l := ops.All(); !slices.Equal(l, want) {
		t.Errorf("All is %d; want %d", l, want)
	}
}

// P5.2: what All answers is new memory each time.
func TestAnswersApart(t *testing.T) {
	a, b := ops.All(), ops.All()
	want := slices.Clone(b)
	a = a[:cap(a)]
	for i := range a {
		a[i] = 200
	}
	if !slices.Equal(b, want) {
		t.Errorf("one answer of All spoils another: %d", b)
	}
	if l := ops.All(); !slices.Equal(l, want) {
		t.Errorf("a spoilt answer of All spoils the next one: %d", l)
	}
	if x, e := ops.Of(149); x != rows[101] || e != api.OK {
		t.Errorf("a spoilt answer of All spoils Of(149): %+v, %v", x, e)
	}
}

// P5.2: of all 256 numbers, those that the chapter names are looked at.
func TestAccess(t *testing.T) {
	for _, o := range everyNumber() {
		if is := ops.Access(o); is != slices.Contains(looked, o) {
			t.Errorf("Access(%d) is %t", o, is)
		}
	}
}

// P5.3: a number's name is the name of that number, a name's number has that name, and All's are the numbers that have one.
func TestBelong(t *testing.T) {
	has := map[api.Op]int{}
	for _, o := range ops.All() {
		has[o]++
	}
	names := map[string]int{}
	for _, o := range everyNumber() {
		x, e := ops.Of(o)
		if (e == api.OK) != (has[o] == 1) {
			t.Errorf("Of(%d) answers %v; in All it stands %d times", o, e, has[o])
		}
		if e != api.OK {
			continue
		}
		names[x.Name]++
		if n, e := ops.Named(x.Name); x.Op != o || n != o || e != api.OK {
			t.Errorf("Of(%d) has the number %d and the name %q, and that one's number is %d, %v", o, x.Op, x.Name, n, e)
		}
	}
	if len(names) != 102 {
		t.Errorf("%d names belong to 102 numbers", len(names))
	}
	for _, want := range rows {
		o, _ := ops.Named(want.Name)
		if x, e := ops.Of(o); x.Name != want.Name || e != api.OK {
			t.Errorf("Named(%q) is %d, whose name is %q, %v", want.Name, o, x.Name, e)
		}
	}
}
