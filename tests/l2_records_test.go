package tests

import (
	"math"
	"regexp"
	"slices"
	"strconv"
	"strings"
	"testing"

	"loop.example/zonefiles/impl"
)

// kindTable is the table of kinds of chapter 2.
var kindTable = []struct {
	kind int
	name string
}{
	{1, "A"}, {2, "NS"}, {5, "CNAME"}, {6, "SOA"}, {12, "PTR"}, {15, "MX"}, {16, "TXT"},
}

// text20 and text21 have all kinds of bytes that a text can have.
const (
	text20 = " !#$%&'()*+,-./09:;<"
	text21 = "=>?@AZ[]^_`az{|}~ ;; "
)

// recordCase is a valid record and its text.
type recordCase struct {
	record impl.Record
	text   string
}

// recordCases returns valid records at the limits and the edges that chapter 2 names.
func recordCases() []recordCase {
	return []recordCase{
		{impl.Record{Name: ".", Kind: 1, Nums: []int{0, 0, 0, 0}}, ". 0 A 0.0.0.0"},
		{impl.Record{Name: ".", Kind: 2, Target: "."}, ". 0 NS ."},
		{impl.Record{Name: ".", Kind: 5, Target: "."}, ". 0 CNAME ."},
		{impl.Record{Name: ".", Kind: 6, Nums: []int{0, 0, 0, 0, 0}, Target: "."}, ". 0 SOA . 0 0 0 0 0"},
		{impl.Record{Name: ".", Kind: 12, Target: "."}, ". 0 PTR ."},
		{impl.Record{Name: ".", Kind: 15, Nums: []int{0}, Target: "."}, ". 0 MX 0 ."},
		{impl.Record{Name: ".", Kind: 16}, ". 0 TXT \"\""},
		{impl.Record{Name: ".", Kind: 16, Text: " "}, ". 0 TXT \" \""},
		{impl.Record{Name: "*.", Ttl: 1, Kind: 16, Text: text20}, "*. 1 TXT \"" + text20 + "\""},
		{impl.Record{Name: "*.", Ttl: 1, Kind: 16, Text: text21[:20]}, "*. 1 TXT \"" + text21[:20] + "\""},
		{impl.Record{Name: name60, Ttl: 100000, Kind: 6, Nums: []int{4294967295, 100000, 100000, 100000, 100000}, Target: name60},
			name60 + " 100000 SOA " + name60 + " 4294967295 100000 100000 100000 100000"},
		{impl.Record{Name: name60, Ttl: 100000, Kind: 15, Nums: []int{999}, Target: name60}, name60 + " 100000 MX 999 " + name60},
		{impl.Record{Name: "b.", Kind: 16, Text: "A"}, "b. 0 TXT \"A\""},
		{impl.Record{Name: "b.", Ttl: 1, Kind: 16, Text: "A"}, "b. 1 TXT \"A\""},
		{impl.Record{Name: "b.", Kind: 16, Text: "AA"}, "b. 0 TXT \"AA\""},
		{impl.Record{Name: "b.", Kind: 16, Text: "B"}, "b. 0 TXT \"B\""},
		{impl.Record{Name: "b.", Kind: 16, Text: "a"}, "b. 0 TXT \"a\""},
		{impl.Record{Name: "a.b.", Ttl: 9, Kind: 1, Nums: []int{1, 2, 3, 4}}, "a.b. 9 A 1.2.3.4"},
		{impl.Record{Name: "a.b.", Ttl: 10, Kind: 1, Nums: []int{1, 2, 3, 4}}, "a.b. 10 A 1.2.3.4"},
		{impl.Record{Name: "a.b.", Ttl: 10, Kind: 1, Nums: []int{1, 2, 3, 10}}, "a.b. 10 A 1.2.3.10"},
		{impl.Record{Name: "a.b.", Kind: 1, Nums: []int{1, 2, 10, 0}}, "a.b. 0 A 1.2.10.0"},
		{impl.Record{Name: "a.b.", Kind: 1, Nums: []int{1, 10, 0, 0}}, "a.b. 0 A 1.10.0.0"},
		{impl.Record{Name: "a.b.", Kind: 1, Nums: []int{9, 255, 255, 255}}, "a.b. 0 A 9.255.255.255"},
		{impl.Record{Name: "a.b.", Kind: 1, Nums: []int{255, 255, 255, 255}}, "a.b. 0 A 255.255.255.255"},
		{impl.Record{Name: "a.b.", Ttl: 300, Kind: 2, Target: "."}, "a.b. 300 NS ."},
		{impl.Record{Name: "a.b.", Ttl: 300, Kind: 2, Target: "ns.b."}, "a.b. 300 NS ns.b."},
		{impl.Record{Name: "a.b.", Ttl: 301, Kind: 2, Target: "ns.b."}, "a.b. 301 NS ns.b."},
		{impl.Record{Name: "a.b.", Ttl: 300, Kind: 2, Target: "a.ns.b."}, "a.b. 300 NS a.ns.b."},
		{impl.Record{Name: "a.b.", Ttl: 300, Kind: 2, Target: "a.c."}, "a.b. 300 NS a.c."},
		{impl.Record{Name: "a.b.", Ttl: 300, Kind: 5, Target: "*.c."}, "a.b. 300 CNAME *.c."},
		{impl.Record{Name: "a.b.", Ttl: 3600, Kind: 6, Nums: []int{7, 10, 20, 30, 40}, Target: "ns.b."}, "a.b. 3600 SOA ns.b. 7 10 20 30 40"},
		{impl.Record{Name: "a.b.", Ttl: 3600, Kind: 6, Nums: []int{7, 10, 20, 30, 41}, Target: "a.b."}, "a.b. 3600 SOA a.b. 7 10 20 30 41"},
		{impl.Record{Name: "a.b.", Ttl: 3600, Kind: 6, Nums: []int{10, 1, 1, 1, 1}, Target: "."}, "a.b. 3600 SOA . 10 1 1 1 1"},
		{impl.Record{Name: "a.b.", Ttl: 300, Kind: 12, Target: "b."}, "a.b. 300 PTR b."},
		{impl.Record{Name: "a.b.", Ttl: 300, Kind: 15, Nums: []int{5}, Target: "z."}, "a.b. 300 MX 5 z."},
		{impl.Record{Name: "a.b.", Ttl: 300, Kind: 15, Nums: []int{10}, Target: "mail.a.b."}, "a.b. 300 MX 10 mail.a.b."},
		{impl.Record{Name: "a.b.", Ttl: 300, Kind: 16, Text: "hello x"}, "a.b. 300 TXT \"hello x\""},
		{impl.Record{Name: "*.a.b.", Ttl: 300, Kind: 1, Nums: []int{9, 9, 9, 9}}, "*.a.b. 300 A 9.9.9.9"},
		{impl.Record{Name: "www.a.b.", Ttl: 300, Kind: 1, Nums: []int{1, 2, 3, 4}}, "www.a.b. 300 A 1.2.3.4"},
		{impl.Record{Name: "a.c.", Kind: 1, Nums: []int{0, 0, 0, 0}}, "a.c. 0 A 0.0.0.0"},
	}
}

// changed returns r with some change; r stays as it is, as its numbers are copied first.
func changed(r impl.Record, change func(r *impl.Record)) impl.Record {
	r.Nums = slices.Clone(r.Nums)
	change(&r)
	return r
}

// invalidRecords returns records that are each not valid for one reason, but for a few.
func invalidRecords() []impl.Record {
	list := []impl.Record{{}, {Name: "b."}, {Kind: 16}, {Name: "b.", Kind: 2}}
	put := func(r impl.Record, change func(r *impl.Record)) { list = append(list, changed(r, change)) }
	for _, c := range recordCases() {
		for _, name := range invalidNames {
			put(c.record, func(r *impl.Record) { r.Name = name })
		}
		for _, ttl := range []int{-1, 100001, 4294967296, math.MinInt, math.MaxInt} {
			put(c.record, func(r *impl.Record) { r.Ttl = ttl })
		}
		for _, kind := range []int{0, -1, 3, 4, 7, 11, 13, 14, 17, 257, math.MinInt, math.MaxInt} {
			put(c.record, func(r *impl.Record) { r.Kind = kind })
		}
		put(c.record, func(r *impl.Record) { r.Nums = append(r.Nums, 0) })
		put(c.record, func(r *impl.Record) { r.Nums = append(r.Nums, 1) })
		put(c.record, func(r *impl.Record) { r.Nums = make([]int, 100) })
		for i := range c.record.Nums {
			put(c.record, func(r *impl.Record) { r.Nums = slices.Delete(r.Nums, i, i+1) })
			for _, n := range []int{-1, greatestNum(c.record.Kind, i) + 1, 4294967296, math.MinInt, math.MaxInt} {
				put(c.record, func(r *impl.Record) { r.Nums[i] = n })
			}
		}
		if c.record.Target == "" {
			put(c.record, func(r *impl.Record) { r.Target = "." })
			put(c.record, func(r *impl.Record) { r.Target = "x" })
		} else {
			for _, target := range invalidNames {
				put(c.record, func(r *impl.Record) { r.Target = target })
			}
		}
		if c.record.Kind != 16 {
			put(c.record, func(r *impl.Record) { r.Text = "a" })
		}
	}
	for _, text := range []string{text21, "\"", "\\", "a\"", "\\a", "\x1f", "\x7f", "\n", "\x00", "\xff", "é", strings.Repeat("é", 11), strings.Repeat("a", 100000)} {
		put(impl.Record{Name: "b.", Kind: 16}, func(r *impl.Record) { r.Text = text })
	}
	return list
}

// greatestNum returns the greatest number that a record can have at a place.
func greatestNum(kind int, place int) int {
	switch {
	case kind == 1:
		return 255
	case kind == 15:
		return 999
	case place == 0:
		return 4294967295
	}
	return 100000
}

// recordPattern is chapter 2's definition of the text of a record, but for names and the greatest serial.
var recordPattern = regexp.MustCompile(strings.NewReplacer(
	"OWNER", "[a-z0-9_.*-]+",
	"TTL", "0|[1-9][0-9]{0,4}|100000",
	"PART", "[0-9]|[1-9][0-9]|1[0-9][0-9]|2[0-4][0-9]|25[0-5]",
).Replace(`\A(OWNER) (?:TTL) ` +
	`(?:A (?:PART)\.(?:PART)\.(?:PART)\.(?:PART)` +
	`|(?:NS|CNAME|PTR) (OWNER)` +
	`|SOA (OWNER) (0|[1-9][0-9]{0,9}) (?:TTL) (?:TTL) (?:TTL) (?:TTL)` +
	`|MX (?:0|[1-9][0-9]{0,2}) (OWNER)` +
	`|TXT "[ !#-\[\]-~]{0,20}")\z`))

// isRecordText tells by chapter 2's definition whether a record has this text.
func isRecordText(text string) bool {
	parts := recordPattern.FindStringSubmatch(text)
	if parts == nil || !isName(parts[1]) {
		return false
	}
	for _, target := range []string{parts[2], parts[3], parts[5]} {
		if target != "" && !isName(target) {
			return false
		}
	}
	serial, err := strconv.Atoi("0" + parts[4])
	return err == nil && serial <= 4294967295
}

// sameRecord reports whether two records are equal, without the package.
func sameRecord(a impl.Record, b impl.Record) bool {
	return a.Name == b.Name && a.Ttl == b.Ttl && a.Kind == b.Kind && slices.Equal(a.Nums, b.Nums) && a.Target == b.Target && a.Text == b.Text
}

// checkNoRecord reports a text that is read as a record.
func checkNoRecord(t *testing.T, text string) {
	t.Helper()
	if r, ok := impl.ParseRecord(text); ok || !sameRecord(r, impl.Record{}) {
		t.Errorf("ParseRecord(%.200q) = %v, %v", text, r, ok)
	}
}

func TestRecordConstants(t *testing.T) {
	kinds := []int{impl.KindA, impl.KindNs, impl.KindCname, impl.KindSoa, impl.KindPtr, impl.KindMx, impl.KindTxt}
	if !slices.Equal(kinds, []int{1, 2, 5, 6, 12, 15, 16}) {
		t.Errorf("the kinds are %v", kinds)
	}
	if impl.MaxTtl != 100000 || impl.MaxSerial != 4294967295 || impl.MaxText != 20 {
		t.Error("a limit of records is not as the document says")
	}
	if len(text20) != 20 || len(text21) != 21 {
		t.Error("a text of the tests has not the length that it is meant to have")
	}
}

func TestKinds(t *testing.T) {
	names := map[int]string{}
	for _, row := range kindTable {
		names[row.kind] = row.name
		if kind, ok := impl.KindOf(row.name); !ok || kind != row.kind {
			t.Errorf("KindOf(%q) = %d, %v", row.name, kind, ok)
		}
	}
	for kind := -300; kind <= 300; kind++ {
		if got := impl.KindName(kind); got != names[kind] {
			t.Errorf("KindName(%d) = %q", kind, got)
		}
	}
	for _, kind := range []int{math.MinInt, math.MaxInt, 4294967297, 65537} {
		if got := impl.KindName(kind); got != "" {
			t.Errorf("KindName(%d) = %q", kind, got)
		}
	}
	for _, name := range []string{"", "a", "Ns", "NSX", "N", "X", "A ", " A", "A\n", "AAAA", "CNAM", "CNAMES", "soa", "1", ".", "\xff", strings.Repeat("A", 100000)} {
		if kind, ok := impl.KindOf(name); ok || kind != 0 {
			t.Errorf("KindOf(%.100q) = %d, %v", name, kind, ok)
		}
	}
}

func TestRecordValid(t *testing.T) {
	for _, c := range recordCases() {
		if !impl.RecordValid(c.record) {
			t.Errorf("RecordValid(%v) = false", c.record)
		}
		empty := changed(c.record, func(r *impl.Record) { r.Nums = append([]int{}, r.Nums...) })
		if !impl.RecordValid(empty) {
			t.Errorf("RecordValid(%#v) = false", empty)
		}
		other := changed(c.record, func(r *impl.Record) { r.Ttl = 100000 - r.Ttl })
		if !impl.RecordValid(other) {
			t.Errorf("RecordValid(%v) = false", other)
		}
	}
	for _, r := range invalidRecords() {
		if impl.RecordValid(r) {
			t.Errorf("RecordValid(%v) = true", r)
		}
	}
}

func TestRecordValidOfEachName(t *testing.T) {
	for _, name := range validNames {
		for _, kind := range []int{2, 5, 12} {
			if !impl.RecordValid(impl.Record{Name: name, Kind: kind, Target: name}) {
				t.Errorf("RecordValid accepts no record of kind %d with %q", kind, name)
			}
		}
	}
}

func TestRecordValidOfEachNumber(t *testing.T) {
	for _, c := range recordCases() {
		for i := range c.record.Nums {
			most := greatestNum(c.record.Kind, i)
			for _, n := range []int{0, 1, 255, 256, 257, 999, 1000, 99999, 100000, 100001, 4294967295, most, most + 1, -1} {
				r := changed(c.record, func(r *impl.Record) { r.Nums[i] = n })
				if got := impl.RecordValid(r); got != (0 <= n && n <= most) {
					t.Errorf("RecordValid(%v) = %v", r, got)
				}
			}
		}
	}
}

func TestRecordValidOfEachByteOfText(t *testing.T) {
	for b := range 256 {
		want := 32 <= b && b <= 126 && b != '"' && b != '\\'
		for _, text := range []string{string([]byte{byte(b)}), "a" + string([]byte{byte(b)}), string([]byte{byte(b)}) + "a"} {
			if got := impl.RecordValid(impl.Record{Name: "b.", Kind: 16, Text: text}); got != want {
				t.Errorf("RecordValid with the text %q = %v", text, got)
			}
		}
	}
	for n := range 40 {
		r := impl.Record{Name: "b.", Kind: 16, Text: strings.Repeat("a", n)}
		if got := impl.RecordValid(r); got != (n <= 20) {
			t.Errorf("RecordValid(%v) = %v", r, got)
		}
	}
}

func TestRecordSameAndSameData(t *testing.T) {
	list := invalidRecords()
	for _, c := range recordCases() {
		list = append(list, c.record)
	}
	for _, r := range list {
		equal := changed(r, func(r *impl.Record) {})
		if !impl.RecordSame(r, equal) || !impl.SameData(r, equal) {
			t.Fatalf("%v is not the same as itself", r)
		}
		for _, change := range []func(r *impl.Record){
			func(r *impl.Record) { r.Name += "." },
			func(r *impl.Record) { r.Name = "q" + r.Name },
			func(r *impl.Record) { r.Ttl ^= 1 },
		} {
			other := changed(r, change)
			if impl.RecordSame(r, other) || impl.RecordSame(other, r) || !impl.SameData(r, other) || !impl.SameData(other, r) {
				t.Fatalf("RecordSame or SameData of %v and %v is wrong", r, other)
			}
		}
		for _, change := range []func(r *impl.Record){
			func(r *impl.Record) { r.Kind ^= 1 },
			func(r *impl.Record) { r.Nums = append(r.Nums, 0) },
			func(r *impl.Record) { r.Nums = append([]int{-1}, r.Nums...) },
			func(r *impl.Record) { r.Target += "." },
			func(r *impl.Record) { r.Text += "\x00" },
		} {
			other := changed(r, change)
			if impl.RecordSame(r, other) || impl.RecordSame(other, r) || impl.SameData(r, other) || impl.SameData(other, r) {
				t.Fatalf("RecordSame or SameData of %v and %v is wrong", r, other)
			}
		}
		for i := range r.Nums {
			other := changed(r, func(r *impl.Record) { r.Nums[i]++ })
			if impl.RecordSame(r, other) || impl.SameData(r, other) {
				t.Fatalf("RecordSame or SameData of %v and %v is wrong", r, other)
			}
		}
	}
	if !impl.RecordSame(impl.Record{Nums: []int{}}, impl.Record{}) || !impl.SameData(impl.Record{}, impl.Record{Nums: []int{}}) {
		t.Error("no numbers and nil are not the same")
	}
}

func TestRecordSameAsDefined(t *testing.T) {
	cases := recordCases()
	for i, a := range cases {
		for j, b := range cases {
			if got := impl.RecordSame(a.record, b.record); got != (i == j) {
				t.Errorf("RecordSame(%q, %q) = %v", a.text, b.text, got)
			}
		}
	}
}

func TestRecordTexts(t *testing.T) {
	for _, c := range recordCases() {
		if got := impl.FormatRecord(c.record); got != c.text {
			t.Errorf("FormatRecord(%v) = %q; want %q", c.record, got, c.text)
		}
		if got, ok := impl.ParseRecord(c.text); !ok || !sameRecord(got, c.record) {
			t.Errorf("ParseRecord(%q) = %v, %v; want %v", c.text, got, ok, c.record)
		}
	}
	for _, r := range invalidRecords() {
		if got := impl.FormatRecord(r); got != "" {
			t.Errorf("FormatRecord(%v) = %q", r, got)
		}
	}
}

func TestParseRecordOfInvalidTexts(t *testing.T) {
	for _, text := range []string{
		"", " ", "  ", "   ", "\"\"", "a.b.", "a.b. ", "a.b. 300", "a.b. 300 ", "a.b. 300 A", "a.b. 300 A ", "a.b. 300 TXT", "a.b. 300 TXT ",
		"a.b. 300 NS", "a.b. 300 NS ", "a.b. 300 SOA", "a.b. 300 SOA ", "a.b. 300 MX", "a.b. 300 MX ", "a.b. A 1.2.3.4", " 300 A 1.2.3.4",
		"a.b. 300 A 1.2.3.4 ", " a.b. 300 A 1.2.3.4", "a.b.  300 A 1.2.3.4", "a.b. 300  A 1.2.3.4", "a.b. 300 A  1.2.3.4", "a.b. 300 A 1.2.3.4\n",
		"a.b.\t300 A 1.2.3.4", "a.b. 300 IN A 1.2.3.4", "a.b. 300 a 1.2.3.4", "a.b. 300 1 1.2.3.4", "a.b. 300  1.2.3.4", "a.b. 300 X b.",
		"a.b 300 A 1.2.3.4", "A.b. 300 A 1.2.3.4", "@ 300 A 1.2.3.4", "a.*. 300 A 1.2.3.4", name61 + " 300 A 1.2.3.4", labels9 + " 300 A 1.2.3.4",
		"a.b. 100001 A 1.2.3.4", "a.b. -1 A 1.2.3.4", "a.b. +1 A 1.2.3.4", "a.b. 01 A 1.2.3.4", "a.b. 00 A 1.2.3.4", "a.b. -0 A 1.2.3.4",
		"a.b. 0x1 A 1.2.3.4", "a.b. 1_0 A 1.2.3.4", "a.b. 1e2 A 1.2.3.4", "a.b. 1.0 A 1.2.3.4", "a.b. \u0663 A 1.2.3.4", "a.b. x A 1.2.3.4",
		"a.b. 18446744073709551616 A 1.2.3.4", "a.b. 18446744073709551617 A 1.2.3.4", "a.b. 9223372036854775808 A 1.2.3.4",
		"a.b. 300 A 1.2.3", "a.b. 300 A 1.2.3.", "a.b. 300 A .1.2.3", "a.b. 300 A 1.2.3.4.", "a.b. 300 A 1.2.3.4.5", "a.b. 300 A 1..3.4",
		"a.b. 300 A 256.2.3.4", "a.b. 300 A 1.256.3.4", "a.b. 300 A 1.2.256.4", "a.b. 300 A 1.2.3.256", "a.b. 300 A 1.2.3.04", "a.b. 300 A 1.2.3.00",
		"a.b. 300 A 1.2.3.-4", "a.b. 300 A 1.2.3.+4", "a.b. 300 A 1 2 3 4", "a.b. 300 A 1.2.3 4", "a.b. 300 A 1.2.3.4 5", "a.b. 300 A 1.2.3.4 b.",
		"a.b. 300 A b.", "a.b. 300 A \"1.2.3.4\"", "a.b. 300 A 1.2.3.18446744073709551620",
		"a.b. 300 NS ns", "a.b. 300 NS NS.b.", "a.b. 300 NS @", "a.b. 300 NS ns.b. ", "a.b. 300 NS ns.b. 1", "a.b. 300 NS ns.b. c.", "a.b. 300 NS  ns.b.",
		"a.b. 300 NS 1 ns.b.", "a.b. 300 NS " + name61, "a.b. 300 CNAME x", "a.b. 300 CNAME .. ", "a.b. 300 CNAME . .", "a.b. 300 PTR a.*.", "a.b. 300 PTR \".\"",
		"a.b. 300 SOA b. 1 2 3 4", "a.b. 300 SOA b. 1 2 3 4 5 6", "a.b. 300 SOA b. 1 2 3 4 5 ", "a.b. 300 SOA b. 1 2 3 4 ", "a.b. 300 SOA 1 2 3 4 5 b.",
		"a.b. 300 SOA b 1 2 3 4 5", "a.b. 300 SOA  1 2 3 4 5", "a.b. 300 SOA 1 2 3 4 5", "a.b. 300 SOA b. 4294967296 2 3 4 5", "a.b. 300 SOA b. -1 2 3 4 5",
		"a.b. 300 SOA b. 1 100001 3 4 5", "a.b. 300 SOA b. 1 2 100001 4 5", "a.b. 300 SOA b. 1 2 3 100001 5", "a.b. 300 SOA b. 1 2 3 4 100001",
		"a.b. 300 SOA b. 01 2 3 4 5", "a.b. 300 SOA b. 1.2.3.4.5", "a.b. 300 SOA b.  1 2 3 4 5", "a.b. 300 SOA b. 18446744073709551617 2 3 4 5",
		"a.b. 300 MX b.", "a.b. 300 MX 10", "a.b. 300 MX 10 ", "a.b. 300 MX  b.", "a.b. 300 MX 1000 b.", "a.b. 300 MX -1 b.", "a.b. 300 MX 010 b.",
		"a.b. 300 MX b. 10", "a.b. 300 MX 10 b. ", "a.b. 300 MX 10  b.", "a.b. 300 MX 10 20 b.", "a.b. 300 MX 10 b", "a.b. 300 MX 10 b. c.", "a.b. 300 MX 10 b. 5",
		"a.b. 300 TXT x", "a.b. 300 TXT \"x", "a.b. 300 TXT x\"", "a.b. 300 TXT \"", "a.b. 300 TXT \"\"\"", "a.b. 300 TXT \"\"\"\"", "a.b. 300 TXT \"a\"b\"",
		"a.b. 300 TXT \"a\\b\"", "a.b. 300 TXT \"a\" ", "a.b. 300 TXT  \"a\"", "a.b. 300 TXT \"a\" \"b\"", "a.b. 300 TXT 'a'", "a.b. 300 TXT \"\n\"",
		"a.b. 300 TXT \"é\"", "a.b. 300 TXT \"\xff\"", "a.b. 300 TXT \"" + text21 + "\"", "a.b. 300 TXT \"" + strings.Repeat("a", 100000) + "\"",
		strings.Repeat(" ", 100000), strings.Repeat("a", 100000), "a.b. 300 SOA b." + strings.Repeat(" 1", 100000), "a.b. 300 A 1" + strings.Repeat(".1", 100000),
		"a.b. 300 NS" + strings.Repeat(" b.", 100000), "a.b. " + strings.Repeat("9", 100000) + " A 1.2.3.4", "a.b. " + strings.Repeat("0", 100000) + " A 1.2.3.4",
	} {
		checkNoRecord(t, text)
	}
}

// nearTexts returns texts that differ from text in one place.
func nearTexts(text string) []string {
	var near []string
	for i := range len(text) + 1 {
		near = append(near, text[:i])
		for _, put := range []string{" ", ".", "\"", "\\", "0", "1", "9", "a", "A", "*", "-", "+", "@", ";", "\n", "\x00", "\x7f", "\xff", " 0", " .", ".0", " 1 "} {
			near = append(near, text[:i]+put+text[i:])
			if i < len(text) {
				near = append(near, text[:i]+put+text[i+1:])
			}
		}
		if i < len(text) {
			near = append(near, text[:i]+text[i+1:], text[i:])
		}
	}
	fields := strings.Split(text, " ")
	for i := range fields {
		near = append(near, strings.Join(slices.Delete(slices.Clone(fields), i, i+1), " "))
		for _, row := range kindTable {
			near = append(near, strings.Join(slices.Concat(fields[:i], []string{row.name}, fields[i+1:]), " "))
		}
		for j := range i {
			swapped := slices.Clone(fields)
			swapped[i], swapped[j] = swapped[j], swapped[i]
			near = append(near, strings.Join(swapped, " "))
		}
	}
	return near
}

func TestParseRecordAsDefined(t *testing.T) {
	for _, c := range recordCases() {
		for _, text := range append(nearTexts(c.text), c.text) {
			if !isRecordText(text) {
				checkNoRecord(t, text)
				continue
			}
			r, ok := impl.ParseRecord(text)
			if !ok || !impl.RecordValid(r) || impl.FormatRecord(r) != text {
				t.Fatalf("ParseRecord(%q) = %v, %v", text, r, ok)
			}
		}
	}
}

func TestRecordBeforeInARow(t *testing.T) {
	cases := recordCases()
	slices.SortFunc(cases, func(a, b recordCase) int { return compareRecords(a.record, b.record) })
	for i, a := range cases {
		for j, b := range cases {
			if got := impl.RecordBefore(a.record, b.record); got != (i < j) {
				t.Errorf("RecordBefore(%q, %q) = %v", a.text, b.text, got)
			}
		}
	}
}

// compareRecords is chapter 2's definition of the order of valid records.
func compareRecords(a impl.Record, b impl.Record) int {
	for _, order := range []int{
		compareNames(a.Name, b.Name), a.Kind - b.Kind, slices.Compare(a.Nums, b.Nums),
		compareNames(a.Target, b.Target), strings.Compare(a.Text, b.Text), a.Ttl - b.Ttl,
	} {
		if order != 0 {
			return order
		}
	}
	return 0
}

// compareNames compares the labels of names from the last one on.
func compareNames(a string, b string) int {
	first, second := plainLabels(a), plainLabels(b)
	slices.Reverse(first)
	slices.Reverse(second)
	return slices.Compare(first, second)
}

func TestRecordBeforeComparesInTurn(t *testing.T) {
	for _, row := range [][]string{
		{". 9 TXT \"z\"", "z.a. 0 A 0.0.0.0", "aa. 9 A 1.1.1.1", "*.b. 9 A 0.0.0.0", "a.b. 9 A 0.0.0.0", "c. 0 A 0.0.0.0"},
		{"a. 9 A 9.9.9.9", "a. 8 NS z.", "a. 7 CNAME y.", "a. 6 SOA x. 9 9 9 9 9", "a. 5 PTR w.", "a. 4 MX 9 v.", "a. 3 TXT \"\""},
		{"a. 9 A 1.9.9.9", "a. 8 A 2.1.9.9", "a. 7 A 2.2.1.9", "a. 6 A 2.2.2.1", "a. 5 A 2.2.2.2", "a. 4 A 10.0.0.0"},
		{"a. 9 SOA z. 1 9 9 9 9", "a. 8 SOA y. 2 1 9 9 9", "a. 7 SOA x. 2 2 1 9 9", "a. 6 SOA w. 2 2 2 1 9", "a. 5 SOA v. 2 2 2 2 1", "a. 4 SOA u. 2 2 2 2 2", "a. 3 SOA a.u. 2 2 2 2 2", "a. 3 SOA . 4294967295 0 0 0 0"},
		{"a. 9 MX 2 z.", "a. 8 MX 10 .", "a. 7 MX 10 b.", "a. 6 MX 10 z.b.", "a. 5 MX 10 a.c."},
		{"a. 9 NS .", "a. 8 NS b.", "a. 7 NS z.b.", "a. 6 NS a.c."},
		{"a. 9 TXT \"\"", "a. 8 TXT \" \"", "a. 7 TXT \"10\"", "a. 6 TXT \"9\"", "a. 5 TXT \"B\"", "a. 4 TXT \"a\"", "a. 3 TXT \"aa\"", "a. 2 TXT \"~\""},
		{"a. 9 A 1.2.3.4", "a. 10 A 1.2.3.4", "a. 100000 A 1.2.3.4"},
	} {
		for i, first := range row {
			for j, second := range row {
				a, aRead := impl.ParseRecord(first)
				b, bRead := impl.ParseRecord(second)
				if got := impl.RecordBefore(a, b); !aRead || !bRead || got != (i < j) {
					t.Errorf("RecordBefore(%q, %q) = %v", first, second, got)
				}
			}
		}
	}
}

func TestRecordBeforeNeedsValidRecords(t *testing.T) {
	first := impl.Record{Name: ".", Kind: 1, Nums: []int{0, 0, 0, 0}}
	last := impl.Record{Name: "zz.", Ttl: 100000, Kind: 16, Text: "~~"}
	for _, bad := range invalidRecords() {
		for _, good := range []impl.Record{first, last, bad} {
			if impl.RecordBefore(bad, good) || impl.RecordBefore(good, bad) {
				t.Errorf("RecordBefore accepts %v with %v", bad, good)
			}
		}
	}
}

func TestRecordsAreNew(t *testing.T) {
	for _, c := range recordCases() {
		first, _ := impl.ParseRecord(c.text)
		second, _ := impl.ParseRecord(c.text)
		all := first.Nums[:cap(first.Nums)]
		for i := range all {
			all[i] = -7
		}
		if !sameRecord(second, c.record) {
			t.Errorf("a result changed to %v", second)
		}
		if third, ok := impl.ParseRecord(c.text); !ok || !sameRecord(third, c.record) {
			t.Errorf("ParseRecord(%q) = %v after its result was written to", c.text, third)
		}
	}
}

func TestRecordsAreNotChanged(t *testing.T) {
	for _, c := range recordCases() {
		for _, given := range []impl.Record{c.record, changed(c.record, func(r *impl.Record) { r.Nums = append(r.Nums, -1) })} {
			nums := append(slices.Clone(given.Nums), 11, 12, 13, 14, 15, 16)
			r := given
			r.Nums = nums[:len(given.Nums)]
			impl.RecordValid(r)
			impl.RecordSame(r, r)
			impl.SameData(r, r)
			impl.FormatRecord(r)
			impl.RecordBefore(r, r)
			if !slices.Equal(nums, append(slices.Clone(given.Nums), 11, 12, 13, 14, 15, 16)) {
				t.Errorf("the numbers of %v changed to %v", given, nums)
			}
		}
	}
}
