package tests

import (
	"math"
	"slices"
	"strconv"
	"strings"
	"testing"

	"loop.example/zonefiles/impl"
)

// startText is the start of the zones of these tests, and startLine the line of it in a master file.
const (
	startText = "a.b. 3600 SOA ns.b. 7 10 20 30 40"
	startLine = "@ 3600 SOA ns.b. 7 10 20 30 40\n"
)

// zoneTexts are the records of a zone with all kinds and with names of several levels, in order.
var zoneTexts = []string{
	"a.b. 60 NS a.b.", "a.b. 60 NS ns.a.b.", startText, "a.b. 300 MX 5 mail.a.b.", "a.b. 300 MX 10 a.b.", "a.b. 0 TXT \"\"", "a.b. 0 TXT \"a.b.\"",
	"*.a.b. 300 A 9.9.9.9", "al.a.b. 300 CNAME www.a.b.", "sub.a.b. 300 NS ns.sub.a.b.", "*.sub.a.b. 5 CNAME c.", "ns.sub.a.b. 300 A 5.6.7.8",
	"www.a.b. 300 A 1.2.3.4", "www.a.b. 300 A 1.2.3.5", "www.a.b. 100000 PTR c.", "www.a.b. 60 TXT \"x; y\"",
}

// zoneOf returns the zone of texts, as they are.
func zoneOf(t *testing.T, origin string, texts ...string) impl.Zone {
	t.Helper()
	return impl.Zone{Origin: origin, Records: recordsOf(t, texts...)}
}

// sameZone reports whether two zones are equal, without the package.
func sameZone(a impl.Zone, b impl.Zone) bool {
	return a.Origin == b.Origin && sameRecords(a.Records, b.Records)
}

// copyZone returns a zone that shares nothing with z.
func copyZone(z impl.Zone) impl.Zone {
	made := impl.Zone{Origin: z.Origin}
	for _, r := range z.Records {
		made.Records = append(made.Records, changed(r, func(r *impl.Record) {}))
	}
	return made
}

// startAt returns the text of the start of a zone.
func startAt(origin string) string { return origin + " 0 SOA . 1 2 3 4 5" }

// hostTexts returns the texts of n addresses of different names below a.b., in order.
func hostTexts(n int) []string {
	var texts []string
	for i := range n {
		texts = append(texts, "h"+strconv.Itoa(100+i)+".a.b. 300 A 1.1.1.1")
	}
	return texts
}

// bigZone returns a zone with n records, which are the start and addresses.
func bigZone(t *testing.T, n int) impl.Zone {
	t.Helper()
	return zoneOf(t, "a.b.", append([]string{startText}, hostTexts(n-1)...)...)
}

// zoneCases returns valid zones at the limits and the edges that chapter 4 names.
func zoneCases(t *testing.T) []impl.Zone {
	t.Helper()
	cases := []impl.Zone{
		zoneOf(t, "a.b.", startText),
		zoneOf(t, "a.b.", zoneTexts...),
		zoneOf(t, "a.b.", startText, "www.a.b. 300 A 1.2.3.4"),
		zoneOf(t, ".", startAt("."), "*. 1 CNAME .", "a. 1 CNAME .", "*.a. 2 NS .", "b.c. 3 A 0.0.0.0"),
		zoneOf(t, ".", ". 5 NS .", startAt("."), ". 6 PTR .", ". 6 PTR a."),
		zoneOf(t, "*.a.", "*.a. 1 A 1.2.3.4", startAt("*.a.")),
		zoneOf(t, "a.", startAt("a."), "*.a. 1 A 1.2.3.4", "*.a. 2 NS .", "x.a. 3 NS ."),
		bigZone(t, 59), bigZone(t, 60),
	}
	for _, name := range validNames {
		cases = append(cases, zoneOf(t, name, startAt(name)), zoneOf(t, name, name+" 9 NS "+name, name+" 100000 SOA "+name+" 4294967295 0 0 0 0", name+" 8 TXT \"\""))
	}
	return cases
}

// faultCase is a zone that is not valid, and its first fault.
type faultCase struct {
	zone  impl.Zone
	code  int
	place int
}

// faultCases returns zones with each fault, in each order.
func faultCases(t *testing.T) []faultCase {
	t.Helper()
	var cases []faultCase
	put := func(code int, place int, z impl.Zone) { cases = append(cases, faultCase{z, code, place}) }
	at := func(code int, place int, texts ...string) { put(code, place, zoneOf(t, "a.b.", texts...)) }
	putOriginFaults(t, put)
	putRecordFaults(t, put)
	at(3, 0, "b. 1 A 1.2.3.4")
	at(3, 0, "xa.b. 1 A 1.2.3.4")
	at(3, 0, "b.a. 1 A 1.2.3.4", startText)
	at(3, 0, ". 1 A 1.2.3.4", startText)
	at(3, 1, startText, "c. 1 A 1.2.3.4")
	at(3, 1, startText, "b. 1 A 1.2.3.4", startText)
	at(3, 1, "x.a.b. 1 A 1.2.3.4", "b. 1 SOA . 1 2 3 4 5", startText)
	at(3, 0, "b. 1 SOA . 1 2 3 4 5")
	at(4, 1, startText, startText)
	at(4, 1, "www.a.b. 300 A 1.2.3.4", startText)
	at(4, 1, startText, "a.b. 60 NS a.b.", "c. 1 A 1.2.3.4")
	at(4, 1, "a.b. 1 A 1.2.3.4", "a.b. 1 A 1.2.3.4")
	at(4, 1, "a.b. 2 A 1.2.3.4", "a.b. 1 A 1.2.3.4", startText)
	at(4, 2, startText, "www.a.b. 300 A 1.2.3.4", "www.a.b. 300 A 1.2.3.4")
	at(4, 2, startText, "www.a.b. 300 A 1.2.3.5", "www.a.b. 300 A 1.2.3.4")
	at(4, 2, startText, "www.a.b. 300 A 10.2.3.4", "www.a.b. 300 A 9.2.3.4", startText)
	at(4, 2, "x.a.b. 1 CNAME .", "x.x.a.b. 1 CNAME .", "x.a.b. 1 CNAME .")
	at(4, 3, "a.b. 60 NS .", startText, "x.a.b. 1 NS .", "x.a.b. 1 A 1.2.3.4", "www.a.b. 1 A 1.2.3.4")
	at(5, 0)
	at(5, 0, "a.b. 1 A 1.2.3.4")
	at(5, 0, "www.a.b. 300 A 1.2.3.4", "www.a.b. 60 A 1.2.3.5")
	at(5, 0, "a.b. 1 A 1.2.3.4", "a.b. 1 CNAME .")
	at(5, 0, "x.a.b. 1 SOA . 1 2 3 4 5")
	at(5, 1, "a.b. 1 A 1.2.3.4", "x.a.b. 1 SOA . 1 2 3 4 5", "a.b. 1 A 1.2.3.4")
	at(5, 1, startText, "*.a.b. 1 SOA . 1 2 3 4 5")
	at(5, 1, startText, "a.b. 3600 SOA ns.b. 8 10 20 30 40")
	at(5, 1, startText, "a.b. 3601 SOA ns.b. 7 10 20 30 40")
	at(5, 2, "a.b. 60 NS .", startText, "a.b. 60 SOA ns.b. 8 10 20 30 40", "c. 1 A 1.2.3.4")
	at(5, 2, "a.b. 60 NS .", startText, "x.a.b. 3600 SOA . 7 10 20 30 40")
	at(6, 1, "a.b. 60 NS .", "a.b. 61 NS ns.a.b.", startText)
	at(6, 2, startText, "www.a.b. 300 A 1.2.3.4", "www.a.b. 60 A 1.2.3.5")
	at(6, 2, startText, "www.a.b. 300 A 1.2.3.4", "www.a.b. 301 A 1.2.3.4")
	at(6, 2, startText, "www.a.b. 0 TXT \"a\"", "www.a.b. 100000 TXT \"b\"", "www.a.b. 7 TXT \"c\"")
	at(6, 3, startText, "www.a.b. 5 TXT \"a\"", "www.a.b. 5 TXT \"b\"", "www.a.b. 7 TXT \"c\"")
	at(6, 4, startText, "w.a.b. 5 A 1.1.1.1", "w.a.b. 6 NS .", "w.a.b. 7 MX 1 .", "w.a.b. 8 MX 2 .")
	at(6, 2, startText, "x.a.b. 300 CNAME a.", "x.a.b. 301 CNAME b.")
	at(6, 2, startText, "w.a.b. 1 A 1.1.1.1", "w.a.b. 2 A 1.1.1.2", "w.a.b. 1 CNAME .")
	at(6, 2, startText, "w.a.b. 1 A 1.1.1.1", "w.a.b. 2 A 1.1.1.2", "x.a.b. 1 A 1.1.1.1", "x.a.b. 1 CNAME .")
	at(7, 1, "a.b. 1 CNAME c.", startText)
	at(7, 1, "a.b. 1 A 1.1.1.1", "a.b. 1 CNAME c.", startText)
	at(7, 2, startText, "www.a.b. 300 A 1.2.3.4", "www.a.b. 60 CNAME b.")
	at(7, 2, startText, "www.a.b. 300 CNAME a.", "www.a.b. 300 CNAME b.")
	at(7, 2, startText, "www.a.b. 300 CNAME a.", "www.a.b. 300 TXT \"\"")
	at(7, 2, startText, "w.a.b. 1 CNAME .", "w.a.b. 1 TXT \"a\"", "w.a.b. 2 TXT \"b\"")
	at(7, 3, startText, "w.a.b. 1 A 1.1.1.1", "w.a.b. 1 A 1.1.1.2", "w.a.b. 1 CNAME .", "w.a.b. 2 CNAME a.")
	at(7, 3, startText, "w.a.b. 1 NS .", "x.a.b. 1 CNAME .", "x.a.b. 1 PTR .", "y.a.b. 1 TXT \"a\"", "y.a.b. 2 TXT \"b\"")
	return cases
}

// putOriginFaults puts zones whose origin is no name.
func putOriginFaults(t *testing.T, put func(int, int, impl.Zone)) {
	t.Helper()
	for _, name := range invalidNames {
		put(1, 0, zoneOf(t, name))
		put(1, 0, zoneOf(t, name, startText))
		put(1, 0, zoneOf(t, name, "c. 1 A 1.2.3.4", "a.b. 1 A 1.2.3.4", startText, startText))
		put(1, 0, impl.Zone{Origin: name, Records: []impl.Record{{}, {}}})
	}
	put(1, 0, impl.Zone{})
}

// putRecordFaults puts zones with records that are not valid, or with too many.
func putRecordFaults(t *testing.T, put func(int, int, impl.Zone)) {
	t.Helper()
	good := recordsOf(t, zoneTexts...)
	for n, r := range invalidRecords() {
		place := n % (len(good) + 1)
		put(2, place, impl.Zone{Origin: "a.b.", Records: slices.Insert(slices.Clone(good), place, r)})
	}
	start := recordOf(t, startText)
	put(2, 0, impl.Zone{Origin: "a.b.", Records: []impl.Record{{}}})
	put(2, 0, impl.Zone{Origin: "a.b.", Records: []impl.Record{{Name: "c.", Kind: 6}, start}})
	put(2, 1, impl.Zone{Origin: "a.b.", Records: []impl.Record{start, {}, start, {}}})
	put(2, 1, impl.Zone{Origin: "a.b.", Records: []impl.Record{start, {Name: "x.a.b.", Ttl: 100001, Kind: 2, Target: "."}}})
	put(2, 2, impl.Zone{Origin: "a.b.", Records: append(recordsOf(t, "a.b. 1 A 1.1.1.1", "a.b. 2 CNAME ."), impl.Record{})})

	for _, n := range []int{61, 62, 500, 901} {
		put(2, 60, bigZone(t, n))
		put(2, 60, zoneOf(t, "a.b.", hostTexts(n)...))
	}
	many := bigZone(t, 60)
	put(2, 60, impl.Zone{Origin: "a.b.", Records: append(slices.Clone(many.Records), start)})
	put(2, 60, impl.Zone{Origin: "a.b.", Records: append(slices.Clone(many.Records), impl.Record{})})
	put(2, 60, impl.Zone{Origin: "a.b.", Records: append(slices.Clone(many.Records), recordOf(t, "c. 1 NS ."))})
	other := zoneOf(t, "a.b.", append([]string{startText, "a.b. 1 TXT \"\"", "a.b. 2 TXT \"a\""}, hostTexts(58)...)...)
	put(2, 60, other)
	put(6, 2, impl.Zone{Origin: "a.b.", Records: other.Records[:60]})
	for i, last := range []impl.Record{recordOf(t, "i.b. 1 A 1.1.1.1"), many.Records[58], recordOf(t, "i.a.b. 1 SOA . 1 2 3 4 5")} {
		list := append(slices.Clone(many.Records[:59]), last)
		put(3+i, 59, impl.Zone{Origin: "a.b.", Records: list})
		put(3+i, 59, impl.Zone{Origin: "a.b.", Records: append(slices.Clone(list), impl.Record{})})
	}
	put(4, 1, impl.Zone{Origin: "a.b.", Records: slices.Repeat([]impl.Record{start}, 100000)})
}

// checkFault reports a zone whose first fault is another one.
func checkFault(t *testing.T, z impl.Zone, code int, place int) {
	t.Helper()
	if gotCode, gotPlace := impl.ZoneFault(z); gotCode != code || gotPlace != place {
		t.Errorf("ZoneFault(%.400q) = %d, %d; want %d, %d", zoneText(z), gotCode, gotPlace, code, place)
	}
	if got := impl.ZoneValid(z); got != (code == 0) {
		t.Errorf("ZoneValid(%.400q) = %v", zoneText(z), got)
	}
}

// zoneText returns what a zone has, for messages.
func zoneText(z impl.Zone) string {
	texts := []string{z.Origin}
	for _, r := range z.Records[:min(len(z.Records), 70)] {
		texts = append(texts, impl.FormatRecord(r))
	}
	return strings.Join(texts, "\n")
}

// checkZone reports a zone and a truth that are not the wanted ones.
func checkZone(t *testing.T, got impl.Zone, ok bool, want impl.Zone, call string) {
	t.Helper()
	if !ok || !sameZone(got, want) {
		t.Errorf("%s = %q, %v; want %q", call, zoneText(got), ok, zoneText(want))
	}
}

// checkNoZone reports a zone where there is none.
func checkNoZone(t *testing.T, got impl.Zone, ok bool, call string) {
	t.Helper()
	if ok || !sameZone(got, impl.Zone{}) {
		t.Errorf("%s = %.400q, %v; want no zone", call, zoneText(got), ok)
	}
}

func TestZoneConstants(t *testing.T) {
	codes := []int{impl.ZoneOk, impl.ZoneOrigin, impl.ZoneRecord, impl.ZoneBelow, impl.ZoneOrder, impl.ZoneSoa, impl.ZoneTtl, impl.ZoneCname}
	if !slices.Equal(codes, []int{0, 1, 2, 3, 4, 5, 6, 7}) {
		t.Errorf("the faults are %v", codes)
	}
}

func TestZonesWithoutFaults(t *testing.T) {
	for _, z := range zoneCases(t) {
		checkFault(t, z, 0, 0)
	}
}

func TestZonesWithFaults(t *testing.T) {
	for _, c := range faultCases(t) {
		checkFault(t, c.zone, c.code, c.place)
	}
}

func TestZonesWithOtherTimes(t *testing.T) {
	for _, ttl := range []int{0, 1, 299, 300, 301, 3600, 100000} {
		code, place := 0, 0
		if ttl != 300 {
			code, place = 6, 2
		}
		checkFault(t, zoneOf(t, "a.b.", startText, "w.a.b. 300 A 1.2.3.4", "w.a.b. "+strconv.Itoa(ttl)+" A 1.2.3.5"), code, place)
		for _, other := range []string{"w.a.b. 300 A 1.2.3.4", "v.a.b. 300 NS .", "a.b. 300 TXT \"\""} {
			z := zoneOf(t, "a.b.", startText, other, "w.a.b. "+strconv.Itoa(ttl)+" NS .")
			checkFault(t, z, 0, 0)
		}
	}
}

func TestNamesThatStandForOthers(t *testing.T) {
	for _, c := range recordCases() {
		if c.record.Kind == 6 {
			continue
		}
		alone := changed(c.record, func(r *impl.Record) { r.Name = "al.a.b." })
		alias := recordOf(t, "al.a.b. 300 CNAME www.a.b.")
		beside := []impl.Record{recordOf(t, startText), alone, alias}
		slices.SortFunc(beside, compareRecords)
		code := 7
		if alone.Kind == 5 && alone.Ttl != 300 {
			code = 6
		}
		checkFault(t, impl.Zone{Origin: "a.b.", Records: beside}, code, 2)
		for _, name := range []string{"a.al.a.b.", "am.a.b.", "ak.a.b."} {
			other := changed(c.record, func(r *impl.Record) { r.Name = name })
			list := []impl.Record{recordOf(t, startText), other, alias}
			slices.SortFunc(list, compareRecords)
			checkFault(t, impl.Zone{Origin: "a.b.", Records: list}, 0, 0)
		}
	}
}

// poolRecord is a record and whether it is valid.
type poolRecord struct {
	record impl.Record
	valid  bool
}

// recordPool returns records, in order, that make zones below a.b. with all faults.
func recordPool(t *testing.T) []poolRecord {
	t.Helper()
	var pool []poolRecord
	for _, text := range []string{
		"b. 9 NS .", "a.b. 9 NS .", "a.b. 8 NS a.", "a.b. 9 CNAME .", "a.b. 9 SOA . 1 1 1 1 1", "a.b. 8 SOA . 2 1 1 1 1", "*.a.b. 9 SOA . 1 1 1 1 1",
		"x.a.b. 9 A 0.0.0.0", "x.a.b. 8 A 0.0.0.1", "x.a.b. 9 CNAME b.", "x.a.b. 9 CNAME c.", "x.a.b. 8 CNAME c.", "x.a.b. 9 TXT \"\"",
	} {
		pool = append(pool, poolRecord{recordOf(t, text), true})
	}
	return append(pool, poolRecord{impl.Record{Name: "y.a.b.", Kind: 5}, false})
}

// faultAsDefined is chapter 4's definition of the first fault below a valid origin.
func faultAsDefined(origin string, list []poolRecord) (int, int) {
	for i, p := range list {
		r := p.record
		if !p.valid || i >= 60 {
			return 2, i
		}
		if r.Name != origin && origin != "." && !strings.HasSuffix(r.Name, "."+origin) {
			return 3, i
		}
		if i > 0 && compareRecords(list[i-1].record, r) >= 0 {
			return 4, i
		}
		if r.Kind == 6 && (r.Name != origin || slices.ContainsFunc(list[:i], isStart)) {
			return 5, i
		}
	}
	if !slices.ContainsFunc(list, isStart) {
		return 5, 0
	}
	for i, p := range list {
		for _, q := range list[:i] {
			if p.record.Name == q.record.Name && p.record.Kind == q.record.Kind && p.record.Ttl != q.record.Ttl {
				return 6, i
			}
			if p.record.Name == q.record.Name && (p.record.Kind == 5 || q.record.Kind == 5) {
				return 7, i
			}
		}
	}
	return 0, 0
}

func isStart(p poolRecord) bool { return p.record.Kind == 6 }

// checkFaultAsDefined reports a zone whose first fault is another one than defined.
func checkFaultAsDefined(t *testing.T, origin string, list []poolRecord) {
	t.Helper()
	z := impl.Zone{Origin: origin}
	for _, p := range list {
		z.Records = append(z.Records, p.record)
	}
	code, place := faultAsDefined(origin, list)
	checkFault(t, z, code, place)
}

func TestZoneFaultAsDefined(t *testing.T) {
	pool := recordPool(t)
	for _, origin := range []string{"a.b.", "b.", ".", "x.a.b.", "c."} {
		for set := range 1 << len(pool) {
			var list []poolRecord
			for i, p := range pool {
				if set>>i&1 == 1 {
					list = append(list, p)
				}
			}
			checkFaultAsDefined(t, origin, list)
		}
	}
	for _, first := range pool {
		for _, second := range pool {
			checkFaultAsDefined(t, "a.b.", []poolRecord{first, second})
			for _, third := range pool {
				checkFaultAsDefined(t, "a.b.", []poolRecord{first, second, third})
				checkFaultAsDefined(t, ".", []poolRecord{pool[4], first, second, third})
			}
		}
	}
}

func TestZoneSame(t *testing.T) {
	cases := zoneCases(t)
	for i, c := range faultCases(t) {
		if i%17 == 0 && len(c.zone.Records) < 70 {
			cases = append(cases, c.zone)
		}
	}
	for i, z := range cases {
		if !impl.ZoneSame(z, z) || !impl.ZoneSame(z, copyZone(z)) {
			t.Fatalf("%q is not the same as itself", zoneText(z))
		}
		for j, other := range cases[:i] {
			if got := impl.ZoneSame(z, other); got != sameZone(z, other) || got != impl.ZoneSame(other, z) {
				t.Fatalf("ZoneSame of the zones %d and %d is %v", i, j, got)
			}
		}
	}
	if !impl.ZoneSame(impl.Zone{}, impl.Zone{Records: []impl.Record{}}) || !impl.ZoneSame(impl.Zone{Records: []impl.Record{{}}}, impl.Zone{Records: []impl.Record{{Nums: []int{}}}}) {
		t.Error("nothing and nil are not the same")
	}
}

func TestZoneSameOfEachChange(t *testing.T) {
	z := zoneOf(t, "a.b.", zoneTexts...)
	differ := func(change func(z *impl.Zone)) {
		t.Helper()
		other := copyZone(z)
		change(&other)
		if impl.ZoneSame(z, other) || impl.ZoneSame(other, z) {
			t.Errorf("ZoneSame of %q and %q", zoneText(z), zoneText(other))
		}
	}
	differ(func(z *impl.Zone) { z.Origin = "b." })
	differ(func(z *impl.Zone) { z.Origin = "" })
	differ(func(z *impl.Zone) { z.Records = nil })
	differ(func(z *impl.Zone) { z.Records = append(z.Records, impl.Record{}) })
	differ(func(z *impl.Zone) { z.Records[0], z.Records[1] = z.Records[1], z.Records[0] })
	for i := range z.Records {
		differ(func(z *impl.Zone) { z.Records = slices.Delete(z.Records, i, i+1) })
		differ(func(z *impl.Zone) { z.Records = slices.Insert(z.Records, i, z.Records[i]) })
		differ(func(z *impl.Zone) { z.Records[i].Name = "x." + z.Records[i].Name })
		differ(func(z *impl.Zone) { z.Records[i].Ttl++ })
		differ(func(z *impl.Zone) { z.Records[i].Kind++ })
		differ(func(z *impl.Zone) { z.Records[i].Nums = append(z.Records[i].Nums, 0) })
		differ(func(z *impl.Zone) { z.Records[i].Target += "." })
		differ(func(z *impl.Zone) { z.Records[i].Text += " " })
	}
}

// checkSorted reports records that are not put in order as defined.
func checkSorted(t *testing.T, list []impl.Record) {
	t.Helper()
	want := slices.Clone(list)
	slices.SortFunc(want, compareRecords)
	want = slices.CompactFunc(want, sameRecord)
	if got, ok := impl.SortRecords(list); !ok || !sameRecords(got, want) {
		t.Errorf("SortRecords(%v) = %v, %v; want %v", list, got, ok, want)
	}
}

func TestSortRecords(t *testing.T) {
	checkSorted(t, nil)
	checkSorted(t, []impl.Record{})
	var all []impl.Record
	for _, c := range recordCases() {
		all = append(all, c.record)
		checkSorted(t, []impl.Record{c.record})
		checkSorted(t, []impl.Record{c.record, c.record})
		checkSorted(t, slices.Repeat([]impl.Record{c.record}, 60))
	}
	for i := range all {
		for j := range all {
			checkSorted(t, []impl.Record{all[i], all[j]})
			checkSorted(t, []impl.Record{all[i], all[j], all[i]})
			checkSorted(t, []impl.Record{all[j], all[i], all[0], all[i], all[j]})
		}
		turned := slices.Concat(all[i:], all[:i])
		checkSorted(t, turned)
		checkSorted(t, slices.Concat(turned, turned[:60-len(turned)]))
		slices.Reverse(turned)
		checkSorted(t, turned)
		checkSorted(t, slices.Concat(turned, turned[:60-len(turned)]))
	}
}

func TestSortRecordsInOrder(t *testing.T) {
	want := recordsOf(t, zoneTexts...)
	for step := range len(want) {
		var mixed []impl.Record
		for i := range want {
			mixed = append(mixed, want[(i*5+step)%len(want)])
		}
		if got, ok := impl.SortRecords(append(mixed, mixed...)); !ok || !sameRecords(got, want) {
			t.Errorf("SortRecords = %v, %v", got, ok)
		}
	}
	times := recordsOf(t, "a. 1 NS .", "a. 2 NS .", "a. 10 NS .")
	if got, ok := impl.SortRecords([]impl.Record{times[2], times[1], times[0], times[1]}); !ok || !sameRecords(got, times) {
		t.Errorf("SortRecords = %v, %v", got, ok)
	}
}

// checkNotSorted reports records that are put in order although they cannot be.
func checkNotSorted(t *testing.T, list []impl.Record) {
	t.Helper()
	if got, ok := impl.SortRecords(list); ok || len(got) != 0 {
		t.Errorf("SortRecords of %d records = %.400v, %v", len(list), got, ok)
	}
}

func TestSortRecordsOfOthers(t *testing.T) {
	good := recordsOf(t, "a.b. 5 NS a.b.", "x.a.b. 5 A 1.2.3.4")
	for _, r := range invalidRecords() {
		checkNotSorted(t, []impl.Record{r})
		checkNotSorted(t, []impl.Record{r, r})
		for i := range len(good) + 1 {
			checkNotSorted(t, slices.Insert(slices.Clone(good), i, r))
		}
	}
	for n, fits := range map[int]bool{59: true, 60: true, 61: false, 62: false, 900: false} {
		list := recordsOf(t, hostTexts(n)...)
		slices.Reverse(list)
		if fits {
			checkSorted(t, list)
			continue
		}
		checkNotSorted(t, list)
		checkNotSorted(t, slices.Repeat(good[:1], n))
	}
	checkNotSorted(t, make([]impl.Record, 60))
	checkNotSorted(t, slices.Repeat(good, 100000))
}

// checkLoaded reports a master file that is not the zone of texts.
func checkLoaded(t *testing.T, text string, origin string, texts ...string) {
	t.Helper()
	z, line, ok := impl.LoadZone(text, origin)
	if line != 0 {
		t.Errorf("LoadZone(%.300q, %q) tells the line %d", text, origin, line)
	}
	checkZone(t, z, ok, zoneOf(t, origin, texts...), "LoadZone")
}

// checkNotLoaded reports a master file that is a zone, or whose wrong line is another one.
func checkNotLoaded(t *testing.T, text string, origin string, want int) {
	t.Helper()
	z, line, ok := impl.LoadZone(text, origin)
	if line != want {
		t.Errorf("LoadZone(%.300q, %.100q) tells the line %d; want %d", text, origin, line, want)
	}
	checkNoZone(t, z, ok, "LoadZone of "+text[:min(len(text), 300)])
}

func TestLoadZone(t *testing.T) {
	checkLoaded(t, startLine, "a.b.", startText)
	checkLoaded(t, "; x\n\n"+startLine+startLine, "a.b.", startText)
	checkLoaded(t, "@ 0 SOA . 1 2 3 4 5", ".", startAt("."))
	checkLoaded(t, "@ 0 SOA . 1 2 3 4 5\n", name60, startAt(name60))
	checkLoaded(t, "*.A. 0 SOA . 1 2 3 4 5\n", "*.a.", startAt("*.a."))
	checkLoaded(t, "www 300 A 1.2.3.5\n 300 A 1.2.3.4\n@ 60 NS ns\n"+startLine+"www 300 A 1.2.3.4\n", "a.b.",
		"a.b. 60 NS ns.a.b.", startText, "www.a.b. 300 A 1.2.3.4", "www.a.b. 300 A 1.2.3.5")
	checkLoaded(t, "$TTL 9\n$ORIGIN x.a.b.\n@ NS @\ny CNAME z\n$ORIGIN a.b.\n"+startLine+"$ORIGIN b.\na MX 5 c\n", "a.b.",
		startText, "a.b. 9 MX 5 c.b.", "x.a.b. 9 NS x.a.b.", "y.x.a.b. 9 CNAME z.x.a.b.")
	checkLoaded(t, strings.Repeat(startLine, 60), "a.b.", startText)
	checkLoaded(t, startLine+";"+strings.Repeat("x", 3999-len(startLine)), "a.b.", startText)
	for step := range len(zoneTexts) {
		var lines []string
		for i := range zoneTexts {
			lines = append(lines, zoneTexts[(i*3+step)%len(zoneTexts)])
		}
		checkLoaded(t, strings.Join(lines, "\n"), "a.b.", zoneTexts...)
	}
	texts := append([]string{startText}, hostTexts(59)...)
	checkLoaded(t, strings.Join(texts, "\n"), "a.b.", texts...)
}

func TestLoadZoneOfOtherTexts(t *testing.T) {
	for _, wrong := range []string{"wrong", "www A 1.2.3.4", " A 1.2.3.4", "$TTL 100001", "$X y", "www 5 A 256.2.3.4", "\"", "\r"} {
		checkNotLoaded(t, wrong, "a.b.", 1)
		checkNotLoaded(t, startLine+wrong, "a.b.", 2)
		checkNotLoaded(t, startLine+"\n; x\n"+wrong+"\n"+wrong+"\n", "a.b.", 4)
		checkNotLoaded(t, "c. 5 A 1.2.3.4\n"+wrong, "a.b.", 2)
	}
	checkNotLoaded(t, strings.Join(append([]string{startText}, hostTexts(60)...), "\n"), "a.b.", 61)
	checkNotLoaded(t, strings.Repeat(startLine, 61), "a.b.", 61)
	checkNotLoaded(t, startLine+";"+strings.Repeat("x", 4000-len(startLine)), "a.b.", 0)
	checkNotLoaded(t, strings.Repeat("\n", 4001), "a.b.", 0)
	for _, name := range invalidNames {
		checkNotLoaded(t, startText, name, 0)
		checkNotLoaded(t, "wrong", name, 0)
	}
}

func TestLoadZoneOfFaults(t *testing.T) {
	for _, lines := range []string{
		"", "\n", "$TTL 5\n", "www 5 A 1.2.3.4\n", "www 5 SOA . 1 2 3 4 5\n", "$ORIGIN c.\n" + startLine,
		startLine + "c. 5 A 1.2.3.4", startLine + "b. 5 A 1.2.3.4", startLine + ". 5 A 1.2.3.4", startLine + "xa.b. 5 A 1.2.3.4", startLine + "$ORIGIN c\nx 5 A 1.2.3.4\n$ORIGIN d.\nx 5 A 1.2.3.4",
		startLine + "@ 3600 SOA ns.b. 8 10 20 30 40", startLine + "@ 3601 SOA ns.b. 7 10 20 30 40", startLine + "x 3600 SOA ns.b. 7 10 20 30 40",
		startLine + "w 5 A 1.2.3.4\nw 6 A 1.2.3.5", startLine + "w 5 A 1.2.3.4\nw 6 A 1.2.3.4", startLine + "w 6 TXT \"b\"\nw 5 TXT \"a\"",
		startLine + "w 5 A 1.2.3.4\nw 5 CNAME x", startLine + "w 5 CNAME x\nw 5 CNAME y", startLine + "@ 5 CNAME x", "@ 5 CNAME x",
	} {
		checkNotLoaded(t, lines, "a.b.", 0)
	}
	for _, c := range faultCases(t) {
		text, ok := impl.WriteMaster(c.zone.Records, "a.b.")
		// The order of the records and whether there are equal ones is nothing that a master file tells.
		if ok && c.code != 1 && c.code != 4 {
			checkNotLoaded(t, text, c.zone.Origin, 0)
		}
	}
}

func TestZonesAreReadBack(t *testing.T) {
	for _, z := range zoneCases(t) {
		text, ok := impl.WriteMaster(z.Records, z.Origin)
		if !ok {
			t.Fatalf("WriteMaster(%q) returns false", zoneText(z))
		}
		got, line, ok := impl.LoadZone(text, z.Origin)
		if line != 0 {
			t.Errorf("LoadZone(%q) tells the line %d", text, line)
		}
		checkZone(t, got, ok, z, "LoadZone")
	}
}

func TestRecordsAreAddedAndDropped(t *testing.T) {
	for _, z := range zoneCases(t) {
		for i, r := range z.Records {
			less := impl.Zone{Origin: z.Origin, Records: slices.Delete(slices.Clone(z.Records), i, i+1)}
			got, ok := impl.DropRecord(z, r)
			if r.Kind == 6 {
				checkNoZone(t, got, ok, "DropRecord of a start")
				continue
			}
			checkZone(t, got, ok, less, "DropRecord")
			got, ok = impl.DropRecord(less, r)
			checkNoZone(t, got, ok, "DropRecord of what is not there")
			got, ok = impl.AddRecord(less, r)
			checkZone(t, got, ok, z, "AddRecord")
			got, ok = impl.AddRecord(z, r)
			checkNoZone(t, got, ok, "AddRecord of what is there")
		}
	}
}

func TestAddRecord(t *testing.T) {
	z := zoneOf(t, "a.b.", zoneTexts...)
	for _, text := range []string{
		"a.b. 5 A 0.0.0.0", "a.b. 60 NS .", "a.b. 60 NS z.", "a.b. 5 PTR a.b.", "a.b. 300 MX 7 x.", "a.b. 0 TXT \"~\"", "*.a.b. 5 TXT \"\"", "*.a.b. 300 A 9.9.9.10",
		"x.al.a.b. 5 CNAME al.a.b.", "*.al.a.b. 5 A 1.1.1.1", "am.a.b. 5 CNAME am.a.b.", "q.a.b. 100000 TXT \"\"", "*.ns.sub.a.b. 0 NS .", "ns.sub.a.b. 300 A 5.6.7.9", "zz.a.b. 0 MX 0 .",
		"www.a.b. 300 A 0.2.3.4", "www.a.b. 300 A 1.2.3.10", "www.a.b. 60 TXT \"x\"", "www.a.b. 9 NS .", "a.b.c.d.e.f.a.b. 5 A 1.2.3.4",
	} {
		r := recordOf(t, text)
		want := impl.Zone{Origin: "a.b.", Records: append(slices.Clone(z.Records), r)}
		slices.SortFunc(want.Records, compareRecords)
		got, ok := impl.AddRecord(z, r)
		checkZone(t, got, ok, want, "AddRecord of "+text)
	}
	for _, text := range []string{
		"b. 5 A 1.2.3.4", ". 5 A 1.2.3.4", "xa.b. 5 A 1.2.3.4", "c. 5 TXT \"\"", "*.b. 5 A 1.2.3.4",
		"a.b. 3600 SOA ns.b. 8 10 20 30 40", "a.b. 3600 SOA . 7 10 20 30 40", "a.b. 3601 SOA ns.b. 7 10 20 30 40", "x.a.b. 3600 SOA ns.b. 7 10 20 30 40", "c. 0 SOA . 1 1 1 1 1",
		"www.a.b. 301 A 1.2.3.4", "www.a.b. 299 A 1.2.3.4", "www.a.b. 301 A 9.9.9.9", "www.a.b. 299 A 0.0.0.0", "a.b. 61 NS ns.a.b.", "a.b. 59 NS z.", "a.b. 1 TXT \"b\"", "a.b. 300 NS x.",
		"www.a.b. 300 CNAME c.", "a.b. 5 CNAME c.", "*.a.b. 5 CNAME .", "sub.a.b. 300 CNAME c.", "al.a.b. 300 CNAME x.", "al.a.b. 5 CNAME www.a.b.", "al.a.b. 300 A 1.2.3.4", "al.a.b. 5 TXT \"\"", "*.sub.a.b. 5 MX 5 .",
	} {
		got, ok := impl.AddRecord(z, recordOf(t, text))
		checkNoZone(t, got, ok, "AddRecord of "+text)
	}
	for _, r := range invalidRecords() {
		for _, given := range []impl.Zone{z, zoneOf(t, ".", startAt(".")), bigZone(t, 60)} {
			got, ok := impl.AddRecord(given, r)
			checkNoZone(t, got, ok, "AddRecord of an invalid record")
		}
	}
}

func TestAddRecordAtLimits(t *testing.T) {
	r := recordOf(t, "i.a.b. 5 NS .")
	first := recordOf(t, "a.b. 5 NS .")
	for n := 1; n <= 60; n++ {
		z := bigZone(t, n)
		behind, behindOk := impl.AddRecord(z, r)
		front, frontOk := impl.AddRecord(z, first)
		if n == 60 {
			checkNoZone(t, behind, behindOk, "AddRecord of a record behind 60")
			checkNoZone(t, front, frontOk, "AddRecord of a record in front of 60")
			continue
		}
		checkZone(t, behind, behindOk, impl.Zone{Origin: "a.b.", Records: append(slices.Clone(z.Records), r)}, "AddRecord")
		checkZone(t, front, frontOk, impl.Zone{Origin: "a.b.", Records: append([]impl.Record{first}, z.Records...)}, "AddRecord")
	}
	z := impl.Zone{Origin: ".", Records: recordsOf(t, startAt("."))}
	z, ok := impl.AddRecord(z, recordOf(t, name60+" 100000 MX 999 "+name60))
	checkZone(t, z, ok, zoneOf(t, ".", startAt("."), name60+" 100000 MX 999 "+name60), "AddRecord")
}

func TestDropRecord(t *testing.T) {
	z := zoneOf(t, "a.b.", zoneTexts...)
	for _, text := range []string{
		startText, "a.b. 3600 SOA ns.b. 8 10 20 30 40", "a.b. 60 NS b.", "a.b. 61 NS a.b.", "b. 60 NS a.b.", "a.b. 60 PTR a.b.", "www.a.b. 300 A 1.2.3.6", "www.a.b. 300 A 1.2.4.4", "www.a.b. 301 A 1.2.3.4",
		"a.b. 300 MX 6 mail.a.b.", "a.b. 300 MX 5 a.b.", "a.b. 0 TXT \" \"", "www.a.b. 60 TXT \"x; Y\"", "al.a.b. 300 CNAME www.", "c. 5 A 1.2.3.4", ". 0 NS .", "x.a.b. 3600 SOA ns.b. 7 10 20 30 40",
	} {
		got, ok := impl.DropRecord(z, recordOf(t, text))
		checkNoZone(t, got, ok, "DropRecord of "+text)
	}
	for _, r := range invalidRecords() {
		for _, given := range []impl.Zone{z, zoneOf(t, ".", startAt("."))} {
			got, ok := impl.DropRecord(given, r)
			checkNoZone(t, got, ok, "DropRecord of an invalid record")
		}
	}
	for len(z.Records) > 1 {
		place := 0
		if z.Records[0].Kind == 6 {
			place = 1
		}
		want := impl.Zone{Origin: "a.b.", Records: slices.Delete(slices.Clone(z.Records), place, place+1)}
		less, ok := impl.DropRecord(z, z.Records[place])
		checkZone(t, less, ok, want, "DropRecord")
		z = want
	}
}

func TestRecordsAt(t *testing.T) {
	names := append([]string{"www.a.b.", "al.a.b.", "*.a.b.", "sub.a.b.", "q.a.b.", "A.b.", "c."}, append(validNames, invalidNames...)...)
	for _, z := range zoneCases(t) {
		for _, r := range z.Records {
			names = append(names, r.Name)
		}
		slices.Sort(names)
		names = slices.Compact(names)
		for _, name := range names {
			for _, kind := range []int{0, 1, 2, 3, 5, 6, 12, 15, 16, 17, -1, math.MinInt, math.MaxInt} {
				var want []impl.Record
				for _, r := range z.Records {
					if r.Name == name && r.Kind == kind {
						want = append(want, r)
					}
				}
				if got := impl.RecordsAt(z, name, kind); !sameRecords(got, want) {
					t.Errorf("RecordsAt(%q, %.100q, %d) = %v; want %v", zoneText(z), name, kind, got, want)
				}
			}
		}
	}
	z := zoneOf(t, "a.b.", zoneTexts...)
	for kind, want := range map[int][]string{
		2: zoneTexts[0:2], 6: zoneTexts[2:3], 15: zoneTexts[3:5], 16: zoneTexts[5:7], 1: nil, 5: nil, 12: nil, 0: nil,
	} {
		if got := impl.RecordsAt(z, "a.b.", kind); !sameRecords(got, recordsOf(t, want...)) {
			t.Errorf("RecordsAt(a.b., %d) = %v; want %q", kind, got, want)
		}
	}
}

func TestSoaOfAndSetSerial(t *testing.T) {
	for _, z := range zoneCases(t) {
		place := slices.IndexFunc(z.Records, func(r impl.Record) bool { return r.Kind == 6 })
		if got, ok := impl.SoaOf(z); !ok || !sameRecord(got, z.Records[place]) {
			t.Errorf("SoaOf(%q) = %v, %v", zoneText(z), got, ok)
		}
		for _, serial := range []int{0, 1, 7, 8, 100001, 2147483647, 2147483648, 4294967294, 4294967295} {
			want := copyZone(z)
			want.Records[place].Nums[0] = serial
			got, ok := impl.SetSerial(z, serial)
			checkZone(t, got, ok, want, "SetSerial")
			checkFault(t, got, 0, 0)
		}
		for _, serial := range []int{-1, 4294967296, 4294967303, 8589934592, -4294967296, math.MinInt, math.MaxInt} {
			got, ok := impl.SetSerial(z, serial)
			checkNoZone(t, got, ok, "SetSerial of "+strconv.Itoa(serial))
		}
	}
}

func TestZonesMustBeValid(t *testing.T) {
	for _, c := range faultCases(t) {
		z := c.zone
		for _, r := range recordsOf(t, "q.a.b. 5 A 1.2.3.4", "www.a.b. 300 A 1.2.3.4", "a.b. 1 A 1.2.3.4", startText, ". 1 A 1.2.3.4") {
			got, ok := impl.AddRecord(z, r)
			checkNoZone(t, got, ok, "AddRecord to an invalid zone")
			got, ok = impl.DropRecord(z, r)
			checkNoZone(t, got, ok, "DropRecord of an invalid zone")
		}
		for _, r := range z.Records[:min(len(z.Records), 5)] {
			got, ok := impl.DropRecord(z, r)
			checkNoZone(t, got, ok, "DropRecord of an invalid zone")
			if list := impl.RecordsAt(z, r.Name, r.Kind); len(list) != 0 {
				t.Errorf("RecordsAt of the invalid zone %.400q = %v", zoneText(z), list)
			}
		}
		if r, ok := impl.SoaOf(z); ok || !sameRecord(r, impl.Record{}) {
			t.Errorf("SoaOf of the invalid zone %.400q = %v, %v", zoneText(z), r, ok)
		}
		for _, serial := range []int{7, 8, -1} {
			got, ok := impl.SetSerial(z, serial)
			checkNoZone(t, got, ok, "SetSerial of an invalid zone")
		}
	}
}

func TestZonesDoNotGetValidByAChange(t *testing.T) {
	for _, c := range []struct{ texts, record string }{
		{"www.a.b. 300 A 1.2.3.4", startText},
		{"", startText},
		{startText + "\nw.a.b. 5 A 1.2.3.4\nw.a.b. 6 A 1.2.3.5", "w.a.b. 6 A 1.2.3.5"},
		{startText + "\nw.a.b. 5 A 1.2.3.4\nw.a.b. 5 CNAME .", "w.a.b. 5 CNAME ."},
		{startText + "\nc. 5 A 1.2.3.4", "c. 5 A 1.2.3.4"},
		{startText + "\nw.a.b. 5 A 1.2.3.4\nw.a.b. 5 A 1.2.3.4", "w.a.b. 5 A 1.2.3.4"},
	} {
		z := impl.Zone{Origin: "a.b."}
		if c.texts != "" {
			z = zoneOf(t, "a.b.", strings.Split(c.texts, "\n")...)
		}
		got, ok := impl.AddRecord(z, recordOf(t, c.record))
		checkNoZone(t, got, ok, "AddRecord")
		got, ok = impl.DropRecord(z, recordOf(t, c.record))
		checkNoZone(t, got, ok, "DropRecord")
	}
}

// spoil writes to all the memory that records have, and to what is behind them.
func spoil(list []impl.Record) {
	list = list[:cap(list)]
	for i := range list {
		nums := list[i].Nums[:cap(list[i].Nums)]
		for j := range nums {
			nums[j] = -7
		}
		list[i] = impl.Record{Name: "spoiled", Nums: nums}
	}
}

// spoilOne writes to the memory of one record, and reports whether another one of the list changes.
func spoilOne(t *testing.T, list []impl.Record, call string) {
	t.Helper()
	before := copyZone(impl.Zone{Records: list}).Records
	for i := range list {
		nums := list[i].Nums[:cap(list[i].Nums)]
		for j := range nums {
			nums[j] = -7
		}
		if !sameRecords(list[i+1:], before[i+1:]) {
			t.Fatalf("records of one result of %s share memory", call)
		}
	}
}

// roomy returns a zone like z, whose slices have memory beyond their lengths, and all of that memory.
func roomy(z impl.Zone) (impl.Zone, []impl.Record) {
	all := copyZone(z).Records
	for i := range all {
		n := len(all[i].Nums)
		all[i].Nums = append(all[i].Nums, 11, 12, 13, 14, 15, 16)[:n]
	}
	n := len(all)
	all = append(all, impl.Record{Name: "behind"}, impl.Record{Name: "far", Nums: []int{1, 2}})
	return impl.Zone{Origin: z.Origin, Records: all[:n]}, all
}

// wholeCopy copies records with all the memory of their numbers.
func wholeCopy(list []impl.Record) []impl.Record {
	var made []impl.Record
	for _, r := range list {
		r.Nums = slices.Clone(r.Nums[:cap(r.Nums)])
		made = append(made, r)
	}
	return made
}

func TestZonesAreNew(t *testing.T) {
	extra := recordOf(t, "q.a.b. 5 A 1.2.3.4")
	last := recordOf(t, zoneTexts[13])
	text := strings.Join(zoneTexts, "\n")
	calls := map[string]func(z impl.Zone, r impl.Record, old impl.Record) []impl.Record{
		"AddRecord":   func(z impl.Zone, r, _ impl.Record) []impl.Record { got, _ := impl.AddRecord(z, r); return got.Records },
		"DropRecord":  func(z impl.Zone, _, r impl.Record) []impl.Record { got, _ := impl.DropRecord(z, r); return got.Records },
		"SetSerial":   func(z impl.Zone, _, _ impl.Record) []impl.Record { got, _ := impl.SetSerial(z, 9); return got.Records },
		"SameSerial":  func(z impl.Zone, _, _ impl.Record) []impl.Record { got, _ := impl.SetSerial(z, 7); return got.Records },
		"SortRecords": func(z impl.Zone, r, _ impl.Record) []impl.Record { got, _ := impl.SortRecords(z.Records); return got },
		"RecordsAt":   func(z impl.Zone, _, _ impl.Record) []impl.Record { return impl.RecordsAt(z, "www.a.b.", 1) },
		"SoaOf":       func(z impl.Zone, _, _ impl.Record) []impl.Record { r, _ := impl.SoaOf(z); return []impl.Record{r} },
		"LoadZone": func(impl.Zone, impl.Record, impl.Record) []impl.Record {
			z, _, _ := impl.LoadZone(text, "a.b.")
			return z.Records
		},
	}
	for name, call := range calls {
		z, all := roomy(zoneOf(t, "a.b.", zoneTexts...))
		given, givenAll := roomy(impl.Zone{Records: []impl.Record{extra, last}})
		before, beforeGiven := wholeCopy(all), wholeCopy(givenAll)
		first := call(z, given.Records[0], given.Records[1])
		second := call(z, given.Records[0], given.Records[1])
		want := copyZone(impl.Zone{Records: second}).Records
		if len(first) == 0 || !sameRecords(first, second) {
			t.Fatalf("%s = %v, and then %v", name, first, second)
		}
		spoilOne(t, first, name)
		spoil(first)
		if !sameRecords(second, want) {
			t.Errorf("%s: a result changed to %v", name, second)
		}
		if !sameRecords(wholeCopy(all), before) || !sameRecords(wholeCopy(givenAll), beforeGiven) {
			t.Errorf("%s: the arguments changed to %v and %v", name, all, givenAll)
		}
		if third := call(z, given.Records[0], given.Records[1]); !sameRecords(third, want) {
			t.Errorf("%s = %v after its result was written to", name, third)
		}
		spoil(z.Records)
		spoil(given.Records)
		if !sameRecords(second, want) {
			t.Errorf("%s: a result changed to %v with an argument", name, second)
		}
	}
}

func TestZonesAreNotChangedByQuestions(t *testing.T) {
	for _, c := range append(faultCases(t), faultCase{zone: zoneOf(t, "a.b.", zoneTexts...)}) {
		if len(c.zone.Records) > 70 {
			continue
		}
		z, all := roomy(c.zone)
		before := wholeCopy(all)
		impl.ZoneFault(z)
		impl.ZoneValid(z)
		impl.ZoneSame(z, z)
		impl.SortRecords(z.Records)
		impl.AddRecord(z, impl.Record{})
		impl.DropRecord(z, impl.Record{})
		impl.SetSerial(z, -1)
		if !sameRecords(wholeCopy(all), before) {
			t.Fatalf("the zone %q changed to %v", zoneText(c.zone), all)
		}
	}
}
