package tests

import (
	"math"
	"slices"
	"strconv"
	"strings"
	"testing"

	"loop.example/zonefiles/impl"
)

// edgeSerials are serials at the limits and at half of all of them, and noSerials are numbers that are none.
var (
	edgeSerials = []int{0, 1, 2, 7, 8, 9, 100001, 2147483646, 2147483647, 2147483648, 2147483649, 2147483655, 4294967288, 4294967293, 4294967294, 4294967295}
	noSerials   = []int{-1, -2, -2147483648, -4294967295, -4294967296, 4294967296, 4294967297, 4294967303, 6442450944, 8589934592, math.MinInt, math.MinInt + 1, math.MaxInt, math.MaxInt - 1}
)

// diffOf returns the difference with the records of lines: `-` in front of the text of one of Out, and `+` in front of one of In.
func diffOf(t *testing.T, from int, to int, lines ...string) impl.Diff {
	t.Helper()
	d := impl.Diff{From: from, To: to}
	for _, line := range lines {
		r := recordOf(t, line[1:])
		if line[0] == '-' {
			d.Out = append(d.Out, r)
		} else {
			d.In = append(d.In, r)
		}
	}
	return d
}

// startDiff returns a difference of nothing but the start.
func startDiff(t *testing.T, from int, to int) impl.Diff {
	t.Helper()
	return diffOf(t, from, to, "-"+startOn(from), "+"+startOn(to))
}

// startOn returns the text of the start of a.b. with a serial.
func startOn(serial int) string { return "a.b. 60 SOA . " + strconv.Itoa(serial) + " 1 2 3 4" }

// zoneOn returns the zone a.b. with a serial and the records of texts, in order.
func zoneOn(t *testing.T, serial int, texts ...string) impl.Zone {
	t.Helper()
	z := zoneOf(t, "a.b.", append([]string{startOn(serial)}, texts...)...)
	slices.SortFunc(z.Records, compareRecords)
	return z
}

// diffText returns what a difference has, for messages.
func diffText(d impl.Diff) string {
	lines := []string{strconv.Itoa(d.From) + " to " + strconv.Itoa(d.To)}
	for _, r := range d.Out[:min(len(d.Out), 70)] {
		lines = append(lines, "-"+impl.FormatRecord(r))
	}
	for _, r := range d.In[:min(len(d.In), 70)] {
		lines = append(lines, "+"+impl.FormatRecord(r))
	}
	return strings.Join(lines, "\n")
}

// sameDiff reports whether two differences are equal, without the package.
func sameDiff(a impl.Diff, b impl.Diff) bool {
	return a.From == b.From && a.To == b.To && sameRecords(a.Out, b.Out) && sameRecords(a.In, b.In)
}

// copyList returns records that share nothing with those of list.
func copyList(list []impl.Record) []impl.Record {
	return copyZone(impl.Zone{Records: list}).Records
}

// copyDiff returns a difference that shares nothing with d.
func copyDiff(d impl.Diff) impl.Diff {
	return impl.Diff{From: d.From, To: d.To, Out: copyList(d.Out), In: copyList(d.In)}
}

// checkDiff reports a difference and a truth that are not the wanted ones.
func checkDiff(t *testing.T, got impl.Diff, ok bool, want impl.Diff, call string) {
	t.Helper()
	if !ok || !sameDiff(got, want) {
		t.Errorf("%s = %q, %v; want %q", call, diffText(got), ok, diffText(want))
	}
}

// checkNoDiff reports a difference where there is none.
func checkNoDiff(t *testing.T, got impl.Diff, ok bool, call string) {
	t.Helper()
	if ok || !sameDiff(got, impl.Diff{}) {
		t.Errorf("%s = %.400q, %v; want no difference", call, diffText(got), ok)
	}
}

// hasAs reports whether a list has a record.
func hasAs(list []impl.Record, r impl.Record) bool {
	return slices.ContainsFunc(list, func(other impl.Record) bool { return sameRecord(other, r) })
}

// lessAs returns the records of a list that another one does not have.
func lessAs(list []impl.Record, other []impl.Record) []impl.Record {
	return slices.DeleteFunc(copyList(list), func(r impl.Record) bool { return hasAs(other, r) })
}

// sortedAs returns the records of two lists in order.
func sortedAs(a []impl.Record, b []impl.Record) []impl.Record {
	list := copyList(slices.Concat(a, b))
	slices.SortFunc(list, compareRecords)
	return list
}

// isSerialAs is chapter 7's definition of a serial.
func isSerialAs(n int) bool { return 0 <= n && n <= 4294967295 }

// lessSerialAs is chapter 7's definition of an earlier serial.
func lessSerialAs(a int, b int) bool {
	steps := b - a
	if steps < 0 {
		steps += 4294967296
	}
	return isSerialAs(a) && isSerialAs(b) && 1 <= steps && steps <= 2147483647
}

// listAs reports whether records are in order, and not too many for a difference.
func listAs(list []impl.Record) bool {
	for i, r := range list {
		if i >= 60 || !impl.RecordValid(r) || i > 0 && compareRecords(list[i-1], r) >= 0 {
			return false
		}
	}
	return true
}

// validDiffAs is chapter 7's definition of a valid difference.
func validDiffAs(d impl.Diff) bool {
	return isSerialAs(d.From) && isSerialAs(d.To) && listAs(d.Out) && listAs(d.In) && len(lessAs(d.Out, d.In)) == len(d.Out)
}

// serialAs returns the serial of a valid zone.
func serialAs(z impl.Zone) int {
	place := slices.IndexFunc(z.Records, func(r impl.Record) bool { return r.Kind == 6 })
	return z.Records[place].Nums[0]
}

// diffAs is chapter 7's definition of the difference between two valid zones.
func diffAs(a impl.Zone, b impl.Zone) impl.Diff {
	return impl.Diff{From: serialAs(a), To: serialAs(b), Out: lessAs(a.Records, b.Records), In: lessAs(b.Records, a.Records)}
}

// applyAs is chapter 7's definition of a difference made in a zone.
func applyAs(z impl.Zone, d impl.Diff) (impl.Zone, bool) {
	if !impl.ZoneValid(z) || !validDiffAs(d) || serialAs(z) != d.From {
		return impl.Zone{}, false
	}
	if len(lessAs(d.Out, z.Records)) > 0 || len(lessAs(d.In, z.Records)) < len(d.In) {
		return impl.Zone{}, false
	}
	made := impl.Zone{Origin: z.Origin, Records: sortedAs(lessAs(z.Records, d.Out), d.In)}
	if !impl.ZoneValid(made) || serialAs(made) != d.To {
		return impl.Zone{}, false
	}
	return made, true
}

// joinAs is chapter 7's definition of one difference in place of two.
func joinAs(a impl.Diff, b impl.Diff) (impl.Diff, bool) {
	if !validDiffAs(a) || !validDiffAs(b) || a.To != b.From || len(lessAs(b.Out, a.Out)) < len(b.Out) || len(lessAs(b.In, a.In)) < len(b.In) {
		return impl.Diff{}, false
	}
	made := impl.Diff{From: a.From, To: b.To, Out: sortedAs(lessAs(a.Out, b.In), lessAs(b.Out, a.In)), In: sortedAs(lessAs(a.In, b.Out), lessAs(b.In, a.Out))}
	if !validDiffAs(made) {
		return impl.Diff{}, false
	}
	return made, true
}

// hosts returns the lines of n addresses of different names below a.b., from the one with the number first on.
func hosts(sign string, first int, n int) []string {
	var lines []string
	for _, text := range hostTexts(first + n)[first:] {
		lines = append(lines, sign+text)
	}
	return lines
}

// diffCases returns valid differences at the limits and the edges that chapter 7 names.
func diffCases(t *testing.T) []impl.Diff {
	t.Helper()
	cases := []impl.Diff{
		{}, {Out: []impl.Record{}, In: []impl.Record{}}, {From: 7, To: 7}, {From: 7, To: 8}, {From: 8, To: 7},
		startDiff(t, 7, 8), startDiff(t, 8, 7), startDiff(t, 4294967295, 0), startDiff(t, 0, 4294967295), startDiff(t, 0, 2147483648),
		diffOf(t, 7, 8, "-"+startOn(7), "-w.a.b. 5 A 1.2.3.4", "+"+startOn(8), "+w.a.b. 5 A 1.2.3.5"),
		// Records that differ in nothing but the time, or in nothing but the kind.
		diffOf(t, 1, 2, "-w.a.b. 5 A 1.2.3.4", "+w.a.b. 6 A 1.2.3.4"),
		diffOf(t, 1, 2, "-w.a.b. 5 NS c.", "+w.a.b. 5 CNAME c."),
		// Records that no zone has together, and starts with other serials than those of the difference.
		diffOf(t, 1, 2, "-. 5 A 1.2.3.4", "-b. 5 CNAME c.", "-b. 6 CNAME c.", "-b. 5 CNAME a.c.", "+a.b. 5 SOA . 6 1 2 3 4", "+a.b. 6 SOA . 7 1 2 3 4", "+c. 6 SOA . 7 1 2 3 4"),
		diffOf(t, 3, 4, hosts("-", 0, 60)...), diffOf(t, 3, 4, hosts("+", 0, 60)...), diffOf(t, 3, 4, append(hosts("-", 0, 60), hosts("+", 60, 60)...)...),
		{From: 4294967295, To: 4294967295, Out: recordsOf(t, zoneTexts...)}, {From: 5, To: 6, In: recordsOf(t, zoneTexts...)},
	}
	for _, from := range edgeSerials {
		for _, to := range edgeSerials {
			cases = append(cases, impl.Diff{From: from, To: to, In: recordsOf(t, ". 0 NS .")})
		}
	}
	for _, c := range recordCases() {
		cases = append(cases, impl.Diff{From: 1, To: 2, Out: []impl.Record{c.record}}, impl.Diff{From: 2, To: 1, In: []impl.Record{c.record}})
	}
	return cases
}

// invalidDiffs returns differences that are each not valid for one reason.
func invalidDiffs(t *testing.T) []impl.Diff {
	t.Helper()
	good := diffOf(t, 7, 8, "-"+startOn(7), "-w.a.b. 5 A 1.2.3.4", "-x.a.b. 6 NS .", "+"+startOn(8), "+w.a.b. 5 A 1.2.3.5", "+y.a.b. 5 TXT \"y\"")
	var list []impl.Diff
	put := func(change func(d *impl.Diff)) {
		d := copyDiff(good)
		change(&d)
		list = append(list, d, impl.Diff{From: d.To, To: d.From, Out: d.In, In: d.Out})
	}
	for _, n := range noSerials {
		put(func(d *impl.Diff) { d.From = n })
		list = append(list, impl.Diff{From: n}, impl.Diff{To: n}, impl.Diff{From: n, To: n})
	}
	for i, r := range invalidRecords() {
		list = append(list, impl.Diff{Out: []impl.Record{r}}, impl.Diff{In: []impl.Record{r}})
		put(func(d *impl.Diff) { d.Out = slices.Insert(d.Out, i%4, r) })
		put(func(d *impl.Diff) { d.Out[i%3] = r })
	}
	for i := range good.Out {
		put(func(d *impl.Diff) { d.Out = slices.Insert(d.Out, i, d.Out[i]) })
		put(func(d *impl.Diff) { d.Out = sortedAs(d.Out, d.In[i:i+1]) })
		put(func(d *impl.Diff) { d.Out = copyList(d.In[i : i+1]) })
		for j := range i {
			put(func(d *impl.Diff) { d.Out[i], d.Out[j] = d.Out[j], d.Out[i] })
		}
	}
	put(func(d *impl.Diff) { d.Out = copyList(d.In) })
	put(func(d *impl.Diff) { d.Out = append(d.Out, recordOf(t, "x.a.b. 5 NS .")) })
	put(func(d *impl.Diff) { d.Out = append(d.Out, recordOf(t, "b. 5 NS .")) })
	for _, n := range []int{61, 62, 100, 256, 900} {
		put(func(d *impl.Diff) { d.Out = recordsOf(t, hostTexts(n)...) })
		put(func(d *impl.Diff) { d.Out = make([]impl.Record, n) })
		list = append(list, diffOf(t, 3, 4, hosts("-", 0, n)...), diffOf(t, 3, 4, hosts("+", 0, n)...))
	}
	list = append(list, impl.Diff{In: slices.Repeat(good.In, 100000)}, impl.Diff{Out: slices.Repeat(good.In[:1], 100000)})
	return list
}

func TestSerialAdd(t *testing.T) {
	for _, serial := range edgeSerials {
		for _, steps := range []int{0, 1, 2, 7, 100001, 2147483640, 2147483646, 2147483647} {
			want := int(uint32(serial) + uint32(steps))
			if n, ok := impl.SerialAdd(serial, steps); !ok || n != want {
				t.Errorf("SerialAdd(%d, %d) = %d, %v; want %d", serial, steps, n, ok, want)
			}
		}
		for _, steps := range append([]int{2147483648, 2147483649, 4294967295}, noSerials...) {
			checkNoSerial(t, serial, steps)
		}
	}
	for _, serial := range noSerials {
		for _, steps := range append([]int{0, 1, 2147483647, 2147483648, 4294967295}, noSerials...) {
			checkNoSerial(t, serial, steps)
		}
	}
	for _, row := range [][3]int{{7, 1, 8}, {4294967295, 0, 4294967295}, {4294967295, 1, 0}, {4294967295, 3, 2}, {4294967294, 1, 4294967295}, {4294967295, 2147483647, 2147483646}, {2147483648, 2147483647, 4294967295}, {2147483649, 2147483647, 0}} {
		if n, ok := impl.SerialAdd(row[0], row[1]); !ok || n != row[2] {
			t.Errorf("SerialAdd(%d, %d) = %d, %v; want %d", row[0], row[1], n, ok, row[2])
		}
	}
}

// checkNoSerial reports a serial some steps later where there is none.
func checkNoSerial(t *testing.T, serial int, steps int) {
	t.Helper()
	if n, ok := impl.SerialAdd(serial, steps); ok || n != 0 {
		t.Errorf("SerialAdd(%d, %d) = %d, %v; want none", serial, steps, n, ok)
	}
}

func TestSerialLess(t *testing.T) {
	all := slices.Concat(edgeSerials, noSerials)
	for _, a := range all {
		for _, b := range all {
			if got := impl.SerialLess(a, b); got != lessSerialAs(a, b) {
				t.Errorf("SerialLess(%d, %d) = %v", a, b, got)
			}
		}
	}
	for _, pair := range [][2]int{{7, 8}, {0, 1}, {4294967295, 0}, {4294967294, 1}, {0, 2147483647}, {1, 2147483648}, {2147483648, 4294967295}, {2147483649, 0}, {4294967295, 2147483646}} {
		if !impl.SerialLess(pair[0], pair[1]) || impl.SerialLess(pair[1], pair[0]) {
			t.Errorf("%d is not earlier than %d", pair[0], pair[1])
		}
	}
	for _, pair := range [][2]int{{0, 2147483648}, {1, 2147483649}, {2147483647, 4294967295}, {5, 5}, {0, 0}, {4294967295, 4294967295}, {0, 4294967296}, {-1, 0}, {-1, 1}, {4294967295, 4294967296}} {
		if impl.SerialLess(pair[0], pair[1]) || impl.SerialLess(pair[1], pair[0]) {
			t.Errorf("one of %d and %d is earlier", pair[0], pair[1])
		}
	}
}

func TestSerialLessOfSteps(t *testing.T) {
	for _, serial := range edgeSerials {
		for _, steps := range []int{1, 2, 3, 100, 65536, 1073741824, 2147483646, 2147483647} {
			later, ok := impl.SerialAdd(serial, steps)
			if !ok || !impl.SerialLess(serial, later) || impl.SerialLess(later, serial) {
				t.Errorf("%d is not later than %d", later, serial)
			}
		}
		half, _ := impl.SerialAdd(serial, 2147483647)
		half, _ = impl.SerialAdd(half, 1)
		if impl.SerialLess(serial, half) || impl.SerialLess(half, serial) || impl.SerialLess(serial, serial) {
			t.Errorf("one of %d and %d is earlier", serial, half)
		}
	}
}

func TestDiffZones(t *testing.T) {
	from := zoneOn(t, 7, "w.a.b. 300 A 1.2.3.4", "w.a.b. 300 A 1.2.3.6", "m.a.b. 5 A 2.2.2.2", "*.a.b. 5 TXT \"\"")
	for _, c := range []struct {
		to   impl.Zone
		want impl.Diff
	}{
		{from, impl.Diff{From: 7, To: 7}},
		{zoneOn(t, 8, "w.a.b. 300 A 1.2.3.4", "w.a.b. 300 A 1.2.3.6", "m.a.b. 5 A 2.2.2.2", "*.a.b. 5 TXT \"\""), startDiff(t, 7, 8)},
		{zoneOn(t, 6, "w.a.b. 300 A 1.2.3.4", "w.a.b. 300 A 1.2.3.6", "m.a.b. 5 A 2.2.2.2", "*.a.b. 5 TXT \"\""), startDiff(t, 7, 6)},
		{zoneOn(t, 7, "w.a.b. 300 A 1.2.3.4", "m.a.b. 5 A 2.2.2.2", "*.a.b. 5 TXT \"\""), diffOf(t, 7, 7, "-w.a.b. 300 A 1.2.3.6")},
		{zoneOn(t, 7), diffOf(t, 7, 7, "-*.a.b. 5 TXT \"\"", "-m.a.b. 5 A 2.2.2.2", "-w.a.b. 300 A 1.2.3.4", "-w.a.b. 300 A 1.2.3.6")},
		{zoneOn(t, 0, "w.a.b. 300 A 1.2.3.4", "w.a.b. 300 A 1.2.3.5", "w.a.b. 300 A 1.2.3.6", "m.a.b. 6 A 2.2.2.2", "*.a.b. 5 TXT \" \"", "a.b. 5 NS ."), diffOf(t, 7, 0,
			"-"+startOn(7), "-*.a.b. 5 TXT \"\"", "-m.a.b. 5 A 2.2.2.2", "+a.b. 5 NS .", "+"+startOn(0), "+*.a.b. 5 TXT \" \"", "+m.a.b. 6 A 2.2.2.2", "+w.a.b. 300 A 1.2.3.5")},
		{zoneOn(t, 8, "w.a.b. 300 CNAME .", "m.a.b. 5 NS .", "m.a.b. 5 A 2.2.2.2", "*.a.b. 5 TXT \"\""), diffOf(t, 7, 8,
			"-"+startOn(7), "-w.a.b. 300 A 1.2.3.4", "-w.a.b. 300 A 1.2.3.6", "+"+startOn(8), "+m.a.b. 5 NS .", "+w.a.b. 300 CNAME .")},
		{zoneOf(t, "a.b.", "a.b. 61 SOA . 7 1 2 3 4", "*.a.b. 5 TXT \"\"", "m.a.b. 5 A 2.2.2.2", "w.a.b. 300 A 1.2.3.4", "w.a.b. 300 A 1.2.3.6"), diffOf(t, 7, 7, "-"+startOn(7), "+a.b. 61 SOA . 7 1 2 3 4")},
	} {
		d, ok := impl.DiffZones(from, c.to)
		checkDiff(t, d, ok, c.want, "DiffZones to "+zoneText(c.to))
		back := impl.Diff{From: c.want.To, To: c.want.From, Out: c.want.In, In: c.want.Out}
		d, ok = impl.DiffZones(c.to, from)
		checkDiff(t, d, ok, back, "DiffZones from "+zoneText(c.to))
	}
}

func TestDiffZonesAtLimits(t *testing.T) {
	last := zoneOn(t, 4294967295, hosts("", 0, 59)...)
	first := zoneOn(t, 0, hosts("", 59, 59)...)
	want := diffOf(t, 4294967295, 0, append(append([]string{"-" + startOn(4294967295)}, hosts("-", 0, 59)...), append([]string{"+" + startOn(0)}, hosts("+", 59, 59)...)...)...)
	d, ok := impl.DiffZones(last, first)
	checkDiff(t, d, ok, want, "DiffZones of 60 records")
	z, ok := impl.ApplyDiff(last, d)
	checkZone(t, z, ok, first, "ApplyDiff of 60 records")
	more := zoneOn(t, 0, hosts("", 59, 60)...)
	d, ok = impl.DiffZones(last, more)
	checkNoDiff(t, d, ok, "DiffZones to 61 records")
	d, ok = impl.DiffZones(more, last)
	checkNoDiff(t, d, ok, "DiffZones from 61 records")
}

func TestDiffZonesNeedsZones(t *testing.T) {
	good := zoneOf(t, "a.b.", zoneTexts...)
	for _, c := range faultCases(t) {
		d, ok := impl.DiffZones(good, c.zone)
		checkNoDiff(t, d, ok, "DiffZones to an invalid zone")
		d, ok = impl.DiffZones(c.zone, good)
		checkNoDiff(t, d, ok, "DiffZones from an invalid zone")
		d, ok = impl.DiffZones(c.zone, c.zone)
		checkNoDiff(t, d, ok, "DiffZones of an invalid zone")
	}
}

func TestDiffsLeadFromZoneToZone(t *testing.T) {
	cases := append(zoneCases(t), zoneOn(t, 0), zoneOn(t, 4294967295, "w.a.b. 5 A 1.2.3.4"), zoneOn(t, 8, hosts("", 3, 59)...))
	for _, a := range cases {
		for _, b := range cases {
			d, ok := impl.DiffZones(a, b)
			if a.Origin != b.Origin {
				checkNoDiff(t, d, ok, "DiffZones of two origins")
				continue
			}
			checkDiff(t, d, ok, diffAs(a, b), "DiffZones")
			if !impl.DiffValid(d) {
				t.Errorf("%q is not valid", diffText(d))
			}
			z, ok := impl.ApplyDiff(a, d)
			checkZone(t, z, ok, b, "ApplyDiff")
			back, _ := impl.BackDiff(d)
			z, ok = impl.ApplyDiff(b, back)
			checkZone(t, z, ok, a, "ApplyDiff back")
		}
	}
}

func TestDiffValid(t *testing.T) {
	for _, d := range diffCases(t) {
		if !impl.DiffValid(d) {
			t.Errorf("DiffValid(%q) = false", diffText(d))
		}
	}
	for _, d := range invalidDiffs(t) {
		if impl.DiffValid(d) {
			t.Errorf("DiffValid(%.400q) = true", diffText(d))
		}
	}
}

func TestDiffValidOfEachPair(t *testing.T) {
	var list []impl.Record
	for _, c := range recordCases() {
		list = append(list, c.record)
	}
	for _, a := range list {
		for _, b := range list {
			for _, d := range []impl.Diff{{Out: []impl.Record{a}, In: []impl.Record{b}}, {Out: []impl.Record{a, b}}, {In: []impl.Record{a, b}}} {
				if got := impl.DiffValid(d); got != validDiffAs(d) {
					t.Errorf("DiffValid(%q) = %v", diffText(d), got)
				}
			}
		}
	}
	// Records that differ in one place are not the same.
	for _, texts := range [][2]string{
		{". 0 SOA . 0 0 0 0 0", ". 0 SOA . 0 0 0 0 1"}, {". 0 SOA . 0 0 0 0 0", ". 0 SOA . 1 0 0 0 0"}, {". 0 SOA . 0 0 0 0 0", ". 0 SOA a. 0 0 0 0 0"}, {". 0 A 0.0.0.0", ". 0 A 0.0.0.1"}, {". 0 A 0.0.0.0", ". 0 A 1.0.0.0"},
		{". 0 MX 0 .", ". 0 MX 1 ."}, {". 0 MX 0 .", ". 0 MX 0 a."}, {". 0 TXT \"\"", ". 0 TXT \" \""}, {". 0 NS .", ". 0 PTR ."}, {". 0 NS .", "a. 0 NS ."}, {". 0 NS .", ". 1 NS ."},
	} {
		d := diffOf(t, 0, 0, "-"+texts[0], "+"+texts[1])
		back := diffOf(t, 0, 0, "-"+texts[1], "+"+texts[0])
		twice := diffOf(t, 0, 0, "-"+texts[0], "+"+texts[0])
		if !impl.DiffValid(d) || !impl.DiffValid(back) || impl.DiffValid(twice) {
			t.Errorf("DiffValid takes %q as the same, or not as the same as itself", texts)
		}
	}
}

func TestDiffSame(t *testing.T) {
	cases := []impl.Diff{{From: -1, To: math.MaxInt, Out: []impl.Record{{}}, In: []impl.Record{{}, {}}}}
	for i, d := range append(diffCases(t), invalidDiffs(t)...) {
		if i%13 == 0 && len(d.Out)+len(d.In) < 200 {
			cases = append(cases, d)
		}
	}
	for i, d := range cases {
		if !impl.DiffSame(d, d) || !impl.DiffSame(d, copyDiff(d)) {
			t.Fatalf("%q is not the same as itself", diffText(d))
		}
		for _, other := range cases[:i] {
			if got := impl.DiffSame(d, other); got != sameDiff(d, other) || got != impl.DiffSame(other, d) {
				t.Fatalf("DiffSame(%q, %q) = %v", diffText(d), diffText(other), got)
			}
		}
	}
	empty := impl.Diff{Out: []impl.Record{}, In: []impl.Record{}}
	nums := impl.Diff{Out: []impl.Record{{Nums: []int{}}}, In: []impl.Record{{Nums: []int{}}}}
	if !impl.DiffSame(impl.Diff{}, empty) || !impl.DiffSame(impl.Diff{Out: []impl.Record{{}}, In: []impl.Record{{}}}, nums) {
		t.Error("nothing and nil are not the same")
	}
}

func TestDiffSameOfEachChange(t *testing.T) {
	d := diffOf(t, 7, 8, "-"+startOn(7), "-w.a.b. 5 A 1.2.3.4", "-x.a.b. 6 NS .", "+"+startOn(8), "+w.a.b. 5 A 1.2.3.5", "+y.a.b. 5 TXT \"y\"")
	differ := func(change func(d *impl.Diff)) {
		t.Helper()
		other := copyDiff(d)
		change(&other)
		if impl.DiffSame(d, other) || impl.DiffSame(other, d) {
			t.Errorf("DiffSame of %q and %q", diffText(d), diffText(other))
		}
	}
	differ(func(d *impl.Diff) { d.From = 8 })
	differ(func(d *impl.Diff) { d.To = 7 })
	differ(func(d *impl.Diff) { d.From, d.To = d.To, d.From })
	differ(func(d *impl.Diff) { d.From += 4294967296 })
	differ(func(d *impl.Diff) { d.Out, d.In = d.In, d.Out })
	for _, list := range []func(d *impl.Diff) *[]impl.Record{func(d *impl.Diff) *[]impl.Record { return &d.Out }, func(d *impl.Diff) *[]impl.Record { return &d.In }} {
		differ(func(d *impl.Diff) { *list(d) = nil })
		differ(func(d *impl.Diff) { *list(d) = append(*list(d), impl.Record{}) })
		for i := range d.Out {
			differ(func(d *impl.Diff) { *list(d) = slices.Delete(*list(d), i, i+1) })
			differ(func(d *impl.Diff) { *list(d) = slices.Insert(*list(d), i, (*list(d))[i]) })
			differ(func(d *impl.Diff) { (*list(d))[i], (*list(d))[(i+1)%3] = (*list(d))[(i+1)%3], (*list(d))[i] })
			differ(func(d *impl.Diff) { (*list(d))[i].Name = "v.a.b." })
			differ(func(d *impl.Diff) { (*list(d))[i].Ttl++ })
			differ(func(d *impl.Diff) { (*list(d))[i].Kind++ })
			differ(func(d *impl.Diff) { (*list(d))[i].Nums = append((*list(d))[i].Nums, 0) })
			differ(func(d *impl.Diff) { (*list(d))[i].Target += "." })
			differ(func(d *impl.Diff) { (*list(d))[i].Text += " " })
		}
	}
}

func TestApplyDiff(t *testing.T) {
	z := zoneOn(t, 7, "w.a.b. 300 A 1.2.3.4", "w.a.b. 300 A 1.2.3.6", "m.a.b. 5 A 2.2.2.2")
	for _, c := range []struct {
		diff impl.Diff
		want impl.Zone
	}{
		{impl.Diff{From: 7, To: 7}, z},
		{startDiff(t, 7, 8), zoneOn(t, 8, "w.a.b. 300 A 1.2.3.4", "w.a.b. 300 A 1.2.3.6", "m.a.b. 5 A 2.2.2.2")},
		{startDiff(t, 7, 4294967295), zoneOn(t, 4294967295, "w.a.b. 300 A 1.2.3.4", "w.a.b. 300 A 1.2.3.6", "m.a.b. 5 A 2.2.2.2")},
		{startDiff(t, 7, 6), zoneOn(t, 6, "w.a.b. 300 A 1.2.3.4", "w.a.b. 300 A 1.2.3.6", "m.a.b. 5 A 2.2.2.2")},
		{diffOf(t, 7, 7, "-m.a.b. 5 A 2.2.2.2"), zoneOn(t, 7, "w.a.b. 300 A 1.2.3.4", "w.a.b. 300 A 1.2.3.6")},
		{diffOf(t, 7, 7, "+m.a.b. 5 A 2.2.2.1"), zoneOn(t, 7, "w.a.b. 300 A 1.2.3.4", "w.a.b. 300 A 1.2.3.6", "m.a.b. 5 A 2.2.2.1", "m.a.b. 5 A 2.2.2.2")},
		{diffOf(t, 7, 7, "-m.a.b. 5 A 2.2.2.2", "+m.a.b. 6 A 2.2.2.2"), zoneOn(t, 7, "w.a.b. 300 A 1.2.3.4", "w.a.b. 300 A 1.2.3.6", "m.a.b. 6 A 2.2.2.2")},
		{diffOf(t, 7, 7, "-m.a.b. 5 A 2.2.2.2", "+m.a.b. 5 CNAME ."), zoneOn(t, 7, "w.a.b. 300 A 1.2.3.4", "w.a.b. 300 A 1.2.3.6", "m.a.b. 5 CNAME .")},
		{diffOf(t, 7, 0, "-"+startOn(7), "-w.a.b. 300 A 1.2.3.4", "+a.b. 5 A 0.0.0.0", "+"+startOn(0), "+*.a.b. 5 NS .", "+w.a.b. 300 A 1.2.3.5", "+z.a.b. 5 NS ."),
			zoneOn(t, 0, "a.b. 5 A 0.0.0.0", "*.a.b. 5 NS .", "m.a.b. 5 A 2.2.2.2", "w.a.b. 300 A 1.2.3.5", "w.a.b. 300 A 1.2.3.6", "z.a.b. 5 NS .")},
		{diffOf(t, 7, 7, "-"+startOn(7), "+a.b. 9 SOA x. 7 0 0 0 0"), zoneOf(t, "a.b.", "a.b. 9 SOA x. 7 0 0 0 0", "m.a.b. 5 A 2.2.2.2", "w.a.b. 300 A 1.2.3.4", "w.a.b. 300 A 1.2.3.6")},
	} {
		got, ok := impl.ApplyDiff(z, c.diff)
		checkZone(t, got, ok, c.want, "ApplyDiff of "+diffText(c.diff))
	}
	for _, d := range []impl.Diff{
		// Other serials: that of the zone, that behind, both, and of a difference that lacks a start.
		startDiff(t, 8, 9), startDiff(t, 4294967295, 0), {From: 8, To: 8}, {From: 8, To: 7}, {From: 7, To: 8}, {From: 4294967295, To: 7}, {From: 0, To: 0},
		diffOf(t, 7, 9, "-"+startOn(7), "+"+startOn(8)), diffOf(t, 7, 7, "-"+startOn(7), "+"+startOn(8)), diffOf(t, 8, 8, "-"+startOn(7), "+"+startOn(8)), diffOf(t, 6, 8, "-"+startOn(7), "+"+startOn(8)),
		diffOf(t, 7, 8, "-"+startOn(7)), diffOf(t, 7, 7, "-"+startOn(7)), diffOf(t, 7, 8, "+"+startOn(8)), diffOf(t, 7, 7, "+"+startOn(8)), diffOf(t, 7, 8, "-"+startOn(6), "+"+startOn(8)),
		// Records that are not there, and records that are.
		diffOf(t, 7, 7, "-m.a.b. 5 A 2.2.2.3"), diffOf(t, 7, 7, "-m.a.b. 6 A 2.2.2.2"), diffOf(t, 7, 7, "-n.a.b. 5 A 2.2.2.2"), diffOf(t, 7, 7, "-c. 5 A 2.2.2.2"),
		diffOf(t, 7, 7, "-m.a.b. 5 A 2.2.2.2", "-w.a.b. 300 A 1.2.3.5"), diffOf(t, 7, 7, "-m.a.b. 5 A 2.2.2.2", "+w.a.b. 300 A 1.2.3.4"), diffOf(t, 7, 7, "+m.a.b. 5 A 2.2.2.2"), diffOf(t, 7, 7, "+"+startOn(7)),
		// Zones that would not be valid.
		diffOf(t, 7, 7, "+c. 5 A 2.2.2.2"), diffOf(t, 7, 7, "+b. 5 A 2.2.2.2"), diffOf(t, 7, 7, "+m.a.b. 6 A 2.2.2.3"), diffOf(t, 7, 7, "+m.a.b. 5 CNAME ."), diffOf(t, 7, 7, "+x.a.b. 5 CNAME .", "+x.a.b. 5 CNAME a."),
		diffOf(t, 7, 7, "+a.b. 60 SOA . 6 1 2 3 4"), diffOf(t, 7, 7, "+x.a.b. 60 SOA . 7 1 2 3 4"), diffOf(t, 7, 8, "-"+startOn(7), "+x.a.b. 60 SOA . 8 1 2 3 4"), diffOf(t, 7, 8, "-"+startOn(7), "+"+startOn(8), "+"+startOn(9)),
	} {
		if !impl.DiffValid(d) {
			t.Errorf("DiffValid(%q) = false", diffText(d))
		}
		got, ok := impl.ApplyDiff(z, d)
		checkNoZone(t, got, ok, "ApplyDiff of "+diffText(d))
	}
}

func TestApplyDiffAtLimits(t *testing.T) {
	for n := 1; n <= 60; n++ {
		z := zoneOn(t, 7, hosts("", 0, n-1)...)
		for _, more := range []int{n - 1, 59, 60} {
			d := diffOf(t, 7, 7, hosts("+", n-1, more-n+1)...)
			got, ok := impl.ApplyDiff(z, d)
			if more < 60 {
				checkZone(t, got, ok, zoneOn(t, 7, hosts("", 0, more)...), "ApplyDiff")
			} else {
				checkNoZone(t, got, ok, "ApplyDiff to 61 records")
			}
			// As many go as come, so that there are 60 again.
			all := diffOf(t, 7, 8, append([]string{"-" + startOn(7), "+" + startOn(8)}, append(hosts("-", 0, n-1), hosts("+", n-1, more)...)...)...)
			got, ok = impl.ApplyDiff(z, all)
			if more < 60 {
				checkZone(t, got, ok, zoneOn(t, 8, hosts("", n-1, more)...), "ApplyDiff")
			} else {
				checkNoZone(t, got, ok, "ApplyDiff of 61 records")
			}
		}
	}
}

func TestApplyDiffNeedsAZoneAndADifference(t *testing.T) {
	for _, c := range faultCases(t) {
		for _, d := range []impl.Diff{{}, {From: 7, To: 7}, {From: 1, To: 1}, startDiff(t, 7, 8), diffOf(t, 7, 7, "+"+startText), {From: 7, To: 7, Out: c.zone.Records[:min(1, len(c.zone.Records))]}} {
			got, ok := impl.ApplyDiff(c.zone, d)
			checkNoZone(t, got, ok, "ApplyDiff to an invalid zone")
		}
	}
	// What makes a zone invalid does not go with a difference.
	for _, texts := range [][]string{{"c. 5 A 1.2.3.4"}, {"w.a.b. 5 A 1.2.3.4", "w.a.b. 6 A 1.2.3.5"}, {"w.a.b. 5 A 1.2.3.4", "w.a.b. 5 CNAME ."}} {
		z := zoneOn(t, 7, texts...)
		got, ok := impl.ApplyDiff(z, diffOf(t, 7, 7, "-"+texts[len(texts)-1]))
		checkNoZone(t, got, ok, "ApplyDiff to an invalid zone")
	}
	z := zoneOn(t, 7, "w.a.b. 5 A 1.2.3.4", "x.a.b. 6 NS .")
	for _, d := range invalidDiffs(t) {
		got, ok := impl.ApplyDiff(z, d)
		checkNoZone(t, got, ok, "ApplyDiff of an invalid difference")
	}
	for _, d := range []impl.Diff{
		diffOf(t, 7, 7, "-w.a.b. 5 A 1.2.3.4", "+w.a.b. 5 A 1.2.3.4"), diffOf(t, 7, 7, "-"+startOn(7), "+"+startOn(7)), diffOf(t, 7, 7, "-y.a.b. 5 NS .", "+y.a.b. 5 NS ."),
		diffOf(t, 7, 7, "-x.a.b. 6 NS .", "-w.a.b. 5 A 1.2.3.4"), diffOf(t, 7, 7, "-x.a.b. 6 NS .", "-x.a.b. 6 NS ."), diffOf(t, 7, 7, "+y.a.b. 5 NS z.", "+y.a.b. 5 NS ."), diffOf(t, 7, 7, "+y.a.b. 5 NS .", "+y.a.b. 5 NS ."),
	} {
		got, ok := impl.ApplyDiff(z, d)
		checkNoZone(t, got, ok, "ApplyDiff of "+diffText(d))
	}
}

// diffPool returns records, in order, that make differences and zones of a.b. with and without faults.
func diffPool(t *testing.T) []impl.Record {
	t.Helper()
	return recordsOf(t, startOn(7), startOn(8), "x.a.b. 5 A 1.1.1.1", "x.a.b. 6 A 1.1.1.1", "x.a.b. 5 CNAME .")
}

// poolDiffs returns the differences between two serials with each record of a pool in none of both lists, in Out, in In, or in both.
func poolDiffs(pool []impl.Record, from int, to int) []impl.Diff {
	var diffs []impl.Diff
	for set := range 1 << (2 * len(pool)) {
		d := impl.Diff{From: from, To: to}
		for i, r := range pool {
			if set>>(2*i)&1 == 1 {
				d.Out = append(d.Out, r)
			}
			if set>>(2*i)&2 == 2 {
				d.In = append(d.In, r)
			}
		}
		diffs = append(diffs, d)
	}
	return diffs
}

func TestApplyDiffAsDefined(t *testing.T) {
	pool := diffPool(t)
	for set := range 1 << len(pool) {
		z := impl.Zone{Origin: "a.b."}
		for i, r := range pool {
			if set>>i&1 == 1 {
				z.Records = append(z.Records, r)
			}
		}
		for _, serials := range [][2]int{{7, 7}, {7, 8}, {8, 7}} {
			for _, d := range poolDiffs(pool, serials[0], serials[1]) {
				got, ok := impl.ApplyDiff(z, d)
				if want, fits := applyAs(z, d); fits {
					checkZone(t, got, ok, want, "ApplyDiff of "+diffText(d))
				} else {
					checkNoZone(t, got, ok, "ApplyDiff of "+diffText(d))
				}
			}
		}
	}
}

func TestBackDiff(t *testing.T) {
	for _, d := range diffCases(t) {
		back, ok := impl.BackDiff(d)
		checkDiff(t, back, ok, impl.Diff{From: d.To, To: d.From, Out: d.In, In: d.Out}, "BackDiff")
		again, ok := impl.BackDiff(back)
		checkDiff(t, again, ok, d, "BackDiff twice")
	}
	for _, d := range invalidDiffs(t) {
		back, ok := impl.BackDiff(d)
		checkNoDiff(t, back, ok, "BackDiff of an invalid difference")
	}
	d, ok := impl.BackDiff(diffOf(t, 7, 8, "-"+startOn(7), "+"+startOn(8), "+w.a.b. 5 A 1.2.3.4"))
	checkDiff(t, d, ok, diffOf(t, 8, 7, "-"+startOn(8), "-w.a.b. 5 A 1.2.3.4", "+"+startOn(7)), "BackDiff")
}

func TestJoinDiffs(t *testing.T) {
	w, x, y := "w.a.b. 5 A 1.2.3.4", "x.a.b. 5 NS .", "y.a.b. 5 TXT \"\""
	for _, c := range []struct{ a, b, want impl.Diff }{
		{impl.Diff{}, impl.Diff{}, impl.Diff{}},
		{impl.Diff{From: 7, To: 7}, impl.Diff{From: 7, To: 7}, impl.Diff{From: 7, To: 7}},
		{impl.Diff{From: 1, To: 2}, impl.Diff{From: 2, To: 3}, impl.Diff{From: 1, To: 3}},
		{startDiff(t, 7, 8), startDiff(t, 8, 9), startDiff(t, 7, 9)},
		{startDiff(t, 7, 8), startDiff(t, 8, 7), impl.Diff{From: 7, To: 7}},
		{startDiff(t, 7, 8), impl.Diff{From: 8, To: 8}, startDiff(t, 7, 8)},
		{impl.Diff{From: 7, To: 7}, startDiff(t, 7, 8), startDiff(t, 7, 8)},
		{startDiff(t, 4294967294, 4294967295), startDiff(t, 4294967295, 0), startDiff(t, 4294967294, 0)},
		{startDiff(t, 0, 2147483647), startDiff(t, 2147483647, 4294967294), startDiff(t, 0, 4294967294)},
		// A record that comes and goes, one that goes and comes, and both.
		{diffOf(t, 1, 2, "+"+w), diffOf(t, 2, 3, "-"+w), impl.Diff{From: 1, To: 3}},
		{diffOf(t, 1, 2, "-"+w), diffOf(t, 2, 3, "+"+w), impl.Diff{From: 1, To: 3}},
		{diffOf(t, 1, 2, "-"+w, "+"+x), diffOf(t, 2, 3, "-"+x, "+"+w), impl.Diff{From: 1, To: 3}},
		{diffOf(t, 1, 2, "+"+w, "+"+x), diffOf(t, 2, 3, "-"+w), diffOf(t, 1, 3, "+"+x)},
		{diffOf(t, 1, 2, "-"+w, "-"+x), diffOf(t, 2, 3, "+"+w), diffOf(t, 1, 3, "-"+x)},
		{diffOf(t, 1, 2, "+"+w), diffOf(t, 2, 3, "-"+w, "-"+x), diffOf(t, 1, 3, "-"+x)},
		{diffOf(t, 1, 2, "-"+w), diffOf(t, 2, 3, "+"+w, "+"+x), diffOf(t, 1, 3, "+"+x)},
		{diffOf(t, 1, 2, "-"+w, "+"+x), diffOf(t, 2, 3, "-"+x, "+"+y), diffOf(t, 1, 3, "-"+w, "+"+y)},
		// A record with another time is another one.
		{diffOf(t, 1, 2, "-"+w, "+w.a.b. 6 A 1.2.3.4"), diffOf(t, 2, 3, "-w.a.b. 6 A 1.2.3.4", "+w.a.b. 7 A 1.2.3.4"), diffOf(t, 1, 3, "-"+w, "+w.a.b. 7 A 1.2.3.4")},
		{diffOf(t, 1, 2, "+"+w), diffOf(t, 2, 3, "-w.a.b. 6 A 1.2.3.4"), diffOf(t, 1, 3, "-w.a.b. 6 A 1.2.3.4", "+"+w)},
		// Both lists are merged in order, whichever of both has a record.
		{diffOf(t, 1, 2, "-"+x, "+"+w), diffOf(t, 2, 3, "-"+y, "+a.b. 5 NS ."), diffOf(t, 1, 3, "-"+x, "-"+y, "+a.b. 5 NS .", "+"+w)},
		{diffOf(t, 1, 2, "-"+y, "+a.b. 5 NS ."), diffOf(t, 2, 3, "-"+x, "+"+w), diffOf(t, 1, 3, "-"+x, "-"+y, "+a.b. 5 NS .", "+"+w)},
		{diffOf(t, 1, 2, "-"+w, "-"+y, "+a. 1 NS .", "+c. 1 NS ."), diffOf(t, 2, 3, "-"+x, "-z.a.b. 5 NS .", "+. 1 NS .", "+b. 1 NS ."),
			diffOf(t, 1, 3, "-"+w, "-"+x, "-"+y, "-z.a.b. 5 NS .", "+. 1 NS .", "+a. 1 NS .", "+b. 1 NS .", "+c. 1 NS .")},
	} {
		got, ok := impl.JoinDiffs(c.a, c.b)
		checkDiff(t, got, ok, c.want, "JoinDiffs of "+diffText(c.a)+" and "+diffText(c.b))
	}
	for _, c := range [][2]impl.Diff{
		// Differences that do not follow each other.
		{startDiff(t, 7, 8), startDiff(t, 7, 8)}, {startDiff(t, 8, 9), startDiff(t, 7, 8)}, {startDiff(t, 7, 8), startDiff(t, 9, 10)}, {impl.Diff{From: 1, To: 2}, impl.Diff{From: 1, To: 2}}, {impl.Diff{From: 0, To: 4294967295}, impl.Diff{}},
		// Records that go twice, and records that come twice.
		{diffOf(t, 1, 2, "-"+w), diffOf(t, 2, 3, "-"+w)}, {diffOf(t, 1, 2, "+"+w), diffOf(t, 2, 3, "+"+w)}, {diffOf(t, 1, 2, "-"+w, "-"+x, "+"+y), diffOf(t, 2, 3, "-"+x, "-"+y)},
		{diffOf(t, 1, 2, "-"+y, "+"+w, "+"+x), diffOf(t, 2, 3, "+"+x, "+"+y)}, {diffOf(t, 7, 8, "-"+startOn(7), "+"+startOn(8)), diffOf(t, 8, 9, "-"+startOn(7), "+"+startOn(9))},
	} {
		got, ok := impl.JoinDiffs(c[0], c[1])
		checkNoDiff(t, got, ok, "JoinDiffs of "+diffText(c[0])+" and "+diffText(c[1]))
	}
}

func TestJoinDiffsAtLimits(t *testing.T) {
	for _, sign := range []string{"-", "+"} {
		other := "+"
		if sign == "+" {
			other = "-"
		}
		for n := range 61 {
			a, b := diffOf(t, 1, 2, hosts(sign, 0, n)...), diffOf(t, 2, 3, hosts(sign, n, 60-n)...)
			got, ok := impl.JoinDiffs(a, b)
			checkDiff(t, got, ok, diffOf(t, 1, 3, hosts(sign, 0, 60)...), "JoinDiffs to 60 records")
			if n > 0 {
				b = diffOf(t, 2, 3, hosts(sign, n, 61-n)...)
				got, ok = impl.JoinDiffs(a, b)
				checkNoDiff(t, got, ok, "JoinDiffs to 61 records")
			}
			// What comes and goes does not count.
			a = diffOf(t, 1, 2, hosts(sign, 0, 60)...)
			b = diffOf(t, 2, 3, append(hosts(other, 0, n), hosts(sign, 60, n)...)...)
			got, ok = impl.JoinDiffs(a, b)
			checkDiff(t, got, ok, diffOf(t, 1, 3, hosts(sign, n, 60)...), "JoinDiffs of what comes and goes")
		}
		a, b := diffOf(t, 1, 2, hosts(sign, 0, 60)...), diffOf(t, 2, 3, hosts(sign, 60, 60)...)
		got, ok := impl.JoinDiffs(a, b)
		checkNoDiff(t, got, ok, "JoinDiffs to 120 records")
		b = diffOf(t, 2, 3, hosts(other, 60, 60)...)
		got, ok = impl.JoinDiffs(a, b)
		checkDiff(t, got, ok, diffOf(t, 1, 3, append(hosts(sign, 0, 60), hosts(other, 60, 60)...)...), "JoinDiffs to 60 records each")
	}
}

func TestJoinDiffsNeedsDifferences(t *testing.T) {
	for _, d := range invalidDiffs(t) {
		for _, other := range []impl.Diff{{From: d.To, To: d.To}, {From: d.To, To: 9}, {From: d.From, To: d.From}, {From: 9, To: d.From}} {
			got, ok := impl.JoinDiffs(d, other)
			checkNoDiff(t, got, ok, "JoinDiffs of an invalid difference")
			got, ok = impl.JoinDiffs(other, d)
			checkNoDiff(t, got, ok, "JoinDiffs with an invalid difference")
		}
	}
	// What makes a difference invalid does not go with another one.
	w := "w.a.b. 5 A 1.2.3.4"
	for _, c := range [][2]impl.Diff{
		{diffOf(t, 1, 2, "-"+w, "+"+w), diffOf(t, 2, 3, "-"+w)}, {diffOf(t, 1, 2, "-"+w, "+"+w), diffOf(t, 2, 3, "+"+w)}, {diffOf(t, 1, 2, "+"+w, "+"+w), diffOf(t, 2, 3, "-"+w)},
		{diffOf(t, 1, 2, "+"+w), diffOf(t, 2, 3, "-"+w, "+"+w)}, {diffOf(t, 1, 2, "-"+w), diffOf(t, 2, 3, "+"+w, "+"+w)}, {diffOf(t, 1, 2, hosts("+", 0, 61)...), diffOf(t, 2, 3, hosts("-", 0, 60)...)},
	} {
		got, ok := impl.JoinDiffs(c[0], c[1])
		checkNoDiff(t, got, ok, "JoinDiffs of "+diffText(c[0])+" and "+diffText(c[1]))
	}
}

func TestJoinDiffsAsDefined(t *testing.T) {
	pool := recordsOf(t, startOn(7), "x.a.b. 5 A 1.1.1.1", "x.a.b. 6 A 1.1.1.1", "x.b. 0 NS .")
	second := poolDiffs(pool, 8, 9)
	for _, a := range poolDiffs(pool, 7, 8) {
		for _, b := range second {
			got, ok := impl.JoinDiffs(a, b)
			if want, fits := joinAs(a, b); fits {
				checkDiff(t, got, ok, want, "JoinDiffs of "+diffText(a)+" and "+diffText(b))
			} else {
				checkNoDiff(t, got, ok, "JoinDiffs of "+diffText(a)+" and "+diffText(b))
			}
		}
	}
}

// poolZones returns the valid zones of a.b. with a serial and records of a pool.
func poolZones(t *testing.T, serial int, texts ...string) []impl.Zone {
	t.Helper()
	var zones []impl.Zone
	for set := range 1 << len(texts) {
		var list []string
		for i, text := range texts {
			if set>>i&1 == 1 {
				list = append(list, text)
			}
		}
		if z := zoneOn(t, serial, list...); impl.ZoneValid(z) {
			zones = append(zones, z)
		}
	}
	return zones
}

func TestJoinedDiffsLeadFromZoneToZone(t *testing.T) {
	texts := []string{"a.b. 5 NS .", "x.a.b. 5 A 1.1.1.1", "x.a.b. 6 A 1.1.1.1", "x.a.b. 5 CNAME ."}
	first, between := poolZones(t, 4294967294, texts...), poolZones(t, 4294967295, texts...)
	for _, last := range [][]impl.Zone{poolZones(t, 0, texts...), first} {
		for _, a := range first {
			for _, b := range between {
				d, _ := impl.DiffZones(a, b)
				for _, c := range last {
					e, _ := impl.DiffZones(b, c)
					joined, ok := impl.JoinDiffs(d, e)
					checkDiff(t, joined, ok, diffAs(a, c), "JoinDiffs of "+diffText(d)+" and "+diffText(e))
					z, ok := impl.ApplyDiff(a, joined)
					checkZone(t, z, ok, c, "ApplyDiff of joined differences")
				}
			}
		}
	}
}

func TestJoinDiffsInARow(t *testing.T) {
	serials := []int{4294967293, 4294967294, 4294967295, 0, 1, 2}
	var zones []impl.Zone
	var diffs []impl.Diff
	for i, serial := range serials {
		zones = append(zones, zoneOn(t, serial, hosts("", i*7, 50)...))
		if i > 0 {
			d, _ := impl.DiffZones(zones[i-1], zones[i])
			diffs = append(diffs, d)
		}
	}
	for from := range diffs {
		joined := diffs[from]
		for to := from + 1; to < len(diffs); to++ {
			next, ok := impl.JoinDiffs(joined, diffs[to])
			checkDiff(t, next, ok, diffAs(zones[from], zones[to+1]), "JoinDiffs in a row")
			joined = next
		}
		late := diffs[len(diffs)-1]
		for to := len(diffs) - 2; to >= from; to-- {
			next, ok := impl.JoinDiffs(diffs[to], late)
			checkDiff(t, next, ok, diffAs(zones[to], zones[len(zones)-1]), "JoinDiffs from the end on")
			late = next
		}
		back, _ := impl.BackDiff(diffs[from])
		nothing, ok := impl.JoinDiffs(diffs[from], back)
		checkDiff(t, nothing, ok, impl.Diff{From: serials[from], To: serials[from]}, "JoinDiffs with what leads back")
	}
}

// roomyDiff returns a difference like d, whose slices have memory beyond their lengths, and all of that memory.
func roomyDiff(d impl.Diff) (impl.Diff, [2][]impl.Record) {
	out, allOut := roomy(impl.Zone{Records: d.Out})
	in, allIn := roomy(impl.Zone{Records: d.In})
	return impl.Diff{From: d.From, To: d.To, Out: out.Records, In: in.Records}, [2][]impl.Record{allOut, allIn}
}

// checkDiffNew reports records of a difference that share memory.
func checkDiffNew(t *testing.T, d impl.Diff, call string) {
	t.Helper()
	want := copyList(d.In)
	spoilOne(t, d.Out, call)
	spoil(d.Out)
	if !sameRecords(d.In, want) {
		t.Errorf("Out and In of one result of %s share memory", call)
	}
	spoilOne(t, d.In, call)
	spoil(d.In)
}

func TestDiffsAreNew(t *testing.T) {
	texts := [2][]string{{"w.a.b. 5 A 1.2.3.4", "x.a.b. 5 MX 5 .", "y.a.b. 6 MX 7 ."}, {"v.a.b. 5 A 1.2.3.4", "x.a.b. 5 MX 5 .", "y.a.b. 6 MX 8 ."}}
	firstDiff := diffAs(zoneOn(t, 7, texts[0]...), zoneOn(t, 8, texts[1]...))
	secondDiff := diffOf(t, 8, 9, "-"+startOn(8), "-x.a.b. 5 MX 5 .", "-y.a.b. 6 MX 8 .", "+"+startOn(9), "+z.a.b. 5 A 1.2.3.4")
	calls := map[string]func(a impl.Zone, b impl.Zone, d impl.Diff, e impl.Diff) impl.Diff{
		"DiffZones": func(a impl.Zone, b impl.Zone, _, _ impl.Diff) impl.Diff { made, _ := impl.DiffZones(a, b); return made },
		"BackDiff":  func(_, _ impl.Zone, d, _ impl.Diff) impl.Diff { made, _ := impl.BackDiff(d); return made },
		"JoinDiffs": func(_, _ impl.Zone, d, e impl.Diff) impl.Diff { made, _ := impl.JoinDiffs(d, e); return made },
		"JoinNothing": func(_, _ impl.Zone, d, _ impl.Diff) impl.Diff {
			made, _ := impl.JoinDiffs(d, impl.Diff{From: 8, To: 8})
			return made
		},
		"NothingJoined": func(_, _ impl.Zone, d, _ impl.Diff) impl.Diff {
			made, _ := impl.JoinDiffs(impl.Diff{From: 7, To: 7}, d)
			return made
		},
		"ApplyDiff": func(a, _ impl.Zone, d, _ impl.Diff) impl.Diff {
			z, _ := impl.ApplyDiff(a, d)
			return impl.Diff{Out: z.Records}
		},
		"ApplyNothing": func(a, _ impl.Zone, _, _ impl.Diff) impl.Diff {
			z, _ := impl.ApplyDiff(a, impl.Diff{From: 7, To: 7})
			return impl.Diff{Out: z.Records}
		},
	}
	for name, call := range calls {
		a, allA := roomy(zoneOn(t, 7, texts[0]...))
		b, allB := roomy(zoneOn(t, 8, texts[1]...))
		d, allD := roomyDiff(firstDiff)
		e, allE := roomyDiff(secondDiff)
		all := [][]impl.Record{allA, allB, allD[0], allD[1], allE[0], allE[1]}
		var before [][]impl.Record
		for _, list := range all {
			before = append(before, wholeCopy(list))
		}
		first, second := call(a, b, d, e), call(a, b, d, e)
		want := copyDiff(second)
		if len(first.Out) == 0 || !sameDiff(first, second) {
			t.Fatalf("%s = %q, and then %q", name, diffText(first), diffText(second))
		}
		checkDiffNew(t, first, name)
		if !sameDiff(second, want) {
			t.Errorf("%s: a result changed to %q", name, diffText(second))
		}
		for i, list := range all {
			if !sameRecords(wholeCopy(list), before[i]) {
				t.Errorf("%s: an argument changed to %v", name, list)
			}
		}
		if third := call(a, b, d, e); !sameDiff(third, want) {
			t.Errorf("%s = %q after its result was written to", name, diffText(third))
		}
		for _, list := range all {
			spoil(list)
		}
		if !sameDiff(second, want) {
			t.Errorf("%s: a result changed to %q with an argument", name, diffText(second))
		}
	}
}

func TestDiffsAreNotChangedByQuestions(t *testing.T) {
	z, whole := roomy(zoneOn(t, 7, "w.a.b. 5 A 1.2.3.4", "x.a.b. 6 NS ."))
	wholeBefore := wholeCopy(whole)
	for i, c := range append(invalidDiffs(t), diffCases(t)...) {
		if len(c.Out)+len(c.In) > 200 || len(c.Out)+len(c.In) > 10 && i%10 > 0 {
			continue
		}
		d, all := roomyDiff(c)
		beforeOut, beforeIn := wholeCopy(all[0]), wholeCopy(all[1])
		impl.DiffValid(d)
		impl.DiffSame(d, d)
		impl.BackDiff(d)
		impl.ApplyDiff(z, d)
		impl.JoinDiffs(d, d)
		impl.JoinDiffs(d, impl.Diff{From: d.To, To: d.To})
		impl.DiffZones(z, impl.Zone{Origin: "a.b.", Records: d.Out})
		if !sameRecords(wholeCopy(all[0]), beforeOut) || !sameRecords(wholeCopy(all[1]), beforeIn) {
			t.Fatalf("the difference %q changed to %v", diffText(c), all)
		}
	}
	if !sameRecords(wholeCopy(whole), wholeBefore) {
		t.Errorf("the zone changed to %v", whole)
	}
}
