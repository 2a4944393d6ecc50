package tests

import (
	"bytes"
	"math"
	"slices"
	"strings"
	"testing"

	"loop.example/zonefiles/impl"
)

// mostWire is the number of bytes that chapter 6 allows code to have.
const mostWire = 16000

// wirePlace is a name that was begun with a label, and its place.
type wirePlace struct {
	name  string
	place int
}

// wireTexts are records whose names share in all the ways that there are.
var wireTexts = []string{
	". 0 NS .", "b. 1 NS b.", "b. 1 TXT \"b.\"", "a.b. 100000 SOA ns.a.b. 4294967295 1 256 65536 100000",
	"*.a.b. 300 CNAME a.b.", "*. 0 PTR *.a.b.", "a.b. 300 MX 999 mail.a.b.", "mail.a.b. 300 MX 256 b.",
	"www.mail.a.b. 7 A 0.1.254.255", "a.b.c. 9 PTR a.b.", "b.c. 9 CNAME c.", "c. 9 NS a.b.c.",
}

// number returns n with size bytes, the greatest one first.
func number(n int, size int) string {
	text := ""
	for range size {
		text = string([]byte{byte(n % 256)}) + text
		n /= 256
	}
	return text
}

// packNameAsDefined returns the bytes of a name by chapter 6's definition, behind code, and the places in it.
func packNameAsDefined(code string, s string, places []wirePlace, share bool) (string, []wirePlace) {
	labels := plainLabels(s)
	for i, label := range labels {
		end := strings.Join(labels[i:], ".") + "."
		for _, p := range places {
			if share && p.name == end {
				return code + number(192*256+p.place, 2), places
			}
		}
		places = append(places, wirePlace{end, len(code)})
		code += number(len(label), 1) + label
	}
	return code + "\x00", places
}

// packAsDefined returns code and the records behind it by chapter 6's definition.
func packAsDefined(code string, list []impl.Record, share bool) string {
	var places []wirePlace
	for _, r := range list {
		code, places = packNameAsDefined(code, r.Name, places, share)
		code += number(r.Kind, 1) + number(r.Ttl, 4)
		// The length is put in front of the data when it is known.
		start := len(code) + 1
		data := code + "?"
		switch r.Kind {
		case 1:
			for _, n := range r.Nums {
				data += number(n, 1)
			}
		case 16:
			data += number(len(r.Text), 1) + r.Text
		case 15:
			data, places = packNameAsDefined(data+number(r.Nums[0], 2), r.Target, places, share)
		default:
			data, places = packNameAsDefined(data, r.Target, places, share)
			for _, n := range r.Nums {
				data += number(n, 4)
			}
		}
		code += number(len(data)-start, 1) + data[start:]
	}
	return code
}

// labelsAsDefined reads labels at a place by chapter 6's definition; pointers must lead to places in front of least.
func labelsAsDefined(code string, at int, least int) ([]string, int, bool) {
	if at < 0 || at >= len(code) {
		return nil, 0, false
	}
	first := int(code[at])
	behind := at + 1 + first
	switch {
	case first == 0:
		return nil, at + 1, true
	case first >= 192 && at+1 < len(code):
		place := (first-192)*256 + int(code[at+1])
		if place >= least {
			return nil, 0, false
		}
		labels, _, ok := labelsAsDefined(code, place, place)
		return labels, at + 2, ok
	case first > 10 || behind > len(code):
		return nil, 0, false
	}
	labels, next, ok := labelsAsDefined(code, behind, least)
	return append([]string{code[at+1 : behind]}, labels...), next, ok
}

// nameAsDefined reads a name at a place by chapter 6's definition.
func nameAsDefined(code string, at int) (string, int, bool) {
	labels, behind, ok := labelsAsDefined(code, at, at)
	s := strings.Join(labels, ".") + "."
	if !ok || len(code) > mostWire || !isName(s) || strings.Count(s, ".") != max(len(labels), 1) {
		return "", 0, false
	}
	return s, behind, true
}

// valueOf returns the number whose bytes are code.
func valueOf(code string) int {
	n := 0
	for i := range len(code) {
		n = n*256 + int(code[i])
	}
	return n
}

// recordAsDefined reads a record at a place by chapter 6's definition.
func recordAsDefined(code string, at int) (impl.Record, int, bool) {
	name, at, ok := nameAsDefined(code, at)
	if !ok || len(code)-at < 6 || len(code)-at-6 < int(code[at+5]) {
		return impl.Record{}, 0, false
	}
	r := impl.Record{Name: name, Kind: int(code[at]), Ttl: valueOf(code[at+1 : at+5])}
	start, end := at+6, at+6+int(code[at+5])
	data, next := code[start:end], -1
	switch r.Kind {
	case 1:
		for i := range len(data) {
			r.Nums = append(r.Nums, int(data[i]))
		}
		next = end
	case 16:
		if data != "" && int(data[0]) == len(data)-1 {
			r.Text, next = data[1:], end
		}
	case 15:
		if len(data) > 2 {
			r.Nums = []int{valueOf(data[:2])}
			r.Target, next, _ = nameAsDefined(code[:end], start+2)
		}
	default:
		r.Target, next, ok = nameAsDefined(code[:end], start)
		for ok && next+4 <= end {
			r.Nums = append(r.Nums, valueOf(code[next:next+4]))
			next += 4
		}
	}
	if next != end || !impl.RecordValid(r) {
		return impl.Record{}, 0, false
	}
	return r, end, true
}

// listAsDefined reads records by chapter 6's definition.
func listAsDefined(code string) ([]impl.Record, bool) {
	if code == "" || code[0] > 60 {
		return nil, false
	}
	var list []impl.Record
	at := 1
	for range int(code[0]) {
		r, behind, ok := recordAsDefined(code, at)
		if !ok {
			return nil, false
		}
		list, at = append(list, r), behind
	}
	return list, at == len(code)
}

// checkName reports a name that is not read as wanted.
func checkName(t *testing.T, code string, at int, want string, wantBehind int) {
	t.Helper()
	if s, behind, ok := impl.UnpackName([]byte(code), at); !ok || s != want || behind != wantBehind {
		t.Errorf("UnpackName(%.100q, %d) = %q, %d, %v; want %q, %d", code, at, s, behind, ok, want, wantBehind)
	}
}

// checkNoName reports a name that is read where there is none.
func checkNoName(t *testing.T, code string, at int) {
	t.Helper()
	if s, behind, ok := impl.UnpackName([]byte(code), at); ok || s != "" || behind != 0 {
		t.Errorf("UnpackName(%.100q, %d) = %q, %d, %v; want no name", code, at, s, behind, ok)
	}
}

// checkBytes reports bytes that are not as wanted.
func checkBytes(t *testing.T, got []byte, ok bool, want string, call string) {
	t.Helper()
	if !ok || string(got) != want {
		t.Errorf("%s = %.300q, %v; want %.300q", call, got, ok, want)
	}
}

// checkNoBytes reports bytes where there should be none.
func checkNoBytes(t *testing.T, got []byte, ok bool, call string) {
	t.Helper()
	if ok || len(got) != 0 {
		t.Errorf("%s = %.300q, %v; want no bytes", call, got, ok)
	}
}

// checkUnpacked reports a record that is not read as wanted.
func checkUnpacked(t *testing.T, code string, at int, want impl.Record, wantBehind int) {
	t.Helper()
	if r, behind, ok := impl.UnpackRecord([]byte(code), at); !ok || !sameRecord(r, want) || behind != wantBehind {
		t.Errorf("UnpackRecord(%.100q, %d) = %v, %d, %v; want %v, %d", code, at, r, behind, ok, want, wantBehind)
	}
}

// checkNotUnpacked reports a record that is read where there is none.
func checkNotUnpacked(t *testing.T, code string, at int) {
	t.Helper()
	if r, behind, ok := impl.UnpackRecord([]byte(code), at); ok || !sameRecord(r, impl.Record{}) || behind != 0 {
		t.Errorf("UnpackRecord(%.100q, %d) = %v, %d, %v; want no record", code, at, r, behind, ok)
	}
}

// checkList reports records that are not read as wanted.
func checkList(t *testing.T, code string, want []impl.Record) {
	t.Helper()
	if list, ok := impl.UnpackList([]byte(code)); !ok || !sameRecords(list, want) {
		t.Errorf("UnpackList(%.100q) = %v, %v; want %v", code, list, ok, want)
	}
}

// checkNoList reports records that are read where there are none.
func checkNoList(t *testing.T, code string) {
	t.Helper()
	if list, ok := impl.UnpackList([]byte(code)); ok || len(list) != 0 {
		t.Errorf("UnpackList(%.100q) = %v, %v; want no records", code, list, ok)
	}
}

// checkUnpackedAsDefined compares what is read with the definition.
func checkUnpackedAsDefined(t *testing.T, code string, at int) {
	t.Helper()
	if want, behind, ok := recordAsDefined(code, at); ok {
		checkUnpacked(t, code, at, want, behind)
	} else {
		checkNotUnpacked(t, code, at)
	}
}

// checkListAsDefined compares what is read with the definition.
func checkListAsDefined(t *testing.T, code string) {
	t.Helper()
	if want, ok := listAsDefined(code); ok {
		checkList(t, code, want)
	} else {
		checkNoList(t, code)
	}
}

func TestPackName(t *testing.T) {
	for s, want := range map[string]string{
		".": "\x00", "b.": "\x01b\x00", "a.b.": "\x01a\x01b\x00", "*.a-b_0.": "\x01*\x05a-b_0\x00", "a.a.": "\x01a\x01a\x00", "a.b.a.b.": "\x01a\x01b\x01a\x01b\x00",
		label10: "\x0aabcdefghij\x00", labels8: "\x01a\x01b\x01c\x01d\x01e\x01f\x01g\x01h\x00",
		name60: strings.Repeat("\x0aabcdefghij", 5) + "\x04abcd\x00",
	} {
		got, ok := impl.PackName(s)
		checkBytes(t, got, ok, want, "PackName("+s+")")
	}
	for _, s := range append(someNames(), validNames...) {
		got, ok := impl.PackName(s)
		want, _ := packNameAsDefined("", s, nil, false)
		if isName(s) {
			checkBytes(t, got, ok, want, "PackName("+s+")")
		} else {
			checkNoBytes(t, got, ok, "PackName("+s+")")
		}
	}
	for _, s := range invalidNames {
		got, ok := impl.PackName(s)
		checkNoBytes(t, got, ok, "PackName of no name")
	}
}

func TestNamesAreReadBackFromBytes(t *testing.T) {
	for _, s := range validNames {
		code, _ := impl.PackName(s)
		for _, front := range []string{"", "\x00", "\xff\xfe", strings.Repeat("\xc0", 1000)} {
			for _, back := range []string{"", "\x00", "\xc0\x00", "a", strings.Repeat("\x01", 1000)} {
				checkName(t, front+string(code)+back, len(front), s, len(front)+len(code))
			}
			for i := range code {
				checkNoName(t, front+string(code[:i]), len(front))
			}
		}
	}
}

func TestUnpackNameOfPointers(t *testing.T) {
	checkName(t, "\x01b\x00\x01a\xc0\x00", 3, "a.b.", 7)
	checkName(t, "\x01b\x00\xc0\x00", 3, "b.", 5)
	checkName(t, "\x01b\x00\xc0\x00??", 3, "b.", 5)
	checkName(t, "\x01b\x00\xc0\x02", 3, ".", 5)
	checkName(t, "\x00\x01a\xc0\x00", 1, "a.", 5)
	checkName(t, "\x03\x01b\x00\xc0\x01", 4, "b.", 6)
	checkName(t, "\x01b\x00\x01a\xc0\x00\x01x\xc0\x03\x00", 7, "x.a.b.", 11)
	checkName(t, "\x01b\x00\xc0\x00\xc0\x03\xc0\x05", 7, "b.", 9)
	checkName(t, "\x01*\x00\xc0\x00", 3, "*.", 5)
	// A place within a label, and a pointer whose second byte is the first one of another pointer.
	checkName(t, "\x03\x01b\x00\x00\xc0\x01", 5, "b.", 7)
	checkName(t, "\x00"+strings.Repeat("\x00", 192)+"\xc0\xc0\x00", 193, ".", 195)
	checkName(t, "\x00"+strings.Repeat("\x00", 192)+"\xc0\xc0\x00", 194, ".", 196)
	// A name whose first byte is also the second one of a pointer that is read later.
	checkName(t, "\x00\x01z\x00\x00\x01y\xc0\x01x\xc0\x05", 8, "x.y.z.", 12)
}

func TestUnpackNameOfNoName(t *testing.T) {
	for _, at := range []int{-1, -2, 3, 4, 100, math.MinInt, math.MaxInt, math.MaxInt - 1} {
		checkNoName(t, "\x01b\x00", at)
		checkNoName(t, "", at)
	}
	checkNoName(t, "", 0)
	for _, code := range []string{
		// What is missing.
		"\x01", "\x01a", "\x01a\x01", "\x02a", "\x02a\x00", "\x01a\xc0", "\xc0", "\x0aabcdefghi", "\x0aabcdefghij",
		// What is no length of a label.
		"\x0babcdefghijk\x00", "\x01a\x0babcdefghijk\x00", "\xbfa\x00", "\x40a\x00", "\x80\x00",
		// What is no label.
		"\x01A\x00", "\x01.\x00", "\x03a.b\x00", "\x02a.\x00", "\x02.a\x00", "\x01 \x00", "\x01\x00\x00", "\x01\xff\x00", "\x02\xc3\xa9\x00",
		"\x02**\x00", "\x02*a\x00", "\x01a\x01*\x00", "\x01*\x01*\x00",
		// Pointers to themselves, and to what is not in front of them.
		"\xc0\x00", "\xc0\x01", "\xc0\x02\x00", "\x01a\xc0\x00", "\x01a\xc0\x02", "\x01a\xc0\x04\x00", "\x01a\xc0\x05\x00", "\x01a\xff\xff", "\x01a\xc1\x00",
	} {
		checkNoName(t, code, 0)
	}
	for _, c := range []struct {
		code string
		at   int
	}{
		// A second pointer that leads to the name, behind it, between it and where the first one led, or to where the first one led.
		{"\xc0\x02\xc0\x00", 2}, {"\xc0\x00\xc0\x00", 2}, {"\x01a\xc0\x00\xc0\x00", 4}, {"\x00\xc0\x03\xc0\x01", 3}, {"\x00\xc0\x05\xc0\x01\x00", 3},
		{"\x00\x01a\xc0\x01\x01b\xc0\x01", 5}, {"\x00\x01a\xc0\x02\xc0\x01", 5}, {"\x00\x01a\xc0\x05\xc0\x01", 5},
		{"\x00\x01a\xc0\x05\x01b\x00\xc0\x01", 8}, {"\x00\xc0\x02\xc0\x01", 3}, {"\x00\xc0\x03\x00\xc0\x01", 4},
		// A name that goes on over the place where the reading began, and comes back to its pointer.
		{"\x01a\xc0\x00", 2}, {"\x01a\x01b\xc0\x00", 4}, {"\x01a\x01b\xc0\x00", 2},
		// A wildcard behind a label.
		{"\x01*\x00\x01a\xc0\x00", 3},
		// A pointer into a label that does not end in code.
		{"\x00\x09a\x00\xc0\x01", 4}, {"\x0a\x00\xc0\x00", 2},
		// A label with a dot behind a pointer.
		{"\x03a.b\x00\xc0\x00", 5},
	} {
		checkNoName(t, c.code, c.at)
	}
}

func TestUnpackNameAtLimits(t *testing.T) {
	parts := "\x01b\x01c\x01d\x01e\x01f\x01g\x01h\x00"
	checkName(t, parts+"\x01a\xc0\x00", 15, "a.b.c.d.e.f.g.h.", 19)
	checkName(t, parts+"\x01*\xc0\x00", 15, "*.b.c.d.e.f.g.h.", 19)
	checkNoName(t, "\x01i"+parts+"\x01a\xc0\x00", 17)
	checkNoName(t, parts+"\x01x\x01a\xc0\x00", 15)
	checkNoName(t, "\x01a\x01i"+parts, 0)
	long := strings.Repeat("\x0aabcdefghij", 5)
	checkName(t, "\x04abcd\x00"+long+"\xc0\x00", 6, name60, 63)
	checkNoName(t, "\x05abcde\x00"+long+"\xc0\x00", 7)
	checkNoName(t, "\x01a\x03bcd\x00"+long+"\xc0\x00", 7)
	checkNoName(t, strings.Repeat("\x01a", 7999)+"\x00", 0)
	// The greatest code, and the greatest places in it.
	for size, ok := range map[int]bool{15999: true, 16000: true, 16001: false, 100000: false} {
		code := "\x01b\x00\x01a\xc0\x00" + strings.Repeat("\x00", size-7)
		if ok {
			checkName(t, code, 3, "a.b.", 7)
			checkName(t, code, size-1, ".", size)
		} else {
			checkNoName(t, code, 3)
			checkNoName(t, code, size-1)
		}
		checkNoName(t, code, size)
	}
	code := strings.Repeat("\x00", 15992) + "\x01b\x00\x01a"
	checkName(t, code+number(192*256+15992, 2), 15995, "a.b.", 15999)
	checkNoName(t, code+number(192*256+15995, 2), 15995)
	checkNoName(t, code+number(192*256+16001, 2), 15995)
}

func TestUnpackNameOfManyPointers(t *testing.T) {
	code, chain := "\x01z\x00\xc0\x00", "\x01z\x00\x01z\xc0\x00"
	for len(code) < mostWire-1 {
		code += number(192*256+len(code)-2, 2)
	}
	last := len(code) - 2
	checkName(t, code, last, "z.", last+2)
	for len(chain) < 100 {
		chain += "\x01a" + number(192*256+len(chain)-4, 2)
	}
	checkName(t, chain, 27, "a.a.a.a.a.a.z.z.", 31)
	checkNoName(t, chain, 31)
	checkNoName(t, chain, len(chain)-4)
}

func TestUnpackNameOfEachByte(t *testing.T) {
	for b := range 256 {
		// As the first byte of a label: behind it are ten letters, and all that a pointer can lead to.
		code := "\x00" + string([]byte{byte(b)}) + strings.Repeat("x", 10) + "\x00"
		for _, front := range []string{"", "\x00\x00", strings.Repeat("\x00", 300)} {
			at := len(front) + 1
			if s, behind, ok := nameAsDefined(front+code, at); ok {
				checkName(t, front+code, at, s, behind)
			} else {
				checkNoName(t, front+code, at)
			}
		}
		// As a byte of a label, alone and behind a letter.
		for _, front := range []string{"", "a"} {
			label := front + string([]byte{byte(b)})
			code := number(len(label), 1) + label
			if isName(label+".") && b != '.' {
				checkName(t, code+"\x00", 0, label+".", len(label)+2)
			} else {
				checkNoName(t, code+"\x00", 0)
			}
			if isName("x."+label+".") && b != '.' {
				checkName(t, code+"\x00\x01x\xc0\x00", len(label)+2, "x."+label+".", len(label)+6)
			} else {
				checkNoName(t, code+"\x00\x01x\xc0\x00", len(label)+2)
			}
		}
	}
}

func TestUnpackNameAsDefined(t *testing.T) {
	for _, code := range textsOf("\x00\x01\x02\x03a*.\xc0\xc1", 5) {
		for at := -1; at <= len(code)+1; at++ {
			s, behind, ok := nameAsDefined(code, at)
			if got, gotBehind, gotOk := impl.UnpackName([]byte(code), at); got != s || gotBehind != behind || gotOk != ok {
				t.Fatalf("UnpackName(%q, %d) = %q, %d, %v; want %q, %d, %v", code, at, got, gotBehind, gotOk, s, behind, ok)
			}
		}
	}
	for _, code := range textsOf("\x00\x01\x02\x04\x05\x06a\xc0", 5) {
		code = "\x00\x01z\xc0\x00" + code
		for at := 5; at < len(code); at++ {
			s, behind, ok := nameAsDefined(code, at)
			if got, gotBehind, gotOk := impl.UnpackName([]byte(code), at); got != s || gotBehind != behind || gotOk != ok {
				t.Fatalf("UnpackName(%q, %d) = %q, %d, %v; want %q, %d, %v", code, at, got, gotBehind, gotOk, s, behind, ok)
			}
		}
	}
}

// packed is the text of a record and its bytes behind nine others.
type packed struct {
	text string
	code string
}

// packedCases returns records of each kind, and names that share.
func packedCases() []packed {
	return []packed{
		{"b. 1 NS a.b.", "\x01b\x00\x02\x00\x00\x00\x01\x04\x01a\xc0\x09"},
		{". 0 NS .", "\x00\x02\x00\x00\x00\x00\x01\x00"},
		{". 1 PTR b.", "\x00\x0c\x00\x00\x00\x01\x03\x01b\x00"},
		{"b. 1 CNAME .", "\x01b\x00\x05\x00\x00\x00\x01\x01\x00"},
		{"a.b. 258 CNAME a.b.", "\x01a\x01b\x00\x05\x00\x00\x01\x02\x02\xc0\x09"},
		{"a.b. 100000 PTR b.", "\x01a\x01b\x00\x0c\x00\x01\x86\xa0\x02\xc0\x0b"},
		{"a.b. 1 PTR x.b.", "\x01a\x01b\x00\x0c\x00\x00\x00\x01\x04\x01x\xc0\x0b"},
		{"a.b. 1 PTR a.", "\x01a\x01b\x00\x0c\x00\x00\x00\x01\x03\x01a\x00"},
		{"a.b. 1 PTR a.b.a.b.", "\x01a\x01b\x00\x0c\x00\x00\x00\x01\x06\x01a\x01b\xc0\x09"},
		{"a.a. 1 PTR a.", "\x01a\x01a\x00\x0c\x00\x00\x00\x01\x02\xc0\x0b"},
		{"a.a. 1 PTR a.a.a.", "\x01a\x01a\x00\x0c\x00\x00\x00\x01\x04\x01a\xc0\x09"},
		{"b. 1 PTR ab.", "\x01b\x00\x0c\x00\x00\x00\x01\x04\x02ab\x00"},
		{"*.b. 1 PTR *.b.", "\x01*\x01b\x00\x0c\x00\x00\x00\x01\x02\xc0\x09"},
		{"www.a.b. 300 A 1.2.3.4", "\x03www\x01a\x01b\x00\x01\x00\x00\x01\x2c\x04\x01\x02\x03\x04"},
		{"b. 0 A 0.127.128.255", "\x01b\x00\x01\x00\x00\x00\x00\x04\x00\x7f\x80\xff"},
		{"a.b. 5 MX 10 www.a.b.", "\x01a\x01b\x00\x0f\x00\x00\x00\x05\x08\x00\x0a\x03www\xc0\x09"},
		{"b. 5 MX 999 c.", "\x01b\x00\x0f\x00\x00\x00\x05\x05\x03\xe7\x01c\x00"},
		{"b. 5 MX 255 .", "\x01b\x00\x0f\x00\x00\x00\x05\x03\x00\xff\x00"},
		{"b. 5 TXT \"\"", "\x01b\x00\x10\x00\x00\x00\x05\x01\x00"},
		{"b. 5 TXT \"b.\"", "\x01b\x00\x10\x00\x00\x00\x05\x03\x02b."},
		{"b. 5 TXT \"" + text20 + "\"", "\x01b\x00\x10\x00\x00\x00\x05\x15\x14" + text20},
		{"b. 5 SOA . 0 1 2 3 4", "\x01b\x00\x06\x00\x00\x00\x05\x15\x00\x00\x00\x00\x00\x00\x00\x00\x01\x00\x00\x00\x02\x00\x00\x00\x03\x00\x00\x00\x04"},
		{"b. 5 SOA ns.b. 4294967295 100000 0 256 65535", "\x01b\x00\x06\x00\x00\x00\x05\x19\x02ns\xc0\x09" +
			"\xff\xff\xff\xff\x00\x01\x86\xa0\x00\x00\x00\x00\x00\x00\x01\x00\x00\x00\xff\xff"},
		{"b. 5 SOA ns.c. 16909060 1 2 3 4", "\x01b\x00\x06\x00\x00\x00\x05\x1a\x02ns\x01c\x00" +
			"\x01\x02\x03\x04\x00\x00\x00\x01\x00\x00\x00\x02\x00\x00\x00\x03\x00\x00\x00\x04"},
	}
}

func TestPackRecord(t *testing.T) {
	for _, front := range []string{"ninebytes", "\x01a\x01b\x00\x01b\x00\x00"} {
		for _, c := range packedCases() {
			r := recordOf(t, c.text)
			code, ok := impl.PackRecord([]byte(front), r)
			checkBytes(t, code, ok, front+c.code, "PackRecord of "+c.text)
			checkUnpacked(t, front+c.code, 9, r, 9+len(c.code))
			checkUnpacked(t, front+c.code+"\x00more", 9, r, 9+len(c.code))
		}
	}
	code, ok := impl.PackRecord(nil, recordOf(t, "b. 1 NS a.b."))
	checkBytes(t, code, ok, "\x01b\x00\x02\x00\x00\x00\x01\x04\x01a\xc0\x00", "PackRecord behind nothing")
}

func TestPackRecordAsDefined(t *testing.T) {
	for _, c := range recordCases() {
		for _, front := range []string{"", "\xff", strings.Repeat("\x01a", 200)} {
			code, ok := impl.PackRecord([]byte(front), c.record)
			want := packAsDefined(front, []impl.Record{c.record}, true)
			checkBytes(t, code, ok, want, "PackRecord of "+c.text)
			checkUnpacked(t, want+"\x00", len(front), c.record, len(want))
		}
	}
	for _, name := range validNames {
		for _, target := range validNames {
			r := impl.Record{Name: name, Ttl: 70000, Kind: 15, Nums: []int{300}, Target: target}
			code, ok := impl.PackRecord([]byte("front"), r)
			want := packAsDefined("front", []impl.Record{r}, true)
			checkBytes(t, code, ok, want, "PackRecord of "+name+" and "+target)
			checkUnpacked(t, want, 5, r, len(want))
		}
	}
}

func TestPackRecordAtLimits(t *testing.T) {
	r := recordOf(t, "b. 1 NS a.b.")
	for _, size := range []int{255, 256, 15999, 16000} {
		front := strings.Repeat("f", size)
		code, ok := impl.PackRecord([]byte(front), r)
		checkBytes(t, code, ok, front+"\x01b\x00\x02\x00\x00\x00\x01\x04\x01a"+number(192*256+size, 2), "PackRecord behind the most bytes")
	}
	for _, size := range []int{16001, 16002, 100000} {
		code, ok := impl.PackRecord(make([]byte, size), r)
		checkNoBytes(t, code, ok, "PackRecord behind more bytes")
	}
	for _, r := range invalidRecords() {
		code, ok := impl.PackRecord([]byte("front"), r)
		checkNoBytes(t, code, ok, "PackRecord of an invalid record")
	}
}

func TestUnpackRecordOfLessBytes(t *testing.T) {
	for _, c := range packedCases() {
		code := "ninebytes" + c.code
		for size := range len(code) {
			checkNotUnpacked(t, code[:size], 9)
		}
		for _, at := range []int{-1, -9, math.MinInt, math.MaxInt, len(code), len(code) + 1} {
			checkNotUnpacked(t, code, at)
		}
	}
}

func TestUnpackRecordOfShortHeads(t *testing.T) {
	// What is there could be read as the length and the data, if the bytes that are missing in front of them were left out.
	for _, kind := range []int{1, 2, 5, 6, 12, 15, 16} {
		for _, rest := range textsOf("\x00\x01\x02\x03\x04", 5) {
			code := "\x00" + number(kind, 1) + rest
			checkNotUnpacked(t, code, 0)
			checkNotUnpacked(t, code[1:], 0)
		}
	}
}

func TestUnpackRecordOfOtherLengths(t *testing.T) {
	// The data of each record are made shorter and longer, with the right length and with others.
	for _, c := range packedCases() {
		code := "ninebytes" + c.code
		_, at, _ := impl.UnpackName([]byte(code), 9)
		head, data := code[:at+5], code[at+6:]
		for size := range len(data) + 6 {
			part := (data + "\x00\x00\x00\x00\x00")[:size]
			for _, length := range []int{0, size - 2, size - 1, size, size + 1, size + 2, 255} {
				if 0 <= length {
					checkUnpackedAsDefined(t, head+number(length, 1)+part, 9)
					checkUnpackedAsDefined(t, head+number(length, 1)+part+strings.Repeat("\x00", 260), 9)
				}
			}
			if size != len(data) {
				checkNotUnpacked(t, head+number(size, 1)+part, 9)
			}
		}
	}
}

func TestUnpackRecordOfInvalidRecords(t *testing.T) {
	for _, code := range []string{
		// Kinds and times that there are not.
		"\x00\x00\x00\x00\x00\x00\x01\x00", "\x00\x03\x00\x00\x00\x00\x01\x00", "\x00\x11\x00\x00\x00\x00\x01\x00", "\x00\xff\x00\x00\x00\x00\x01\x00", "\x00\x03\x00\x00\x00\x00\x00",
		"\x00\x02\x00\x01\x86\xa1\x01\x00", "\x00\x02\xff\xff\xff\xff\x01\x00", "\x00\x02\x80\x00\x00\x00\x01\x00",
		// Data of other kinds, and more or fewer than there should be.
		"\x00\x01\x00\x00\x00\x00\x03\x01\x02\x03", "\x00\x01\x00\x00\x00\x00\x05\x01\x02\x03\x04\x05", "\x00\x01\x00\x00\x00\x00\x00",
		"\x00\x02\x00\x00\x00\x00\x00", "\x00\x02\x00\x00\x00\x00\x05\x00\x00\x00\x00\x00", "\x00\x0f\x00\x00\x00\x00\x02\x00\x00", "\x00\x0f\x00\x00\x00\x00\x01\x00",
		"\x00\x06\x00\x00\x00\x00\x11\x00" + strings.Repeat("\x00", 16), "\x00\x06\x00\x00\x00\x00\x19\x00" + strings.Repeat("\x00", 24), "\x00\x06\x00\x00\x00\x00\x14" + strings.Repeat("\x00", 20),
		"\x00\x10\x00\x00\x00\x00\x00", "\x00\x10\x00\x00\x00\x00\x02\x00a", "\x00\x10\x00\x00\x00\x00\x02\x02ab", "\x00\x10\x00\x00\x00\x00\x01a", "\x00\x10\x00\x00\x00\x00\x03\x01ab",
		// Data that are past a limit, or no text and no name.
		"\x00\x0f\x00\x00\x00\x00\x03\x03\xe8\x00", "\x00\x0f\x00\x00\x00\x00\x03\xff\xff\x00", "\x00\x10\x00\x00\x00\x00\x16\x15" + text21, "\x00\x10\x00\x00\x00\x00\x02\x01\"", "\x00\x10\x00\x00\x00\x00\x02\x01\x1f",
		"\x00\x06\x00\x00\x00\x00\x15\x00" + strings.Repeat("\x00", 16) + "\x00\x01\x86\xa1", "\x00\x06\x00\x00\x00\x00\x15\x00\x00\x00\x00\x00\x00\x01\x86\xa1" + strings.Repeat("\x00", 12),
		"\x00\x02\x00\x00\x00\x00\x03\x01A\x00", "\x00\x02\x00\x00\x00\x00\x02\x01a\x00", "\x00\x02\x00\x00\x00\x00\x02\xc0\x07", "\x00\x02\x00\x00\x00\x00\x01\xc0\x00", "\x01A\x00\x02\x00\x00\x00\x00\x01\x00",
	} {
		checkNotUnpacked(t, code, 0)
		checkNotUnpacked(t, code+"\x00", 0)
		checkUnpackedAsDefined(t, code, 0)
	}
}

func TestUnpackRecordOfOtherPointers(t *testing.T) {
	// Names are read from all places in front of them, whatever is there.
	checkUnpacked(t, "\x01b\x00\xc0\x00\x02\x00\x00\x00\x00\x02\xc0\x00", 3, recordOf(t, "b. 0 NS b."), 13)
	checkUnpacked(t, "\x01b\x00\x01a\xc0\x00\x02\x00\x00\x00\x00\x04\x01x\xc0\x03", 3, recordOf(t, "a.b. 0 NS x.a.b."), 17)
	checkUnpacked(t, "\x01b\x00\x02\x00\x00\x00\x00\x02\xc0\x02", 0, recordOf(t, "b. 0 NS ."), 11)
	checkUnpacked(t, "\x00\x0f\x00\x00\x00\x00\x04\x00\x00\xc0\x07", 0, recordOf(t, ". 0 MX 0 ."), 11)
	checkUnpacked(t, "\x00\x0f\x00\x00\x00\x00\x04\x00\x05\xc0\x02", 0, recordOf(t, ". 0 MX 5 ."), 11)
	checkUnpacked(t, "\x01b\x00\x0f\x00\x00\x00\x00\x04\x00\xc0\xc0\x00", 0, recordOf(t, "b. 0 MX 192 b."), 13)
	// A name does not go on behind the data.
	checkNotUnpacked(t, "\x00\x02\x00\x00\x00\x00\x02\x01a\x00", 0)
	checkNotUnpacked(t, "\x00\x02\x00\x00\x00\x00\x01\xc0\x00\x00", 0)
	checkNotUnpacked(t, "\x00\x0f\x00\x00\x00\x00\x02\x00\x00\x00", 0)
	// The name of a record does not lead to what is behind it.
	checkNotUnpacked(t, "\xc0\x08\x02\x00\x00\x00\x00\x01\x00", 0)
}

func TestUnpackRecordOfTheMostBytes(t *testing.T) {
	r := recordOf(t, "b. 1 NS a.b.")
	for _, size := range []int{15999, 16000} {
		code := packAsDefined(strings.Repeat("\xff", size-13), []impl.Record{r}, true)
		checkUnpacked(t, code, size-13, r, size)
	}
	checkNotUnpacked(t, packAsDefined(strings.Repeat("\xff", 16001-13), []impl.Record{r}, true), 16001-13)
	code := packAsDefined("", []impl.Record{r}, true)
	checkUnpacked(t, code+strings.Repeat("\x00", 16000-13), 0, r, 13)
	checkNotUnpacked(t, code+strings.Repeat("\x00", 16001-13), 0)
}

// wireLists returns valid lists at the limits and the edges that chapter 6 names.
func wireLists(t *testing.T) [][]impl.Record {
	t.Helper()
	lists := [][]impl.Record{nil, {}, recordsOf(t, wireTexts...), recordsOf(t, hostTexts(59)...), recordsOf(t, hostTexts(60)...)}
	var all, most []impl.Record
	for _, c := range recordCases() {
		all = append(all, c.record)
		lists = append(lists, []impl.Record{c.record}, []impl.Record{c.record, c.record})
	}
	// Names of 60 bytes that do not share, so that the bytes are as many as there can be.
	for i := range 60 {
		front := name60[:55] + number('a'+i/26, 1) + number('a'+i%26, 1)
		name, target := front+"xx.", front+"yy."
		most = append(most, impl.Record{Name: name, Ttl: 100000, Kind: 6, Nums: []int{4294967295, 0, 100000, 0, 1}, Target: target})
	}
	slices.Reverse(most)
	return append(lists, all, most, slices.Concat(all[:30], all[:30]))
}

func TestPackList(t *testing.T) {
	code, ok := impl.PackList(nil)
	checkBytes(t, code, ok, "\x00", "PackList of nothing")
	code, ok = impl.PackList(recordsOf(t, "b. 1 NS a.b.", "a.b. 1 NS x.b.", "x.b. 2 MX 1 x.a.b.", "c. 0 NS x.a.b.", "b. 0 TXT \"\""))
	checkBytes(t, code, ok, "\x05"+
		"\x01b\x00\x02\x00\x00\x00\x01\x04\x01a\xc0\x01"+
		"\xc0\x0a\x02\x00\x00\x00\x01\x04\x01x\xc0\x01"+
		"\xc0\x16\x0f\x00\x00\x00\x02\x06\x00\x01\x01x\xc0\x0a"+
		"\x01c\x00\x02\x00\x00\x00\x00\x02\xc0\x24"+
		"\xc0\x01\x10\x00\x00\x00\x00\x01\x00", "PackList")
	for _, list := range wireLists(t) {
		want := packAsDefined(number(len(list), 1), list, true)
		for range 2 {
			code, ok := impl.PackList(list)
			checkBytes(t, code, ok, want, "PackList")
		}
		checkList(t, want, list)
	}
}

func TestPackListOfPairs(t *testing.T) {
	names := []string{".", "*.", "b.", "a.b.", "*.b.", "b.b.", "ab.b.", "c.a.b.", label10, name60, labels8All}
	for _, first := range names {
		for _, second := range names {
			for _, third := range names {
				list := []impl.Record{{Name: first, Kind: 2, Target: second}, {Name: third, Kind: 16, Text: third[:1]}, {Name: second, Kind: 15, Nums: []int{1}, Target: third}}
				code, ok := impl.PackList(list)
				want := packAsDefined("\x03", list, true)
				checkBytes(t, code, ok, want, "PackList")
				checkList(t, want, list)
			}
		}
	}
}

func TestPlainSize(t *testing.T) {
	if n, ok := impl.PlainSize(nil); n != 1 || !ok {
		t.Errorf("PlainSize of nothing = %d, %v; want 1", n, ok)
	}
	if n, ok := impl.PlainSize(recordsOf(t, "a.b. 1 NS a.b.", "a.b. 1 NS a.b.")); n != 1+2*(5+6+5) || !ok {
		t.Errorf("PlainSize of two records = %d, %v; want 33", n, ok)
	}
	for _, list := range wireLists(t) {
		if n, ok := impl.PlainSize(list); n != len(packAsDefined("\x00", list, false)) || !ok {
			t.Errorf("PlainSize of %d records = %d, %v; want %d", len(list), n, ok, len(packAsDefined("\x00", list, false)))
		}
	}
}

// checkNotPacked reports a list that has bytes.
func checkNotPacked(t *testing.T, list []impl.Record) {
	t.Helper()
	code, ok := impl.PackList(list)
	checkNoBytes(t, code, ok, "PackList of an invalid list")
	if n, ok := impl.PlainSize(list); n != 0 || ok {
		t.Errorf("PlainSize of an invalid list = %d, %v; want 0", n, ok)
	}
}

func TestPackListOfInvalidLists(t *testing.T) {
	for _, n := range []int{61, 62, 100, 256, 300} {
		checkNotPacked(t, recordsOf(t, hostTexts(n)...))
		checkNotPacked(t, make([]impl.Record, n))
	}
	checkNotPacked(t, slices.Repeat(recordsOf(t, wireTexts[0]), 61))
	for _, r := range invalidRecords() {
		checkNotPacked(t, []impl.Record{r})
	}
	list := recordsOf(t, hostTexts(60)...)
	for i := range list {
		spoiled := copyZone(impl.Zone{Records: list}).Records
		spoiled[i].Ttl = 100001
		checkNotPacked(t, spoiled)
	}
}

func TestUnpackListOfOtherBytes(t *testing.T) {
	checkNoList(t, "")
	checkNoList(t, "\x00\x00")
	checkNoList(t, "\x00"+strings.Repeat("\x00", 15999))
	checkNoList(t, strings.Repeat("\x00", 16001))
	for _, list := range wireLists(t) {
		code := packAsDefined(number(len(list), 1), list, true)
		for _, n := range []int{0, len(list) - 1, len(list) + 1, 60, 61, 192, 255} {
			if n >= 0 && n != len(list) {
				checkNoList(t, number(n, 1)+code[1:])
			}
		}
		for _, more := range []string{"\x00", "\xc0\x00", "a", code, code[1:]} {
			if more != "" {
				checkNoList(t, code+more)
			}
		}
		for size := range min(len(code), 600) {
			checkNoList(t, code[:size])
			checkNoList(t, code[:len(code)-1-size])
		}
	}
	// One record more than there can be.
	record := "\x00\x02\x00\x00\x00\x00\x01\x00"
	checkList(t, "\x3c"+strings.Repeat(record, 60), slices.Repeat(recordsOf(t, ". 0 NS ."), 60))
	checkNoList(t, "\x3d"+strings.Repeat(record, 61))
	// Names that share less than PackList lets them, and a name that begins with the number of records.
	checkList(t, "\x02\x01b\x00\x02\x00\x00\x00\x00\x03\x01b\x00"+"\x01b\x00\x02\x00\x00\x00\x00\x02\xc0\x0a", recordsOf(t, "b. 0 NS b.", "b. 0 NS b."))
	checkNoList(t, "\x01\xc0\x00\x02\x00\x00\x00\x00\x01\x00")
}

func TestUnpackedAsDefinedOfEachChange(t *testing.T) {
	list := recordsOf(t, wireTexts...)
	code := packAsDefined(number(len(list), 1), list, true)
	for i := range len(code) {
		for b := range 256 {
			other := code[:i] + string([]byte{byte(b)}) + code[i+1:]
			checkListAsDefined(t, other)
			if b%16 == 0 || b < 20 {
				checkUnpackedAsDefined(t, other, max(i-9, 0))
				checkUnpackedAsDefined(t, other, i)
			}
		}
		checkListAsDefined(t, code[:i]+code[i+1:])
		checkListAsDefined(t, code[:i]+"\x00"+code[i:])
		checkUnpackedAsDefined(t, code, i)
	}
}

func TestBytesAreNew(t *testing.T) {
	r := recordOf(t, "a.b. 5 SOA ns.a.b. 1 2 3 4 5")
	all := []byte("front, and what is behind it, up to the end of the memory that it has, which is more than the record needs")
	before := bytes.Clone(all)
	front := all[:5]
	first, _ := impl.PackRecord(front, r)
	second, _ := impl.PackRecord(front, recordOf(t, "x. 7 A 1.2.3.4"))
	if !bytes.Equal(all, before) {
		t.Errorf("PackRecord changes its argument to %q", all)
	}
	for _, result := range [][]byte{first[:cap(first)], second[:cap(second)]} {
		for i := range result {
			result[i] = 255
		}
		if !bytes.Equal(all, before) {
			t.Fatalf("a result of PackRecord shares memory with its argument")
		}
		third, ok := impl.PackRecord(front, r)
		checkBytes(t, third, ok, packAsDefined("front", []impl.Record{r}, true), "PackRecord again")
	}
	z, whole := roomy(impl.Zone{Records: recordsOf(t, wireTexts...)})
	wholeBefore := wholeCopy(whole)
	want := packAsDefined(number(len(z.Records), 1), z.Records, true)
	for range 2 {
		code, ok := impl.PackList(z.Records)
		checkBytes(t, code, ok, want, "PackList")
		for i := range code[:cap(code)] {
			code[:cap(code)][i] = 255
		}
		impl.PlainSize(z.Records)
		impl.PackRecord(nil, z.Records[3])
	}
	if !sameRecords(wholeCopy(whole), wholeBefore) {
		t.Errorf("the records of an argument are changed")
	}
}

func TestUnpackedRecordsAreNew(t *testing.T) {
	want := recordsOf(t, wireTexts...)
	text := packAsDefined(number(len(want), 1), want, true)
	all := []byte(text + "what is behind")
	code := all[:len(text)]
	list, _ := impl.UnpackList(code)
	again, _ := impl.UnpackList(code)
	name, _, _ := impl.UnpackName(code, 9)
	if string(all) != text+"what is behind" {
		t.Fatalf("UnpackList changes its argument")
	}
	for i := range all {
		all[i] = 255
	}
	if name != "b." || !sameRecords(list, want) {
		t.Errorf("what is read changes with the bytes: %q, %v", name, list)
	}
	spoil(list)
	if !sameRecords(again, want) {
		t.Errorf("results of UnpackList share memory")
	}
	spoilOne(t, again, "UnpackList")
}
