package audit_test

import (
	"slices"
	"strconv"
	"strings"
	"testing"

	"nosale/api"
	"nosale/audit"
	"nosale/dice"
)

// kept returns the journal of entries, which have a form.
func kept(t *testing.T, b api.AuditBook, entries []api.AuditEntry) string {
	t.Helper()
	text, l := audit.Keep(b, entries)
	if l != api.Fine {
		t.Fatalf("%+v: bell %d", entries, l)
	}
	return text
}

// sealed returns the seal of a file, as a field.
func sealed(t *testing.T, b api.AuditBook) string {
	t.Helper()
	return strconv.Itoa(sealOf(written(t, b)))
}

// P10.3: a journal has the seal of the file, and for each entry a line with the seal of the file behind it, whether it stands or not.
func TestKeep(t *testing.T) {
	b := file(t)
	for _, x := range []struct {
		entries []api.AuditEntry
		lines   []string
	}{
		{nil, nil},
		{journal(none()), []string{"entry 0 0 none 0 0 none 0 -"}},
		{journal(at(1, ring(1, 0, 19, 0)), at(3, instead(1, ring(1, -1, -1, -1)))), []string{"entry 1 0 ring 1 0 0+19+0 0 -", "entry 3 1 ring 1 0 -1+-1+-1 0 -"}},
		{journal(hang("?T", 90, 90), hang("", 7, 5), hang("\xff\x00", -5, -3), hang("--", 0, 1), hang("none", -1, 1)), []string{"entry 0 0 hang 0 0 none 90 ?T", "entry 0 0 hang 0 0 none 7..5 -", "entry 0 0 hang 0 0 none -5..-3 \xff\x00", "entry 0 0 hang 0 0 none 0..1 --", "entry 0 0 hang 0 0 none -1..1 none"}},
		{journal(entry(api.AuditStrip, 3, 0, 0, 9), entry(api.AuditPrice, 1, 0, 559, 559), entry(api.AuditSale, 0, 1, 0, 0), entry(api.AuditCoins, 2, 0, 2, 2), entry(api.AuditTicks, 0, 0, 3, 4)), []string{"entry 0 0 strip 3 0 none 0..9 -", "entry 0 0 price 1 0 none 559 -", "entry 0 0 sale 0 1 none 0 -", "entry 0 0 coins 2 0 none 2 -", "entry 0 0 ticks 0 0 none 3..4 -"}},
		{journal(entry(api.AuditSign, 3, 0, 0, 0), entry(api.AuditFix, 1, 2, 12, 13), entry(api.AuditClear, 1, 0, 0, 0), entry(api.AuditMoney, 1, 0, 177, 177), entry(api.AuditGoods, 1, 3, 6, 7), entry(api.AuditWay, 0, 0, 0, 2)), []string{"entry 0 0 sign 3 0 none 0 -", "entry 0 0 fix 1 2 none 12..13 -", "entry 0 0 clear 1 0 none 0 -", "entry 0 0 money 1 0 none 177 -", "entry 0 0 goods 1 3 none 6..7 -", "entry 0 0 way 0 0 none 0..2 -"}},
		// entries that have a bell are kept, too
		{journal(at(-999999999, instead(999999999, api.AuditEntry{A: -1, B: 999999999, L: []int{-999999999, 0}, Many: to(999999999, -999999999), S: "x"}))), []string{"entry -999999999 999999999 none -1 999999999 -999999999+0 999999999..-999999999 x"}},
	} {
		want := "journal " + sealed(t, b) + "\n"
		for i, line := range x.lines {
			want += line + " " + sealed(t, playOf(b, x.entries[:i+1]).now) + "\n"
		}
		if got := kept(t, b, x.entries); got != want {
			t.Errorf("%+v: %q, want %q", x.entries, got, want)
		}
	}
}

// P10.3: what cannot stand in a journal has the bell Shape.
func TestKeepShape(t *testing.T) {
	b := file(t)
	for _, e := range journal(api.AuditEntry{Kind: 14}, api.AuditEntry{Kind: -1}, hang("a b", 0, 0), hang(" ", 0, 0), hang("a\n", 0, 0), hang("\n", 0, 0), hang("-", 0, 0), api.AuditEntry{S: "-"}, at(1000000000, none()), at(-1000000000, none()), instead(1000000000, none()), instead(-1000000000, none()), entry(0, 1000000000, 0, 0, 0), entry(0, -1000000000, 0, 0, 0), entry(0, 0, 1000000000, 0, 0), entry(0, 0, -1000000000, 0, 0), entry(0, 0, 0, -1000000000, 0), entry(0, 0, 0, 1000000000, 0), entry(0, 0, 0, 0, 1000000000), entry(0, 0, 0, 0, -1000000000), ring(1, 1000000000), ring(1, 0, 0, -1000000000)) {
		for _, entries := range [][]api.AuditEntry{journal(e), journal(none(), e), journal(e, none())} {
			if text, l := audit.Keep(b, entries); text != "" || l != api.Shape {
				t.Errorf("%+v: %q, bell %d", entries, text, l)
			}
		}
	}
}

// inspects compares what is found in a journal with what is expected; parts are those that differ from the file then.
func inspects(t *testing.T, b api.AuditBook, text string, line int, fault api.AuditFault, parts ...int) {
	t.Helper()
	n, f, now, l := audit.Inspect(b, text)
	if n != line || f != fault || l != api.Fine {
		t.Errorf("%.300q: line %d, fault %d, bell %d, want %d, %d", text, n, f, l, line, fault)
	}
	if differ, l := audit.Differ(b, now); !slices.Equal(differ, parts) || l != api.Fine {
		t.Errorf("%.300q: the parts %v are changed, want %v, bell %d", text, differ, parts, l)
	}
}

// P10.3: Inspect returns the first line that has a fault, the fault, and the file behind all lines before it.
func TestInspect(t *testing.T) {
	b := file(t)
	head := "journal " + sealed(t, b) + "\n"
	coins := entry(api.AuditCoins, 2, 0, 2, 2)
	text := kept(t, b, journal(coins, at(1, entry(api.AuditGoods, 1, 0, 6, 6)), at(1, instead(1, none()))))
	seal := sealed(t, b)
	inspects(t, b, text, 0, api.AuditRight, stockPart)
	inspects(t, b, strings.TrimSuffix(text, "\n"), 0, api.AuditRight, stockPart)
	inspects(t, b, head, 0, api.AuditRight)
	inspects(t, b, strings.TrimSuffix(head, "\n"), 0, api.AuditRight)
	// the form of the first line
	for _, first := range []string{"", "\n", "journal", "journal\n", "journal \n", "journal x\n", "journal 0" + seal + "\n", "journal " + seal + " 0\n", "journal " + seal + " \n", "journal  " + seal + "\n", " journal " + seal + "\n", "Journal " + seal + "\n", "journals " + seal + "\n", "journal " + seal + ".." + seal + "0\n", "journal none\n", "entry 0 0 none 0 0 none 0 - " + seal + "\n", "\n" + head, "journal +" + seal + "\n", "journal -0\n", "journal 1000000000\n"} {
		inspects(t, b, first, 1, api.AuditForm)
		inspects(t, b, first+"x\n", 1, api.AuditForm)
	}
	// and its seal
	for _, first := range []string{"journal 0", "journal 99999", "journal -1", "journal 999999999", "journal -999999999", "journal " + sealed(t, playOf(b, journal(coins)).now)} {
		inspects(t, b, first, 1, api.AuditBroken)
		inspects(t, b, first+"\nx\n", 1, api.AuditBroken)
	}
	// the form of an entry
	first := strings.SplitAfter(text, "\n")[1]
	for _, line := range []string{"", " ", "entry", "entry 0 0 none 0 0 none 0 " + seal, "entry 0 0 none 0 0 none 0 - - " + seal, "entry 0 0 none 0 0 none 0 -", "entry 0 0 none 0 0 none 0 - x", "entry 0 0 none 0 0 none 0  " + seal, "entry 0 0 None 0 0 none 0 - " + seal, "entry 0 0 0 0 0 none 0 - " + seal, "entry 0 0 coin 0 0 none 0 - " + seal, "entry 0 0 - 0 0 none 0 - " + seal, "entry x 0 none 0 0 none 0 - " + seal, "entry 0 x none 0 0 none 0 - " + seal, "entry 0 0 none x 0 none 0 - " + seal, "entry 0 0 none 0 x none 0 - " + seal, "entry 0 0 none 0 0 x 0 - " + seal, "entry 0 0 none 0 0 0+ 0 - " + seal, "entry 0 0 none 0 0 none 0..0 - " + seal, "entry 0 0 none 0 0 none none - " + seal, "entry 00 0 none 0 0 none 0 - " + seal, "entry 0 0 none 0 0 none 0 - 0" + seal, "entry 0 0 none 0 0 none 0 - " + seal + " ", "entry 0 0 none 0 0 none 0 - " + seal + "\r", "entries 0 0 none 0 0 none 0 - " + seal, "Entry 0 0 none 0 0 none 0 - " + seal, "journal " + seal, "entry 1000000000 0 none 0 0 none 0 - " + seal, "entry 0 0 none 0 0 none 0 - 1000000000"} {
		inspects(t, b, head+line+"\n", 2, api.AuditForm)
		inspects(t, b, head+first+line+"\n", 3, api.AuditForm, changePart)
		inspects(t, b, text+line+"\n"+line+"\n", 5, api.AuditForm, stockPart)
	}
	// and its seal
	inspects(t, b, strings.Replace(text, "coins 2 0 none 2 - ", "coins 2 0 none 2 - 1", 1), 2, api.AuditBroken)
	inspects(t, b, head+strings.TrimSuffix(first, "\n")+"0\n", 2, api.AuditBroken)
	inspects(t, b, head+"entry 0 0 none 0 0 none 0 - 0\n", 2, api.AuditBroken)
	inspects(t, b, head+first+"entry 0 0 none 0 0 none 0 - "+seal+"\n", 3, api.AuditBroken, changePart)
	// another entry that makes the same file is not found out
	inspects(t, b, strings.Replace(text, "entry 1 1 none", "entry 2 1 none", 1), 0, api.AuditRight, stockPart)
	inspects(t, b, strings.Replace(text, "entry 1 1 none", "entry 1 0 none", 1), 4, api.AuditBroken, changePart, stockPart)
	inspects(t, b, strings.Replace(text, "entry 1 1 none", "entry 0 1 none", 1), 4, api.AuditBroken, changePart, stockPart)
	inspects(t, b, head+"entry 400 7 none 1 1 1+2+3 5..4 zzz "+seal+"\n", 0, api.AuditRight)
}

// P10.3: there are too many entries if MaxAuditEntries were before; the form of a line comes before that, its seal behind.
func TestInspectMany(t *testing.T) {
	b := file(t)
	line := "entry 0 0 none 0 0 none 0 - " + sealed(t, b) + "\n"
	full := "journal " + sealed(t, b) + "\n" + strings.Repeat(line, api.MaxAuditEntries)
	inspects(t, b, full, 0, api.AuditRight)
	inspects(t, b, full+line, 14, api.AuditMany)
	inspects(t, b, full+line+"x\n", 14, api.AuditMany)
	inspects(t, b, full+"x\n", 14, api.AuditForm)
	inspects(t, b, full+"\n", 14, api.AuditForm)
	inspects(t, b, full+"entry 0 0 none 0 0 none 0 - 0\n", 14, api.AuditMany)
	// entries with a bell count, too
	odd := strings.Replace(line, "entry 0", "entry 400", 1)
	inspects(t, b, "journal "+sealed(t, b)+"\n"+strings.Repeat(odd, api.MaxAuditEntries)+line, 14, api.AuditMany)
	// bytes
	for _, text := range []string{strings.Repeat("j", api.MaxText+1), full + strings.Repeat("\n", api.MaxText)} {
		if got := show(audit.Inspect(b, text)); got != show(0, 0, api.AuditBook{}, api.Count) {
			t.Errorf("%d bytes: %.100s", len(text), got)
		}
	}
	inspects(t, b, strings.Repeat("j", api.MaxText), 1, api.AuditForm)
	inspects(t, b, full+strings.Repeat("\n", api.MaxText-len(full)), 14, api.AuditForm)
}

// P10.3, P10.7: a journal that is kept is inspected without a fault, and leads to the same file.
func TestKeptIsInspected(t *testing.T) {
	d := dice.Dice(5)
	for i := range 300 {
		b := parse(t, anyText(&d, i%5 == 0))
		entries := oracleEntries(&d, b)
		text := kept(t, b, entries)
		want := playOf(b, entries).now
		for _, text := range []string{text, strings.TrimSuffix(text, "\n")} {
			line, fault, now, l := audit.Inspect(b, text)
			if line != 0 || fault != api.AuditRight || show(now) != show(want) || l != api.Fine {
				t.Errorf("%q: line %d, fault %d, bell %d, %+v", text, line, fault, l, now)
			}
		}
		// what is before a line is as it is without that line
		rows := strings.SplitAfter(text, "\n")
		n := 1 + d.Roll(len(rows)-1)
		_, _, now, l := audit.Inspect(b, strings.Join(rows[:n], "")+"x\n")
		if want := playOf(b, entries[:n-1]).now; show(now) != show(want) || l != api.Fine {
			t.Errorf("%q, %d lines: bell %d, %+v, want %+v", text, n, l, now, want)
		}
	}
}

// oracleEntries returns entries of which each has a form.
func oracleEntries(d *dice.Dice, b api.AuditBook) []api.AuditEntry {
	entries := anyJournal(d, b, d.Roll(api.MaxAuditEntries+1))
	for i, e := range entries {
		entries[i].Kind = max(0, min(e.Kind, api.AuditWay))
	}
	return entries
}

// P10.7: whoever changes a seal is found out at that line.
func TestChangedSeals(t *testing.T) {
	d := dice.Dice(6)
	for range 60 {
		b := parse(t, anyText(&d, false))
		entries := oracleEntries(&d, b)
		rows := strings.Split(strings.TrimSuffix(kept(t, b, entries), "\n"), "\n")
		for i, row := range rows {
			at := strings.LastIndex(row, " ") + 1
			seal, err := strconv.Atoi(row[at:])
			if err != nil {
				t.Fatal(err)
			}
			for _, other := range []int{seal + 1, seal - 1, 0, 99990, seal + 99991, -seal, d.Roll(99991)} {
				if other == seal {
					continue
				}
				changed := slices.Clone(rows)
				changed[i] = row[:at] + strconv.Itoa(other)
				line, fault, now, l := audit.Inspect(b, strings.Join(changed, "\n"))
				want := playOf(b, entries[:max(0, i-1)]).now
				if line != i+1 || fault != api.AuditBroken || show(now) != show(want) || l != api.Fine {
					t.Errorf("%q: line %d, fault %d, bell %d, want line %d", changed, line, fault, l, i+1)
				}
			}
		}
	}
}

// P10.7: whoever changes an entry is not found out before it; if nobody is found out the file in the end has the same seal.
func TestChangedEntries(t *testing.T) {
	d := dice.Dice(7)
	found, not := 0, 0
	for range 500 {
		b := parse(t, anyText(&d, false))
		entries := oracleEntries(&d, b)
		if len(entries) == 0 {
			continue
		}
		rows := strings.Split(strings.TrimSuffix(kept(t, b, entries), "\n"), "\n")
		i := d.Roll(len(entries))
		entries[i] = at(entries[i].Day, anyEntry(&d, b))
		other := strings.Split(kept(t, b, entries), "\n")[i+1]
		// the seal stays
		rows[i+1] = other[:strings.LastIndex(other, " ")] + rows[i+1][strings.LastIndex(rows[i+1], " "):]
		line, fault, now, l := audit.Inspect(b, strings.Join(rows, "\n"))
		if l != api.Fine || line > 0 && (line < i+2 || fault != api.AuditBroken) {
			t.Errorf("%q: the entry %d was changed: line %d, fault %d, bell %d", rows, i+1, line, fault, l)
		}
		if line > 0 {
			found++
			continue
		}
		not++
		last := rows[len(rows)-1]
		if want := last[strings.LastIndex(last, " ")+1:]; sealed(t, now) != want {
			t.Errorf("%q: the seal in the end is %s, not %s", rows, sealed(t, now), want)
		}
	}
	if found < 100 || not < 50 {
		t.Errorf("%d journals were found out, %d were not", found, not)
	}
}
