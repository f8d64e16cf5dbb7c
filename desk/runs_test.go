package desk_test

import (
	"fmt"
	"math/rand"
	"strings"
	"testing"

	"wayleave/api"
	"wayleave/desk"
)

// maker makes lines, by a source that tells the same each time.
type maker struct {
	*rand.Rand
}

// one tells one of several words.
func (r maker) one(words ...string) string {
	return words[r.Intn(len(words))]
}

// page tells a page of a few, so that lines meet; seldom one that is none.
func (r maker) page() int {
	if r.Intn(40) == 0 {
		return []int{4096, 100000000, 8191}[r.Intn(3)]
	}
	return []int{0, 1, 2, 5, 8, 9, 15, 16, 64, 70, 128, 512, 513, 520, 4088, 4095}[r.Intn(16)]
}

// mapLine tells a line that maps, mostly what may be mapped.
func (r maker) mapLine() string {
	p, size, frame := r.page(), r.Intn(3), r.Intn(2000)
	if r.Intn(5) > 0 {
		span := []int{1, 8, 64}[size]
		p, frame = p/span*span, frame/span*span
	}
	if r.Intn(40) == 0 {
		size = 3 + r.Intn(3)
	}
	if r.Intn(40) == 0 {
		frame = 1<<20 + r.Intn(3) - 1
	}
	return fmt.Sprintf("map %d %d %d %d", p, size, frame, r.Intn(8)+r.Intn(20)/19*8)
}

// line tells a line that may be asked of a Watch with so many cores; seldom of a core that is none.
func (r maker) line(cores int) string {
	k := r.Intn(cores)
	if r.Intn(40) == 0 {
		k = cores + r.Intn(3)
	}
	switch r.Intn(24) {
	case 0, 1, 2:
		return r.mapLine()
	case 3:
		return fmt.Sprintf("unmap %d", r.page())
	case 4:
		return fmt.Sprintf("protect %d %d", r.page(), r.Intn(9))
	case 5, 6, 7:
		return fmt.Sprintf("access %d %d %d %d", k, r.page(), r.Intn(3)+r.Intn(30)/29, max(0, r.Intn(5)-2))
	case 8, 9, 10, 11, 12, 13, 14, 15:
		return fmt.Sprintf("walk %d", k)
	case 16, 17, 18:
		return fmt.Sprintf("ack %d", k)
	case 19:
		return fmt.Sprintf("evict %d", k)
	case 20:
		return fmt.Sprintf("find %d", r.page())
	case 21:
		return fmt.Sprintf("kept %d", k)
	case 22:
		return "list"
	}
	return r.one("calm", "list", "", "  ")
}

// spoilt tells a line with something done to it, by which it mostly is none any more.
func (r maker) spoilt(line string) string {
	i := r.Intn(len(line) + 1)
	switch r.Intn(7) {
	case 0:
		return line[:i]
	case 1:
		return line[i:]
	case 2:
		return line[:i] + " " + line[i:]
	case 3:
		return line[:i] + string([]byte{byte(11 + r.Intn(245))}) + line[i:]
	case 4:
		return line[:i] + r.one("0", "1", "99999999", "00", "-", "+", "\t", "\r", "x", "é", "1 1") + line[i:]
	case 5:
		return strings.ReplaceAll(line, " ", r.one("  ", "   ", "\t", ""))
	}
	words := strings.Split(line, " ")
	at := r.Intn(len(words))
	words[at] = r.one("", "0", "1", "100000000", "100000001", "list", "walk", "new", words[r.Intn(len(words))])
	return strings.Join(words, " ")
}

// script tells lines, most of which are asked of a Watch.
func (r maker) script(n int) []string {
	cores := 1 + r.Intn(api.MaxCores)
	lines := []string{fmt.Sprintf("new %d %d", cores, 1+r.Intn(24))}
	for len(lines) < n {
		line := r.line(cores)
		if r.Intn(6) == 0 {
			line = r.spoilt(line)
		}
		if r.Intn(150) == 0 {
			line = fmt.Sprintf("new %d %d", r.Intn(api.MaxCores+2), r.Intn(130))
		}
		lines = append(lines, line)
	}
	return lines
}

// TestRuns: scripts tell what a Watch tells of which the same is asked, however their lines are parted.
func TestRuns(t *testing.T) {
	r := maker{rand.New(rand.NewSource(14))}
	for range 300 {
		lines := r.script(2 + r.Intn(1200))
		p := newPair(t)
		for len(lines) > 0 {
			n := min(len(lines), r.Intn(api.MaxLines+1))
			p.do(lines[:n]...)
			lines = lines[n:]
		}
	}
}

// TestRunsOneByOne: what lines tell in one Do they tell one by one.
func TestRunsOneByOne(t *testing.T) {
	r := maker{rand.New(rand.NewSource(15))}
	for range 200 {
		lines := r.script(api.MaxLines)
		var all strings.Builder
		d := desk.New()
		for _, line := range lines {
			all.WriteString(do(t, d, line))
		}
		tells(t, desk.New(), all.String(), lines...)
		tells(t, desk.New(), all.String(), lines...)
	}
}

// TestRunsSpoilt: lines of which nearly all are spoilt, some of them several times.
func TestRunsSpoilt(t *testing.T) {
	r := maker{rand.New(rand.NewSource(16))}
	for range 300 {
		lines := r.script(api.MaxLines)
		for i := 1; i < len(lines); i++ {
			for range r.Intn(4) {
				lines[i] = r.spoilt(lines[i])
			}
		}
		newPair(t).do(lines...)
	}
}

// TestRunsOfBytes: lines of bytes that mean nothing, and of words and numbers in any order.
func TestRunsOfBytes(t *testing.T) {
	r := maker{rand.New(rand.NewSource(17))}
	words := []string{"new", "map", "unmap", "protect", "access", "walk", "ack", "evict", "find", "kept", "list", "calm", "0", "1", "2", "3", "4", "5", "8", "100000000", "100000001", "", " ", "x", "\t", "\xff", "00"}
	for range 400 {
		lines := []string{"new 2 8"}
		for len(lines) < api.MaxLines {
			var line string
			if r.Intn(2) == 0 {
				for range r.Intn(8) {
					line += words[r.Intn(len(words))] + " "
				}
			} else {
				b := make([]byte, r.Intn(12))
				r.Read(b)
				line = strings.ReplaceAll(string(b), "\n", " ")
			}
			lines = append(lines, line)
		}
		newPair(t).do(lines...)
	}
}

// TestPairsOfLines: behind several scenes, each line of many, then each other one.
func TestPairsOfLines(t *testing.T) {
	scenes := [][]string{
		{}, {"new 1 4"}, {"new 2 8", "map 5 0 9 3"}, {"new 2 8", "map 5 0 9 3", "access 0 5 1 0", "walk 0"}, {"new 2 8", "map 5 0 9 3", "access 0 5 1 0", "calm", "protect 5 4"},
		{"new 2 8", "map 5 0 9 3", "access 0 5 1 0", "calm", "unmap 5", "ack 1", "access 1 5 0 1"}, {"new 4 128", "map 0 2 64 7", "access 3 9 2 1", "walk 3", "walk 3"}, {"new 2 8", "map 5 0 9 3", "new 0 0"},
	}
	lines := []string{"", "new 2 8", "new 0 8", "map 5 0 9 3", "map 8 1 8 7", "map 64 2 64 1", "unmap 5", "unmap 8", "protect 5 0", "protect 5 9", "access 0 5 0 0", "access 0 5 1 1", "access 1 8 2 0", "walk 0", "walk 1", "walk 3", "ack 0", "ack 1", "evict 0", "evict 1", "find 5", "find 4096", "kept 0", "kept 1", "kept 9", "list", "calm", "x", "map 5"}
	for _, s := range scenes {
		for _, a := range lines {
			for _, b := range lines {
				p := newPair(t)
				p.do(s...)
				p.do(a, b, "list", "find 5", "kept 0", "kept 1", "calm", "list")
			}
		}
	}
}

// TestLongest: as much as can be told: all frames in use, and a list of all in each line.
func TestLongest(t *testing.T) {
	p := newPair(t)
	p.do("new 4 128")
	var lines []string
	for page := range 900 {
		lines = append(lines, fmt.Sprintf("map %d 0 %d %d", page, api.MaxData-1-page, page%8))
	}
	for len(lines) > 0 {
		p.do(lines[:api.MaxLines]...)
		lines = lines[api.MaxLines:]
	}
	for range api.MaxLines {
		lines = append(lines, "list")
	}
	p.do(lines...)
}
