package view

import (
	"strings"

	"flotsam/api"
	paths "flotsam/path"
)

// The notation of nodes and of their bytes.
const (
	quote   = '"'
	escape  = '\\'
	escaped = len(`\00`)
	digits  = "0123456789abcdef"
	slash   = "/"
	blank   = " "
	end     = "\n"
)

// Quote returns s as a quoted string.
func Quote(s string) string {
	b := []byte{quote}
	for i := range len(s) {
		c := s[i]
		if plain(c) {
			b = append(b, c)
		} else {
			b = append(b, escape, digits[c>>4], digits[c&15])
		}
	}
	return string(append(b, quote))
}

// Unquote returns the string whose Quote s is, or false if there is none.
func Unquote(s string) (string, bool) {
	last := len(s) - 1
	// A single quotation mark would be both the first and the last byte.
	if last < 1 || s[0] != quote || s[last] != quote {
		return "", false
	}
	var b []byte
	for rest := s[1:last]; rest != ""; {
		c, n := first(rest)
		if n == 0 {
			return "", false
		}
		b = append(b, c)
		rest = rest[n:]
	}
	return string(b), true
}

// plain reports whether a byte represents itself in a quoted string.
func plain(c byte) bool {
	return c >= ' ' && c <= '~' && c != quote && c != escape
}

// first returns the byte that is represented at the beginning of s, and by how many bytes, or 0 if by none.
func first(s string) (byte, int) {
	if plain(s[0]) {
		return s[0], 1
	}
	if s[0] != escape || len(s) < escaped {
		return 0, 0
	}
	high, low := strings.IndexByte(digits, s[1]), strings.IndexByte(digits, s[2])
	if high < 0 || low < 0 {
		return 0, 0
	}
	c := byte(high<<4 | low)
	// Each byte has one notation only, so that no other text than its Quote is read.
	if plain(c) {
		return 0, 0
	}
	return c, escaped
}

// Show returns a line for each node, or false if one of them is not valid.
func Show(l []api.Node) (string, bool) {
	var b strings.Builder
	for _, x := range l {
		if !valid(x) {
			return "", false
		}
		b.WriteString(lineOf(x))
	}
	return b.String(), true
}

// valid reports whether x can be a node: at a path below the root directory, with no more bytes than it can have.
func valid(x api.Node) bool {
	// Parent refuses what is not a path, and also the root directory.
	_, _, e := paths.Parent(x.Path)
	most := api.MaxFile
	if x.Dir {
		most = 0
	}
	return e == api.OK && len(x.Data) <= most
}

// lineOf returns the line of a node.
func lineOf(x api.Node) string {
	if x.Dir {
		return x.Path + slash + end
	}
	return x.Path + blank + Quote(x.Data) + end
}

// Read returns the valid nodes whose Show s is, or false if there are none such.
func Read(s string) ([]api.Node, bool) {
	var l []api.Node
	for line := range strings.Lines(s) {
		x, ok := nodeOf(line)
		if !ok || !valid(x) {
			return nil, false
		}
		// What is cut from a string shares its memory.
		x.Path = strings.Clone(x.Path)
		l = append(l, x)
	}
	return l, true
}

// nodeOf returns the node that would have a line, valid or not, or false if there is none.
func nodeOf(line string) (api.Node, bool) {
	if path, ok := strings.CutSuffix(line, slash+end); ok {
		return api.Node{Path: path, Dir: true}, true
	}
	// What ends the line is not part of its bytes, as a quoted string has no line end.
	line, ended := strings.CutSuffix(line, end)
	path, quoted, _ := strings.Cut(line, blank)
	data, ok := Unquote(quoted)
	return api.Node{Path: path, Data: data}, ok && ended
}
