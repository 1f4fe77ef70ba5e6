package shell

import (
	"strconv"
	"strings"

	"cairn/api"
)

// What is answered where there is neither ok nor an error.
const (
	nothing   = "none" // no world, no result
	isPending = "pending"
	noWitness = "no"
	tooLong   = "long"
)

// What an address begins with.
const (
	serverMark = "s"
	clientMark = "c"
)

// answer puts the words of an answer together.
func answer(words ...string) string {
	told := strings.Join(words, " ")
	if len(told) > api.MaxBytes {
		return tooLong
	}
	return told
}

func errorWord(err api.Errno) []string { return []string{err.Error()} }

// okWords have that word ahead of the others.
func okWords(words ...string) []string { return append(errorWord(api.OK), words...) }

func okNumbers(l ...int) []string {
	var words []string
	for _, n := range l {
		words = append(words, strconv.Itoa(n))
	}
	return okWords(words...)
}

func faultWords(l []api.Fault) []string {
	var kinds []int
	for _, f := range l {
		kinds = append(kinds, f.Kind)
	}
	return okNumbers(kinds...)
}

// pairOf is how a file and a stamp are written.
func pairOf(a, b int) string { return strconv.Itoa(a) + "." + strconv.Itoa(b) }

func stampWord(s api.Stamp) string { return pairOf(s.N, s.Client) }

func addrWord(a api.Addr) string {
	if a.Client {
		return clientMark + strconv.Itoa(a.Id)
	}
	return serverMark + strconv.Itoa(a.Id)
}

func packetWord(p api.Packet) string {
	return addrWord(p.From) + "." + strconv.Itoa(p.Count) + ">" + addrWord(p.To)
}

func entryWords(e api.Entry) []string {
	return []string{Quote([]byte(e.Name)), pairOf(e.File.Client, e.File.Op), strconv.Itoa(e.Size)}
}

// resultWords tells of a Result what is not zero.
func resultWords(r api.Result) []string {
	words := errorWord(r.Err)
	if r.Err != api.OK {
		return words
	}
	if r.Entry != (api.Entry{}) {
		words = append(words, entryWords(r.Entry)...)
	}
	for _, e := range r.List {
		words = append(words, entryWords(e)...)
	}
	if len(r.Data) > 0 {
		words = append(words, Quote(r.Data))
	}
	if r.N != 0 {
		words = append(words, strconv.Itoa(r.N))
	}
	if r.Stamp != (api.Stamp{}) {
		words = append(words, stampWord(r.Stamp))
	}
	if r.Instance != 0 {
		words = append(words, "@"+strconv.Itoa(r.Instance))
	}
	return words
}
