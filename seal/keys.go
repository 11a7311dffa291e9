package seal

import (
	"strings"

	"opaline/api"
	"opaline/hmac"
	"opaline/sha"
)

// keys are a key's two. Each stands as the one thing that it is for, so that neither is taken for the other.
type keys struct {
	row func(nonce string, n int) string
	sum func(note, nonce, hidden string) string
}

func keysOf(key string) keys {
	return keys{row: labelled(key, "Encrypt").row, sum: labelled(key, "Authenticate").sum}
}

// A part is one of a key's two, by what answers sums of it.
type part struct{ mac hmac.Mac }

func labelled(key, label string) part {
	// Secret is Label of 64 bytes; of labels as short as these it has no error.
	return part{hmac.With(hmac.Secret(key, label, ""))}
}

func (p part) row(nonce string, n int) string {
	var out strings.Builder
	for i := 0; out.Len() < n; i++ {
		block := p.mac(nonce, fourBytes(i))
		out.WriteString(block[:min(api.Hash, n-out.Len())])
	}
	return out.String()
}

func (p part) sum(note, nonce, hidden string) string {
	// What is hidden needs no length: it is the last, and what stands ahead of it is counted.
	return p.mac(sha.Counted(note, nonce), hidden)
}

func fourBytes(n int) string {
	return string([]byte{byte(n >> 24), byte(n >> 16), byte(n >> 8), byte(n)})
}
