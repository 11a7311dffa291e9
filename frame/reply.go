package frame

import (
	"math"

	"opaline/api"
	"opaline/part"
	"opaline/sha"
)

// replyFixed is how many bytes a reply has beside its body: the Code, the session, a length.
const replyFixed = 2 + 1 + 2

// Reply is what is answered.
type Reply struct {
	Code    api.Errno
	Session int
	Body    string
}

// check: may it be?
func (r Reply) check() api.Errno {
	if r.Code < 0 || r.Code > math.MaxUint16 {
		return api.ErrRange
	}
	return fits(r.Session, replyFixed+len(r.Body))
}

// Bytes: a reply's.
func (r Reply) Bytes() (string, api.Errno) {
	if e := r.check(); e != api.OK {
		return "", e
	}
	return octet(int(r.Code)>>8) + octet(int(r.Code)) + octet(r.Session) + sha.Counted(r.Body), api.OK
}

// ParseReply: the reply of bytes.
func ParseReply(s string) (Reply, api.Errno) { return read(s, (*Reply).take) }

// take: what a reader has, in the order in which Bytes writes it.
func (r *Reply) take(from *part.Reader) {
	high, low := from.Byte(), from.Byte()
	r.Code = api.Errno(high)<<8 | api.Errno(low)
	r.Session = int(from.Byte())
	r.Body = from.Counted()
}
