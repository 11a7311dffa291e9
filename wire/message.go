package wire

import "opaline/api"

// How many bytes the messages' parts have. What is masked is a server's key and an envelope.
const (
	element  = api.Group
	nonce    = api.Nonce
	sum      = api.Hash
	envelope = api.Envelope
	masked   = api.Group + api.Envelope
)

// Request asks to be registered.
type Request struct{ Blinded string }

// Response answers that.
type Response struct{ Evaluated, Public string }

// Record is what is kept of an account.
type Record struct{ Public, Masking, Envelope string }

// KE1 begins a login.
type KE1 struct{ Blinded, Nonce, Share string }

// KE2 answers that.
type KE2 struct{ Evaluated, MaskNonce, Masked, Nonce, Share, MAC string }

// KE3 ends it.
type KE3 struct{ MAC string }

// A message's sizes stand once, for those who write it and for those who read it.

func requestSizes() []int { return []int{element} }

func responseSizes() []int { return []int{element, element} }

func recordSizes() []int { return []int{element, sum, envelope} }

func ke1Sizes() []int { return []int{element, nonce, element} }

func ke2Sizes() []int { return []int{element, nonce, masked, nonce, element, sum} }

func ke3Sizes() []int { return []int{sum} }

// Bytes: a request's.
func (m Request) Bytes() (string, api.Errno) { return Join(requestSizes(), m.Blinded) }

// Bytes: a response's.
func (m Response) Bytes() (string, api.Errno) {
	return Join(responseSizes(), m.Evaluated, m.Public)
}

// Bytes: a record's.
func (m Record) Bytes() (string, api.Errno) {
	return Join(recordSizes(), m.Public, m.Masking, m.Envelope)
}

// Bytes: a first message's.
func (m KE1) Bytes() (string, api.Errno) {
	return Join(ke1Sizes(), m.Blinded, m.Nonce, m.Share)
}

// Bytes: a second one's.
func (m KE2) Bytes() (string, api.Errno) {
	return Join(ke2Sizes(), m.Evaluated, m.MaskNonce, m.Masked, m.Nonce, m.Share, m.MAC)
}

// Bytes: a third one's.
func (m KE3) Bytes() (string, api.Errno) { return Join(ke3Sizes(), m.MAC) }

// Answer: the first parts of a second message.
func (m KE2) Answer() string { return m.Evaluated + m.MaskNonce + m.Masked }

// read: a text's parts, made into a message. There are as many of them as sizes whenever it is made.
func read[M any](s string, message func(p []string) M, sizes ...int) (M, api.Errno) {
	parts, e := Split(s, sizes...)
	if e != api.OK {
		var none M
		return none, e
	}
	return message(parts), api.OK
}

// ParseRequest: of a text.
func ParseRequest(s string) (Request, api.Errno) {
	return read(s, func(p []string) Request {
		return Request{Blinded: p[0]}
	}, requestSizes()...)
}

// ParseResponse: of a text.
func ParseResponse(s string) (Response, api.Errno) {
	return read(s, func(p []string) Response {
		return Response{Evaluated: p[0], Public: p[1]}
	}, responseSizes()...)
}

// ParseRecord: of a text.
func ParseRecord(s string) (Record, api.Errno) {
	return read(s, func(p []string) Record {
		return Record{Public: p[0], Masking: p[1], Envelope: p[2]}
	}, recordSizes()...)
}

// ParseKE1: of a text.
func ParseKE1(s string) (KE1, api.Errno) {
	return read(s, func(p []string) KE1 {
		return KE1{Blinded: p[0], Nonce: p[1], Share: p[2]}
	}, ke1Sizes()...)
}

// ParseKE2: of a text.
func ParseKE2(s string) (KE2, api.Errno) {
	return read(s, func(p []string) KE2 {
		return KE2{Evaluated: p[0], MaskNonce: p[1], Masked: p[2], Nonce: p[3], Share: p[4], MAC: p[5]}
	}, ke2Sizes()...)
}

// ParseKE3: of a text.
func ParseKE3(s string) (KE3, api.Errno) {
	return read(s, func(p []string) KE3 {
		return KE3{MAC: p[0]}
	}, ke3Sizes()...)
}
