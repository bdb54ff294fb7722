package message

import (
	"bellwether/api"
	"bellwether/fields"
	"bellwether/value"
)

// The codes of the sections, in their order. The two without a name are of sections that say nothing here.
const (
	headerCode uint64 = 0x70 + iota
	deliveryCode
	messageCode
	propertiesCode
	applicationCode
	dataCode
	_
	_
	footerCode
)

// Their names.
const (
	headerName      = "amqp:header:list"
	deliveryName    = "amqp:delivery-annotations:map"
	messageName     = "amqp:message-annotations:map"
	propertiesName  = "amqp:properties:list"
	applicationName = "amqp:application-properties:map"
	dataName        = "amqp:data:binary"
	footerName      = "amqp:footer:map"
)

// headerFields: how many fields a header has at most.
const headerFields = 5

// section: what a section is called, of which kind it is, and how it is read into a message: false, if it says nothing.
type section struct {
	code uint64
	name string
	kind uint8
	read func(v api.Value, m *api.Msg) bool
}

// theSections: all that there are, in their order.
func theSections() []section {
	return []section{
		{headerCode, headerName, api.ValList, readHeader},
		{deliveryCode, deliveryName, api.ValMap, letGo},
		{messageCode, messageName, api.ValMap, letGo},
		{propertiesCode, propertiesName, api.ValList, readProperties},
		{applicationCode, applicationName, api.ValMap, letGo},
		{dataCode, dataName, api.ValBinary, readData},
		{footerCode, footerName, api.ValMap, letGo},
	}
}

// is: is a value that may be called so, and of that kind?
func (s section) is(v api.Value) bool {
	if v.Kind != api.ValDesc || v.Kids[1].Kind != s.kind {
		return false
	}
	called := v.Kids[0]
	return value.Same(called, byCode(s.code)) || value.Same(called, value.Text(api.ValSymbol, s.name))
}

// told: the sections of a message that may be.
func told(m api.Msg) []api.Value {
	var l []api.Value
	if m.Priority != usual || m.Ttl != 0 || m.Count != 0 {
		l = append(l, fields.Put(headerCode, []api.Value{
			value.Null(),
			unless(usual, api.ValUbyte, uint64(m.Priority)),
			unless(0, api.ValUint, uint64(m.Ttl)),
			value.Null(),
			unless(0, api.ValUint, uint64(m.Count)),
		}))
	}
	if m.Id != "" {
		l = append(l, fields.Put(propertiesCode, []api.Value{value.Text(api.ValString, m.Id)}))
	}
	return append(l, value.Desc(byCode(dataCode), value.Text(api.ValBinary, string(m.Body))))
}

// unless: a number of a kind, or null, if it is what it would be if it were not there.
func unless(none uint64, kind uint8, n uint64) api.Value {
	if n == none {
		return value.Null()
	}
	return value.Number(kind, n)
}

// byCode: what a section is called by its code.
func byCode(code uint64) api.Value { return value.Number(api.ValUlong, code) }

func readHeader(v api.Value, m *api.Msg) bool {
	f, e := fields.New(v, headerCode, headerName)
	if e != api.OK {
		return false
	}
	f.Value(0, []uint8{api.ValBool})
	f.Value(3, []uint8{api.ValBool})
	priority := f.Number(1, api.ValUbyte, false, usual)
	if priority > maxPriority {
		f.Spoil()
	}
	m.Priority = uint8(priority)
	m.Ttl = uint32(f.Number(2, api.ValUint, false, 0))
	m.Count = uint32(f.Number(4, api.ValUint, false, 0))
	return f.Done(headerFields) == api.OK
}

func readProperties(v api.Value, m *api.Msg) bool {
	f, e := fields.New(v, propertiesCode, propertiesName)
	if e != api.OK {
		return false
	}
	kinds := ofProperties()
	id := f.Value(0, kinds[0])
	for i := 1; i < len(kinds); i++ {
		f.Value(i, kinds[i])
	}
	// Of what else may name a message nothing is told.
	if id.Kind == api.ValString {
		if !isId(id.Text) {
			f.Spoil()
		}
		m.Id = id.Text
	}
	return f.Done(len(kinds)) == api.OK
}

// ofProperties: of which kinds each field of the properties may be.
func ofProperties() [][]uint8 {
	// A message's own name, and that of the one to which it answers.
	name := []uint8{api.ValUlong, api.ValUuid, api.ValBinary, api.ValString}
	text, symbol, moment := []uint8{api.ValString}, []uint8{api.ValSymbol}, []uint8{api.ValTime}
	return [][]uint8{
		name, {api.ValBinary}, text, text, text, name,
		symbol, symbol, moment, moment, text, {api.ValUint}, text,
	}
}

// readData puts a part of the body behind those that came.
func readData(v api.Value, m *api.Msg) bool {
	data := v.Kids[1].Text
	if len(m.Body)+len(data) > api.MaxBody {
		return false
	}
	m.Body = append(m.Body, data...)
	return true
}

// letGo: of a section that is of its kind nothing is told.
func letGo(api.Value, *api.Msg) bool { return true }
