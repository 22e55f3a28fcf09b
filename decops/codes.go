package decops

// Operation codes of the decimal instructions.
const (
	opCVD  = 0x4E
	opCVB  = 0x4F
	opED   = 0xDE
	opEDMK = 0xDF
	opSRP  = 0xF0
	opMVO  = 0xF1
	opPACK = 0xF2
	opUNPK = 0xF3
	opZAP  = 0xF8
	opCP   = 0xF9
	opAP   = 0xFA
	opSP   = 0xFB
	opMP   = 0xFC
	opDP   = 0xFD
)

// actionOf returns what executes the instruction with the operation code op, or nil if it is not the code of a decimal instruction.
func actionOf(op int) func(*execution) {
	switch op {
	case opCVB:
		return (*execution).toBinary
	case opCVD:
		return (*execution).toDecimal
	case opPACK:
		return (*execution).pack
	case opUNPK:
		return (*execution).unpack
	case opMVO:
		return (*execution).moveOffset
	case opZAP:
		return (*execution).zeroAndAdd
	case opAP:
		return (*execution).add
	case opSP:
		return (*execution).subtract
	case opCP:
		return (*execution).compare
	case opMP:
		return (*execution).multiply
	case opDP:
		return (*execution).divide
	case opSRP:
		return (*execution).shift
	case opED:
		return (*execution).edit
	case opEDMK:
		return (*execution).editAndMark
	}
	return nil
}
