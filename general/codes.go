package general

// Operation codes of instructions on registers, or on a register and an operand in storage.
const (
	opSPM  = 0x04
	opLPR  = 0x10
	opLNR  = 0x11
	opLTR  = 0x12
	opLCR  = 0x13
	opNR   = 0x14
	opCLR  = 0x15
	opOR   = 0x16
	opXR   = 0x17
	opLR   = 0x18
	opCR   = 0x19
	opAR   = 0x1A
	opSR   = 0x1B
	opMR   = 0x1C
	opDR   = 0x1D
	opALR  = 0x1E
	opSLR  = 0x1F
	opLA   = 0x41
	opLH   = 0x48
	opCH   = 0x49
	opAH   = 0x4A
	opSH   = 0x4B
	opMH   = 0x4C
	opN    = 0x54
	opCL   = 0x55
	opO    = 0x56
	opX    = 0x57
	opL    = 0x58
	opC    = 0x59
	opA    = 0x5A
	opS    = 0x5B
	opM    = 0x5C
	opD    = 0x5D
	opAL   = 0x5E
	opSL   = 0x5F
	opSRL  = 0x88
	opSLL  = 0x89
	opSRA  = 0x8A
	opSLA  = 0x8B
	opSRDL = 0x8C
	opSLDL = 0x8D
	opSRDA = 0x8E
	opSLDA = 0x8F
)

// Operation codes of instructions on storage.
const (
	opSTH = 0x40
	opSTC = 0x42
	opIC  = 0x43
	opST  = 0x50
	opSTM = 0x90
	opTM  = 0x91
	opMVI = 0x92
	opTS  = 0x93
	opNI  = 0x94
	opCLI = 0x95
	opOI  = 0x96
	opXI  = 0x97
	opLM  = 0x98
	opMVN = 0xD1
	opMVC = 0xD2
	opMVZ = 0xD3
	opNC  = 0xD4
	opCLC = 0xD5
	opOC  = 0xD6
	opXC  = 0xD7
	opTR  = 0xDC
	opTRT = 0xDD
)

// Operation codes of branches.
const (
	opBALR = 0x05
	opBCTR = 0x06
	opBCR  = 0x07
	opBAL  = 0x45
	opBCT  = 0x46
	opBC   = 0x47
	opBXH  = 0x86
	opBXLE = 0x87
)

// actionOf returns what executes the instructions with the operation code op, or nil if it is not the code of a general instruction.
func actionOf(op int) func(*execution) {
	switch op {
	case opLR, opL, opLH:
		return (*execution).load
	case opLTR, opLCR, opLPR, opLNR:
		return (*execution).loadTested
	case opAR, opA, opAH, opSR, opS, opSH, opALR, opAL, opSLR, opSL:
		return (*execution).add
	case opCR, opC, opCH, opCLR, opCL:
		return (*execution).compare
	case opNR, opN, opOR, opO, opXR, opX:
		return (*execution).combine
	case opMR, opM:
		return (*execution).multiply
	case opMH:
		return (*execution).multiplyHalf
	case opDR, opD:
		return (*execution).divide
	case opSLA, opSRA, opSLL, opSRL:
		return (*execution).shift
	case opSLDA, opSRDA, opSLDL, opSRDL:
		return (*execution).shiftPair
	case opLA:
		return (*execution).loadAddress
	case opSPM:
		return (*execution).setProgramMask
	case opST, opSTH, opSTC:
		return (*execution).storeRegister
	case opIC:
		return (*execution).insertByte
	case opLM:
		return (*execution).loadMultiple
	case opSTM:
		return (*execution).storeMultiple
	case opMVI:
		return (*execution).moveImmediate
	case opNI, opOI, opXI:
		return (*execution).combineImmediate
	case opCLI, opTM:
		return (*execution).examineByte
	case opTS:
		return (*execution).testAndSet
	case opMVC, opMVN, opMVZ, opNC, opOC, opXC:
		return (*execution).replace
	case opCLC:
		return (*execution).compareFields
	case opTR:
		return (*execution).translate
	case opTRT:
		return (*execution).translateAndTest
	case opBCR, opBC, opBALR, opBAL, opBCTR, opBCT, opBXH, opBXLE:
		return (*execution).branch
	}
	return nil
}
