package disp

import (
	"encoding/hex"
	"strings"
	"testing"

	"hansom/api"
	"hansom/scan"
)

// read is the instruction of bytes that are told in hexadecimal.
func read(t *testing.T, s string) api.Inst {
	t.Helper()
	b, err := hex.DecodeString(strings.ReplaceAll(s, " ", ""))
	if err != nil {
		t.Fatal(err)
	}
	i, n, e := scan.Get(b)
	if e != api.OK || n != len(b) {
		t.Fatalf("%s is no instruction: %d bytes, %d", s, n, e)
	}
	return i
}

// told holds texts against bytes: a line has bytes, a colon, and the text.
func told(t *testing.T, lines string) {
	t.Helper()
	for _, line := range strings.Split(strings.TrimSpace(lines), "\n") {
		b, want, ok := strings.Cut(strings.TrimSpace(line), " : ")
		if !ok {
			t.Fatalf("%q has no text", line)
		}
		if got := Text(read(t, b)); got != want {
			t.Errorf("of %s: %q; asked %q", b, got, want)
		}
	}
}

// TestShown is the texts that the chapter shows, and its example.
func TestShown(t *testing.T) {
	told(t, `
		04 05 : ADD AL,05
		B8 34 12 : MOV AX,1234
		89 80 10 00 : MOV WORD [BX+SI+0010],AX
		26 80 46 FE 0F : ADD BYTE ES:[BP-02],0F
		A1 34 12 : MOV AX,WORD [1234]
		8B 06 34 12 : MOV AX,WORD [1234]
		C4 05 : LES AX,FAR [DI]
		C4 1D : LES BX,FAR [DI]
		8D 07 : LEA AX,[BX]
		74 FB : JZ -0005
		E9 10 00 : JMP +0010
		EB 10 : JMP +0010
		9A 10 00 40 00 : CALLF 0040:0010
		F3 A4 : REP MOVSB
		F0 40 : LOCK INC AX
		F0 FF C0 : LOCK INC AX
		D1 E0 : SHL AX,1
		CC : INT 3
		90 : XCHG AX,AX
	`)
}

// TestOperands is each kind of operand, beside each kind that may stand there.
func TestOperands(t *testing.T) {
	told(t, `
		00 D9 : ADD CL,BL
		00 1F : ADD BYTE [BX],BL
		19 D9 : SBB CX,BX
		19 1F : SBB WORD [BX],BX
		0A D9 : OR BL,CL
		0A 1F : OR BL,BYTE [BX]
		23 D9 : AND BX,CX
		23 1F : AND BX,WORD [BX]
		14 80 : ADC AL,80
		2D 01 00 : SUB AX,0001
		80 F9 0A : CMP CL,0A
		80 3F 0A : CMP BYTE [BX],0A
		81 F1 0A 00 : XOR CX,000A
		81 37 0A 00 : XOR WORD [BX],000A
		83 C1 0A : ADD CX,000A
		83 C1 F6 : ADD CX,FFF6
		83 07 80 : ADD WORD [BX],FF80
		06 : PUSH ES
		0E : PUSH CS
		16 : PUSH SS
		1E : PUSH DS
		07 : POP ES
		17 : POP SS
		1F : POP DS
		4F : DEC DI
		55 : PUSH BP
		5C : POP SP
		91 : XCHG AX,CX
		97 : XCHG AX,DI
		86 E7 : XCHG BH,AH
		87 26 00 00 : XCHG WORD [0000],SP
		84 E7 : TEST BH,AH
		A8 00 : TEST AL,00
		A9 00 00 : TEST AX,0000
		8C D8 : MOV AX,DS
		8C 07 : MOV WORD [BX],ES
		8E D7 : MOV SS,DI
		8E 1F : MOV DS,WORD [BX]
		8F C1 : POP CX
		8F 07 : POP WORD [BX]
		A0 01 00 : MOV AL,BYTE [0001]
		A1 01 00 : MOV AX,WORD [0001]
		A2 FF FF : MOV BYTE [FFFF],AL
		A3 FF FF : MOV WORD [FFFF],AX
		B0 7F : MOV AL,7F
		B7 FF : MOV BH,FF
		BF FF FF : MOV DI,FFFF
		C6 C1 05 : MOV CL,05
		C6 07 05 : MOV BYTE [BX],05
		C7 C1 05 00 : MOV CX,0005
		C7 07 05 00 : MOV WORD [BX],0005
		8D 3E 34 12 : LEA DI,[1234]
		C5 37 : LDS SI,FAR [BX]
		C2 04 00 : RET 0004
		C3 : RET
		CA 00 80 : RETF 8000
		CB : RETF
		CD 03 : INT 03
		CD 21 : INT 21
		D0 C4 : ROL AH,1
		D0 0F : ROR BYTE [BX],1
		D1 17 : RCL WORD [BX],1
		D2 DB : RCR BL,CL
		D2 27 : SHL BYTE [BX],CL
		D3 E9 : SHR CX,CL
		D3 3F : SAR WORD [BX],CL
		D4 0A : AAM 0A
		D5 0A : AAD 0A
		D8 C1 : ESC CX
		DF 3F : ESC WORD [BX]
		E4 05 : IN AL,05
		E5 FF : IN AX,FF
		E6 05 : OUT 05,AL
		E7 FF : OUT FF,AX
		EC : IN AL,DX
		ED : IN AX,DX
		EE : OUT DX,AL
		EF : OUT DX,AX
		F6 C4 0F : TEST AH,0F
		F7 07 0F 00 : TEST WORD [BX],000F
		F6 D1 : NOT CL
		F6 1F : NEG BYTE [BX]
		F7 E1 : MUL CX
		F7 2F : IMUL WORD [BX]
		F6 F7 : DIV BH
		F7 FF : IDIV DI
		FE C4 : INC AH
		FE 0F : DEC BYTE [BX]
		FF 07 : INC WORD [BX]
		FF C9 : DEC CX
		FF D0 : CALL AX
		FF 17 : CALL WORD [BX]
		FF 1F : CALLF FAR [BX]
		FF E3 : JMP BX
		FF 27 : JMP WORD [BX]
		FF 2F : JMPF FAR [BX]
		FF F4 : PUSH SP
		FF 37 : PUSH WORD [BX]
	`)
}

// TestAlone is what has no operand.
func TestAlone(t *testing.T) {
	told(t, `
		27 : DAA
		2F : DAS
		37 : AAA
		3F : AAS
		98 : CBW
		99 : CWD
		9B : WAIT
		9C : PUSHF
		9D : POPF
		9E : SAHF
		9F : LAHF
		A4 : MOVSB
		A5 : MOVSW
		A6 : CMPSB
		A7 : CMPSW
		AA : STOSB
		AB : STOSW
		AC : LODSB
		AD : LODSW
		AE : SCASB
		AF : SCASW
		CE : INTO
		CF : IRET
		D7 : XLAT
		F4 : HLT
		F5 : CMC
		F8 : CLC
		F9 : STC
		FA : CLI
		FB : STI
		FC : CLD
		FD : STD
	`)
}

// TestPlaces is each way of telling where something is in memory, with no number behind, one of one byte (both signs, and 0) and of two, and the number alone.
func TestPlaces(t *testing.T) {
	told(t, `
		8A 00 : MOV AL,BYTE [BX+SI]
		8A 01 : MOV AL,BYTE [BX+DI]
		8A 02 : MOV AL,BYTE [BP+SI]
		8A 03 : MOV AL,BYTE [BP+DI]
		8A 04 : MOV AL,BYTE [SI]
		8A 05 : MOV AL,BYTE [DI]
		8A 06 00 00 : MOV AL,BYTE [0000]
		8A 06 FF FF : MOV AL,BYTE [FFFF]
		8A 06 0F 00 : MOV AL,BYTE [000F]
		8A 07 : MOV AL,BYTE [BX]
		8B 40 00 : MOV AX,WORD [BX+SI+00]
		8B 41 01 : MOV AX,WORD [BX+DI+01]
		8B 42 7F : MOV AX,WORD [BP+SI+7F]
		8B 43 80 : MOV AX,WORD [BP+DI-80]
		8B 44 FF : MOV AX,WORD [SI-01]
		8B 45 0A : MOV AX,WORD [DI+0A]
		8B 46 00 : MOV AX,WORD [BP+00]
		8B 47 F6 : MOV AX,WORD [BX-0A]
		8D 80 00 00 : LEA AX,[BX+SI+0000]
		8D 81 01 00 : LEA AX,[BX+DI+0001]
		8D 82 7F 00 : LEA AX,[BP+SI+007F]
		8D 83 FF 7F : LEA AX,[BP+DI+7FFF]
		8D 84 00 80 : LEA AX,[SI+8000]
		8D 85 80 FF : LEA AX,[DI+FF80]
		8D 86 FF FF : LEA AX,[BP+FFFF]
		8D 87 CD AB : LEA AX,[BX+ABCD]
		C4 86 34 12 : LES AX,FAR [BP+1234]
		C5 4E FE : LDS CX,FAR [BP-02]
	`)
}

// TestSegments is the prefix of a segment: told of what is in memory alone, and not of what is there without its being told.
func TestSegments(t *testing.T) {
	told(t, `
		26 8A 07 : MOV AL,BYTE ES:[BX]
		2E 8B 07 : MOV AX,WORD CS:[BX]
		36 88 47 00 : MOV BYTE SS:[BX+00],AL
		3E 89 46 80 : MOV WORD DS:[BP-80],AX
		2E A0 34 12 : MOV AL,BYTE CS:[1234]
		26 A1 34 12 : MOV AX,WORD ES:[1234]
		36 A2 34 12 : MOV BYTE SS:[1234],AL
		3E A3 34 12 : MOV WORD DS:[1234],AX
		26 8D 07 : LEA AX,ES:[BX]
		2E 8D 06 00 00 : LEA AX,CS:[0000]
		36 C4 1D : LES BX,FAR SS:[DI]
		2E FF 2E 10 00 : JMPF FAR CS:[0010]
		26 D8 07 : ESC WORD ES:[BX]
		3E 8E 17 : MOV SS,WORD DS:[BX]
		2E D3 27 : SHL WORD CS:[BX],CL
		26 D8 C0 : ESC AX
		26 89 C3 : MOV BX,AX
		2E 88 C3 : MOV BL,AL
		36 FF E0 : JMP AX
		3E 06 : PUSH ES
		26 D7 : XLAT
		2E A4 : MOVSB
		36 A7 : CMPSW
		3E AA : STOSB
		26 AD : LODSW
		2E AE : SCASB
		26 EC : IN AL,DX
		2E 74 00 : JZ +0000
		36 9A 00 00 00 00 : CALLF 0000:0000
		3E B8 00 00 : MOV AX,0000
		26 90 : XCHG AX,AX
		2E F4 : HLT
	`)
}

// TestPrefixes is the prefixes ahead of the name, one and more of them, in whatever order they came.
func TestPrefixes(t *testing.T) {
	told(t, `
		F0 F4 : LOCK HLT
		F0 26 FF 07 : LOCK INC WORD ES:[BX]
		F0 86 07 : LOCK XCHG BYTE [BX],AL
		26 F0 86 07 : LOCK XCHG BYTE ES:[BX],AL
		F0 D7 : LOCK XLAT
		F3 A5 : REP MOVSW
		F3 A6 : REP CMPSB
		F3 A7 : REP CMPSW
		F3 AA : REP STOSB
		F3 AB : REP STOSW
		F3 AC : REP LODSB
		F3 AD : REP LODSW
		F3 AE : REP SCASB
		F3 AF : REP SCASW
		F2 A6 : REPNE CMPSB
		F2 A7 : REPNE CMPSW
		F2 AE : REPNE SCASB
		F2 AF : REPNE SCASW
		F3 2E A4 : REP MOVSB
		26 F2 A6 : REPNE CMPSB
		F0 F3 A4 : LOCK REP MOVSB
		F3 F0 A4 : LOCK REP MOVSB
		F0 F2 AE : LOCK REPNE SCASB
		36 F2 F0 A7 : LOCK REPNE CMPSW
	`)
}

// TestJumps is jumps ahead, back and by 0, short and long, and far ones.
func TestJumps(t *testing.T) {
	told(t, `
		EB 00 : JMP +0000
		EB 01 : JMP +0001
		EB 7F : JMP +007F
		EB 80 : JMP -0080
		EB FF : JMP -0001
		EB FE : JMP -0002
		E9 00 00 : JMP +0000
		E9 01 00 : JMP +0001
		E9 80 00 : JMP +0080
		E9 FF 7F : JMP +7FFF
		E9 00 80 : JMP -8000
		E9 01 80 : JMP -7FFF
		E9 80 FF : JMP -0080
		E9 FF FF : JMP -0001
		E8 34 12 : CALL +1234
		E8 CC ED : CALL -1234
		E0 0A : LOOPNZ +000A
		E1 F6 : LOOPZ -000A
		E2 FE : LOOP -0002
		E3 00 : JCXZ +0000
		EA 34 12 CD AB : JMPF ABCD:1234
		9A 01 00 00 00 : CALLF 0000:0001
		9A 00 00 01 00 : CALLF 0001:0000
		EA FF FF FF FF : JMPF FFFF:FFFF
	`)
	for k, s := range jumps() {
		i := api.Inst{Op: byte(0x70 + k), Imm: 0xfffb}
		if got := Text(i); got != s+" -0005" {
			t.Errorf("of %02X FB: %q", i.Op, got)
		}
	}
}

// TestHanded is an instruction that is put together by hand, no bytes read.
func TestHanded(t *testing.T) {
	i := api.Inst{Lock: true, Seg: 1 + api.SS, Op: 0x81, Mod: 2, Reg: 4, RM: 2, Disp: 0xff01, Imm: 0x00ab}
	was := i
	for range 2 {
		if got := Text(i); got != "LOCK AND WORD SS:[BP+SI+FF01],00AB" {
			t.Errorf("it is %q", got)
		}
	}
	if i != was {
		t.Errorf("it was changed: %+v", i)
	}
}

// TestMayNot is instructions that may not be, each by one cause.
func TestMayNot(t *testing.T) {
	wrong := []api.Inst{
		{Op: 0x26}, {Op: 0x2e}, {Op: 0x36}, {Op: 0x3e}, {Op: 0xf0}, {Op: 0xf2}, {Op: 0xf3},
		{Op: 0x0f}, {Op: 0x60}, {Op: 0x6f}, {Op: 0x82}, {Op: 0xc0}, {Op: 0xc8}, {Op: 0xd6}, {Op: 0xf1},
		{Op: 0x83, Reg: 1}, {Op: 0x83, Reg: 4}, {Op: 0x83, Reg: 6}, {Op: 0x8c, Reg: 4}, {Op: 0x8e, Reg: api.CS}, {Op: 0x8e, Reg: 4}, {Op: 0x8f, Reg: 1},
		{Op: 0xc6, Reg: 1}, {Op: 0xc7, Reg: 7}, {Op: 0xd0, Reg: 6}, {Op: 0xd3, Reg: 6}, {Op: 0xf6, Reg: 1}, {Op: 0xf7, Reg: 1}, {Op: 0xfe, Reg: 2}, {Op: 0xff, Reg: 7},
		{Op: 0x89, Mod: -1}, {Op: 0x89, Mod: 4}, {Op: 0x89, Reg: -1}, {Op: 0x89, Reg: 8}, {Op: 0x89, RM: -1}, {Op: 0x89, RM: 8},
		{Op: 0x89, Mod: 1 << 40}, {Op: 0x89, Reg: -1 << 40}, {Op: 0x89, RM: 1 << 40},
		{Op: 0x8d, Mod: 3}, {Op: 0xc4, Mod: 3}, {Op: 0xc5, Mod: 3}, {Op: 0xff, Mod: 3, Reg: 3}, {Op: 0xff, Mod: 3, Reg: 5},
		{Op: 0x89, Disp: 1}, {Op: 0x89, Mod: 3, Disp: 1}, {Op: 0x89, Mod: 1, Disp: 0x80}, {Op: 0x89, Mod: 1, Disp: 0xff7f},
		{Op: 0x90, Mod: 1}, {Op: 0x90, Reg: 1}, {Op: 0x90, RM: 1}, {Op: 0x90, Disp: 1}, {Op: 0x90, Imm: 1}, {Op: 0x90, Sel: 1},
		{Op: 0x04, Imm: 0x100}, {Op: 0xd4}, {Op: 0xd4, Imm: 11}, {Op: 0xd5, Imm: 9}, {Op: 0x83, Imm: 0x80}, {Op: 0x74, Imm: 0x80}, {Op: 0xeb, Imm: 0xff7f},
		{Op: 0xe9, Sel: 1}, {Op: 0xcc, Imm: 3}, {Op: 0xd0, Imm: 1},
		{Op: 0x90, Seg: -1}, {Op: 0x90, Seg: 5}, {Op: 0x90, Rep: 1}, {Op: 0x90, Rep: 2}, {Op: 0xa4, Rep: 1}, {Op: 0xaa, Rep: 1}, {Op: 0xad, Rep: 1},
		{Op: 0xa4, Rep: -1}, {Op: 0xa4, Rep: 3}, {Op: 0xa6, Rep: 3}, {Op: 0xa6, Rep: -1 << 40},
	}
	for _, i := range wrong {
		if got := Text(i); got != "?" {
			t.Errorf("%+v is %q, and it may not be", i, got)
		}
		i.Lock = true
		if got := Text(i); got != "?" {
			t.Errorf("%+v is %q, and it may not be", i, got)
		}
	}
}
