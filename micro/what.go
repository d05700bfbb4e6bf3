package micro

// What is a byte (of Read, Write, In and Out), a work (of Work) or a condition
// (of Unless). Each has eight numbers, since N alone couldn't tell both of which
// register a code speaks and which turn, bit or operation it asks for: where
// Which stands below, that is told by the lowest bits; elsewhere they are 0.
type What int

// Which are those lowest bits.
const Which What = 7

// groupShift is how many bits Which has.
const groupShift = 3

// The bytes. The register 6, that there isn't, is the latch: what was read of
// memory or a port, and what is written there.
const (
	ByteReg    What = iota << groupShift // layer 6's register Which, with the index
	ByteOwn                              // layer 6's register Which, without an index
	ByteF                                // F, as it is pushed and popped
	ByteZ                                // WZ's lower byte
	ByteW                                // WZ's upper byte
	ByteD                                // the distance
	ByteSpLow                            // SP's lower byte
	ByteSpHigh                           // SP's upper byte
	BytePcLow                            // PC's lower byte
	BytePcHigh                           // PC's upper byte
	ByteNought                           // 0
)

// The works of bytes. N is a register's number, with the index if it isn't said
// otherwise; of 6 the latch.
const (
	DoOperate What = iota << groupShift // layer 2's operation Which, of A and N
	DoTurn                              // layer 4's turn Which, of N
	DoBit                               // N's bit Which is tested; Y and X of N, or of the latch of WZ's upper byte
	DoRes                               // N's bit Which is reset
	DoSet                               // N's bit Which is set
	DoLoad                              // the register Which is N
	DoKeep                              // the register N itself, without an index, is the latch
	DoInc                               // N is one more
	DoDec                               // N is one less
	DoAdjust                            // by Which: rlca rrca rla rra daa cpl scf ccf
	DoNeg                               // A is 0 less A
	DoInput                             // N is the latch, that came from a port: F by it
	DoSpecial                           // by Which: ld i,a; ld r,a; ld a,i; ld a,r
	DoRrd                               // rrd of A and the latch
	DoRld                               // rld of A and the latch
	DoDecB                              // B is one less, and F stays

	firstOfWords What = iota << groupShift
)

// The works of words. N is a pair's number, with the index if it isn't said
// otherwise.
const (
	DoIncPair  = firstOfWords + iota<<groupShift // the pair N is one more
	DoDecPair                                    // the pair N is one less
	DoAdd                                        // HL, or the index: the pair N is added
	DoAdc                                        // HL: the pair N and C are added
	DoSbc                                        // HL: the pair N and C are subtracted
	DoPoint                                      // WZ is the pair N
	DoNext                                       // WZ is the number N more, N 1 or -1
	DoAbove                                      // WZ's upper byte is A
	DoReckon                                     // WZ is the index and the distance
	DoLoadSp                                     // SP is HL, or the index
	DoTakeTop                                    // HL, or the index, is WZ
	DoJump                                       // PC is WZ
	DoJumpHl                                     // PC is HL, or the index; WZ stays
	DoJumpNear                                   // PC and WZ are PC and the distance
	DoRestart                                    // PC and WZ are the number N

	firstOfOthers = firstOfWords + iota<<groupShift
)

// The other works. Of a block N is the direction, 1 or -1.
const (
	DoExAf      = firstOfOthers + iota<<groupShift // ex af,af'
	DoExx                                          // exx
	DoExDe                                         // ex de,hl, without an index
	DoHalt                                         // halt
	DoDi                                           // di
	DoEi                                           // ei
	DoMode                                         // the interrupts' mode is N
	DoRestore                                      // IFF1 is IFF2
	DoCopied                                       // ldi, ldd: HL and DE go on, BC is one less; F
	DoSought                                       // cpi, cpd: HL goes on, BC is one less; F
	DoCame                                         // ini, ind: HL goes on; F by C and N
	DoWent                                         // outi, outd: HL goes on; F by L from behind
	DoAgain                                        // ldir, cpir and so on: PC is two less, WZ PC and 1; F
	DoPortAgain                                    // inir, otir and so on: likewise; F by the latch and B
)

// The conditions.
const (
	IfFlag What = iota << groupShift // layer 1's condition Which
	IfB                              // B isn't 0
	IfBc                             // BC isn't 0
	IfMore                           // BC isn't 0, and what is sought wasn't found
)
