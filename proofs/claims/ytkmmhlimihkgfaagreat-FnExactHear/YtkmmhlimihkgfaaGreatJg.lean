/- Own texts joined: HRg, FrpT, OnceI, OnceJ, Rng, NameI, CmpI, AttrI. -/
import Derived.Test.YtkmmhlimihkgfaaGreatJa
import Derived.Test.YtkmmhlimihkgfaaGreatJb
import Derived.Test.YtkmmhlimihkgfaaGreatJc
import Derived.Test.YtkmmhlimihkgfaaGreatJd
import Derived.Test.YtkmmhlimihkgfaaGreatJe
import Derived.Test.YtkmmhlimihkgfaaGreatJf
import Derived.Test.YtkmmhlimihkgfaaGreatChecked
import Derived.WideMake
import Derived.Defers
import Derived.Laws.LoneSync
import Derived.Laws.Pointers
import Derived.RegionTactic
import Derived.RegionCalls
import Derived.RangeFuncNested
import Derived.RangeFuncBound
import Derived.RangeFuncCalls
import Derived.RangeFuncLeaves
import Derived.Shelf.Abstract
import Derived.WalkKit
import Derived.OwnWalkIn
import Derived.TacticsInMore
import Derived.LoopNIn
import Derived.LoopIn
import Derived.Lib.BytesEntry
import Derived.Lib.Bytealg
import Derived.Laws.Externs

/- The law on Hear: its two drawn regions, whatever the frame. -/
namespace Go.Proofs.YtkmmhlimihkgfaaGreat
open Go.RowKit
set_option linter.unusedVariables false
set_option maxRecDepth 100000

/-- What the law asks of its helpers and of Hear. -/
def TrSaid (n : Nat) (w : World) (S : Nat) (V : Value) (r : RepV n) : Prop := ∀ W, Below S w W → Calls Tryz.prog 24 #[V] W fun e w' => ∃ a b c d e' vo vu : Value, e = .returned (repVal r a b c d e' vo vu) ∧ ∃ F, OwRep n w' a b c d e' vo vu r F ∧ F.Nodup ∧ Rng F W.heap.size w'.heap.size ∧ Below W.heap.size W w'
def ToSaid (w : World) (S : Nat) (V : Value) (o : OpV) : Prop := ∀ W, Below S w W → Calls Tryz.prog 16 #[V] W fun e w' => ∃ v : Value, e = .returned v ∧ RdOp w' v o ∧ Below W.heap.size W w'
def HeSaid (f : FuncId) (n : Nat) (r : RepV n) (o : OpV) (hv : RepV n) (hb : Bool) : Prop := ∀ W (a b c d e vo vu vop : Value), RdRep n W a b c d e vo vu r → RdOp W vop o → Calls Tryz.prog f #[repVal r a b c d e vo vu, vop] W fun e' w' => ∃ y0 y1 y2 y3 y4 y5 y6 : Value, e' = .returned (.tuple #[repVal hv y0 y1 y2 y3 y4 y5 y6, .bool hb]) ∧ ∃ F, OwRep n w' y0 y1 y2 y3 y4 y5 y6 hv F ∧ F.Nodup ∧ Rng F W.heap.size w'.heap.size ∧ Below W.heap.size W w'
def Hg8 (n : Nat) (w1 : World) (S : Nat) (k0 k1 k2 k3 k4 k5 k6 k7 k8 k9 d0 d1 d2 d3 d4 d5 d6 d7 d8 d9 d10 d11 : Value) (r hv : RepV n) (o : OpV) (hb : Bool) (s0 s1 s4 s5 s8 s9 s10 s11 s12 s13 s14 s15 s16 s17 s18 s19 s20 s21 s22 s23 s24 s25 s26 s35 s36 s37 s38 s39 s40 s41 s42 s43 s44 s45 s46 s47 s48 s49 s50 s51 s52 s53 s54 s55 s56 s57 s58 s59 s60 s61 s62 s63 s64 s65 s66 s67 s68 s69 s70 s71 s72 s73 s74 s75 s76 s77 s78 s79 s80 s81 s82 s83 s84 s85 s86 s87 s88 s89 s90 s91 s92 s93 s94 s95 s96 s97 s98 s99 s100 s101 s102 s103 s104 s105 s106 s107 s108 s109 s110 s111 s112 s113 s114 s115 s116 s117 s118 : Value) (L : Array Bool) (a : Act) (w : World) : Prop :=
  ∃ b0 b1 b2 b3 b4 b5 b6 b7 b8 b9 b10 x6 x7 x27 x28 x29 x30 x31 x32 x33 x34 y0 y1 y2 y3 y4 y5 y6 F g, L = #[b0, b1, b2, b3, b4, b5, b6, b7, b8, b9, b10] ∧ a = { tmps := #[s0, s1, .pointer (some ⟨S, 0, none⟩), .pointer (some ⟨S + 1, 0, none⟩), s4, s5, x6, x7, s8, s9, s10, s11, s12, s13, s14, s15, s16, s17, s18, s19, s20, s21, s22, s23, s24, s25, s26, x27, x28, x29, x30, x31, x32, x33, x34, s35, s36, s37, s38, s39, s40, s41, s42, s43, s44, s45, s46, s47, s48, s49, s50, s51, s52, s53, s54, s55, s56, s57, s58, s59, s60, s61, s62, s63, s64, s65, s66, s67, s68, s69, s70, s71, s72, s73, s74, s75, s76, s77, s78, s79, s80, s81, s82, s83, s84, s85, s86, s87, s88, s89, s90, s91, s92, s93, s94, s95, s96, s97, s98, s99, s100, s101, s102, s103, s104, s105, s106, s107, s108, s109, s110, s111, s112, s113, s114, s115, s116, s117, s118], defers := [] } ∧ Below w1.heap.size w1 w ∧ (b0 = true → x28 = .agg #[k0, k1, k2, k3, k4, k5, k6, k7, k8, k9]) ∧ (b1 = true → b4 = false → ∃ a b c d e vo vu, x29 = repVal r a b c d e vo vu ∧ RdRep n w a b c d e vo vu r) ∧ (b2 = true → x30 = .agg #[d0, d1, d2, d3, d4, d5, d6, d7, d8, d9, d10, d11]) ∧ (b3 = true → b1 = true ∧ (b4 = false → RdOp w x31 o)) ∧ (b4 = true → b3 = true ∧ x32 = .tuple #[repVal hv y0 y1 y2 y3 y4 y5 y6, .bool hb] ∧ OwRep n w y0 y1 y2 y3 y4 y5 y6 hv F ∧ F.Nodup ∧ Rng F w1.heap.size w.heap.size) ∧ (b5 = true → b4 = true ∧ x27 = .tuple #[repVal hv y0 y1 y2 y3 y4 y5 y6, .bool hb]) ∧ (b6 = true → b5 = true ∧ x33 = repVal hv y0 y1 y2 y3 y4 y5 y6) ∧ (b7 = true → b5 = true ∧ x34 = .bool hb) ∧ (b8 = true → x6 = .pointer (some ⟨g, 0, none⟩) ∧ w1.heap.size ≤ g ∧ Loc w g (if b9 = true then #[.int .i64 hv.id, .int .i64 hv.clock, y0, y1, y2, y3, y4, y5, y6, .bool hv.lost] else #[.int .i64 0, .int .i64 0, .int .i64 0, .slice none 0 0, .slice none 0 0, .slice none 0 0, .slice none 0 0, .slice none 0 0, .slice none 0 0, .bool false]) 64 ∧ (b4 = true → g ∉ F)) ∧ (b9 = true → b6 = true ∧ b8 = true) ∧ (b10 = true → b9 = true ∧ b7 = true ∧ x7 = .bool hb)
theorem Hg8_cases {i : Nat} (h : i < 11) : i = 0 ∨ i = 1 ∨ i = 2 ∨ i = 3 ∨ i = 4 ∨ i = 5 ∨ i = 6 ∨ i = 7 ∨ i = 8 ∨ i = 9 ∨ i = 10 := by omega
def Hg31 (n : Nat) (w1 : World) (S : Nat) (k0 k1 k2 k3 k4 k5 k6 k7 k8 k9 d0 d1 d2 d3 d4 d5 d6 d7 d8 d9 d10 d11 : Value) (r hv : RepV n) (o : OpV) (hb : Bool) (s0 s1 s4 s5 s6 s7 s8 s9 s10 s11 s12 s13 s14 s17 s18 s19 s20 s21 s22 s23 s24 s25 s26 s27 s28 s29 s30 s31 s32 s33 s34 s35 s36 s37 s38 s39 s40 s41 s42 s43 s44 s45 s46 s47 s48 s49 s50 s51 s52 s53 s54 s55 s56 s57 s58 s59 s60 s61 s62 s63 s64 s65 s66 s67 s68 s69 s70 s71 s72 s73 s74 s75 s76 s77 s78 s79 s80 s81 s82 s83 s84 s85 s86 s87 s88 s89 s90 s91 s92 s93 s102 s103 s104 s105 s106 s107 s108 s109 s110 s111 s112 s113 s114 s115 s116 s117 s118 : Value) (L : Array Bool) (a : Act) (w : World) : Prop :=
  ∃ b0 b1 b2 b3 b4 b5 b6 b7 b8 b9 b10 x15 x16 x94 x95 x96 x97 x98 x99 x100 x101 y0 y1 y2 y3 y4 y5 y6 F g, L = #[b0, b1, b2, b3, b4, b5, b6, b7, b8, b9, b10] ∧ a = { tmps := #[s0, s1, .pointer (some ⟨S, 0, none⟩), .pointer (some ⟨S + 1, 0, none⟩), s4, s5, s6, s7, s8, s9, s10, s11, s12, s13, s14, x15, x16, s17, s18, s19, s20, s21, s22, s23, s24, s25, s26, s27, s28, s29, s30, s31, s32, s33, s34, s35, s36, s37, s38, s39, s40, s41, s42, s43, s44, s45, s46, s47, s48, s49, s50, s51, s52, s53, s54, s55, s56, s57, s58, s59, s60, s61, s62, s63, s64, s65, s66, s67, s68, s69, s70, s71, s72, s73, s74, s75, s76, s77, s78, s79, s80, s81, s82, s83, s84, s85, s86, s87, s88, s89, s90, s91, s92, s93, x94, x95, x96, x97, x98, x99, x100, x101, s102, s103, s104, s105, s106, s107, s108, s109, s110, s111, s112, s113, s114, s115, s116, s117, s118], defers := [] } ∧ Below w1.heap.size w1 w ∧ (b0 = true → x95 = .agg #[k0, k1, k2, k3, k4, k5, k6, k7, k8, k9]) ∧ (b1 = true → b4 = false → ∃ a b c d e vo vu, x96 = repVal r a b c d e vo vu ∧ RdRep n w a b c d e vo vu r) ∧ (b2 = true → x97 = .agg #[d0, d1, d2, d3, d4, d5, d6, d7, d8, d9, d10, d11]) ∧ (b3 = true → b1 = true ∧ (b4 = false → RdOp w x98 o)) ∧ (b4 = true → b3 = true ∧ x99 = .tuple #[repVal hv y0 y1 y2 y3 y4 y5 y6, .bool hb] ∧ OwRep n w y0 y1 y2 y3 y4 y5 y6 hv F ∧ F.Nodup ∧ Rng F w1.heap.size w.heap.size) ∧ (b5 = true → b4 = true ∧ x94 = .tuple #[repVal hv y0 y1 y2 y3 y4 y5 y6, .bool hb]) ∧ (b6 = true → b5 = true ∧ x100 = repVal hv y0 y1 y2 y3 y4 y5 y6) ∧ (b7 = true → b5 = true ∧ x101 = .bool hb) ∧ (b8 = true → x15 = .pointer (some ⟨g, 0, none⟩) ∧ w1.heap.size ≤ g ∧ Loc w g (if b9 = true then #[.int .i64 hv.id, .int .i64 hv.clock, y0, y1, y2, y3, y4, y5, y6, .bool hv.lost] else #[.int .i64 0, .int .i64 0, .int .i64 0, .slice none 0 0, .slice none 0 0, .slice none 0 0, .slice none 0 0, .slice none 0 0, .slice none 0 0, .bool false]) 64 ∧ (b4 = true → g ∉ F)) ∧ (b9 = true → b6 = true ∧ b8 = true) ∧ (b10 = true → b9 = true ∧ b7 = true ∧ x16 = .bool hb)
theorem Hg31_cases {i : Nat} (h : i < 11) : i = 0 ∨ i = 1 ∨ i = 2 ∨ i = 3 ∨ i = 4 ∨ i = 5 ∨ i = 6 ∨ i = 7 ∨ i = 8 ∨ i = 9 ∨ i = 10 := by omega
set_option maxHeartbeats 40000000 in
theorem reg8 {n : Nat} {w w1 : World} {S : Nat} {k0 k1 k2 k3 k4 k5 k6 k7 k8 k9 d0 d1 d2 d3 d4 d5 d6 d7 d8 d9 d10 d11 : Value} {r hv : RepV n} {o : OpV} {hb : Bool} {s0 s1 s4 s5 s8 s9 s10 s11 s12 s13 s14 s15 s16 s17 s18 s19 s20 s21 s22 s23 s24 s25 s26 s35 s36 s37 s38 s39 s40 s41 s42 s43 s44 s45 s46 s47 s48 s49 s50 s51 s52 s53 s54 s55 s56 s57 s58 s59 s60 s61 s62 s63 s64 s65 s66 s67 s68 s69 s70 s71 s72 s73 s74 s75 s76 s77 s78 s79 s80 s81 s82 s83 s84 s85 s86 s87 s88 s89 s90 s91 s92 s93 s94 s95 s96 s97 s98 s99 s100 s101 s102 s103 s104 s105 s106 s107 s108 s109 s110 s111 s112 s113 s114 s115 s116 s117 s118 : Value} {Q : Exit → Act → World → Prop}
    (hD : Below S w w1) (l0 : Loc w1 S #[k0, k1, k2, k3, k4, k5, k6, k7, k8, k9] 56) (l1 : Loc w1 (S + 1) #[d0, d1, d2, d3, d4, d5, d6, d7, d8, d9, d10, d11] 41) (HT : TrSaid n w S (.agg #[k0, k1, k2, k3, k4, k5, k6, k7, k8, k9]) r) (HTO : ToSaid w S (.agg #[d0, d1, d2, d3, d4, d5, d6, d7, d8, d9, d10, d11]) o) (HF : HeSaid 23 n r o hv hb)
    (K : ∀ (w' : World) (g : Nat) (y0 y1 y2 y3 y4 y5 y6 : Value) (F : List Nat) (x29 x31 : Value), Below w1.heap.size w1 w' → OwRep n w' y0 y1 y2 y3 y4 y5 y6 hv F → F.Nodup → Rng F w1.heap.size w'.heap.size → w1.heap.size ≤ g → g ∉ F → Loc w' g #[.int .i64 hv.id, .int .i64 hv.clock, y0, y1, y2, y3, y4, y5, y6, .bool hv.lost] 64 → Q .normal { tmps := #[s0, s1, .pointer (some ⟨S, 0, none⟩), .pointer (some ⟨S + 1, 0, none⟩), s4, s5, .pointer (some ⟨g, 0, none⟩), .bool hb, s8, s9, s10, s11, s12, s13, s14, s15, s16, s17, s18, s19, s20, s21, s22, s23, s24, s25, s26, .tuple #[repVal hv y0 y1 y2 y3 y4 y5 y6, .bool hb], .agg #[k0, k1, k2, k3, k4, k5, k6, k7, k8, k9], x29, .agg #[d0, d1, d2, d3, d4, d5, d6, d7, d8, d9, d10, d11], x31, .tuple #[repVal hv y0 y1 y2 y3 y4 y5 y6, .bool hb], repVal hv y0 y1 y2 y3 y4 y5 y6, .bool hb, s35, s36, s37, s38, s39, s40, s41, s42, s43, s44, s45, s46, s47, s48, s49, s50, s51, s52, s53, s54, s55, s56, s57, s58, s59, s60, s61, s62, s63, s64, s65, s66, s67, s68, s69, s70, s71, s72, s73, s74, s75, s76, s77, s78, s79, s80, s81, s82, s83, s84, s85, s86, s87, s88, s89, s90, s91, s92, s93, s94, s95, s96, s97, s98, s99, s100, s101, s102, s103, s104, s105, s106, s107, s108, s109, s110, s111, s112, s113, s114, s115, s116, s117, s118], defers := [] } w') :
    (Code.region 8 #[{ dst := some 28, op := Op.load 56 (Operand.tmp 2), type := 56, pos := "exact.go:2308", after := #[], guard := none }, { dst := some 29, op := Op.call { callee := Callee.value (Operand.func 24), args := #[Operand.tmp 28], argTypes := #[56] }, type := 64, pos := "exact.go:2308", after := #[{ on := 0, ground := Ground.data }], guard := none }, { dst := some 30, op := Op.load 41 (Operand.tmp 3), type := 41, pos := "exact.go:2308", after := #[], guard := none }, { dst := some 31, op := Op.call { callee := Callee.value (Operand.func 16), args := #[Operand.tmp 30], argTypes := #[41] }, type := 28, pos := "exact.go:2308", after := #[{ on := 2, ground := Ground.data }, { on := 1, ground := Ground.chain }], guard := none }, { dst := some 32, op := Op.call { callee := Callee.value (Operand.func 23), args := #[Operand.tmp 29, Operand.tmp 31], argTypes := #[64, 28] }, type := 65, pos := "exact.go:2308", after := #[{ on := 1, ground := Ground.data }, { on := 3, ground := Ground.data }, { on := 3, ground := Ground.chain }], guard := none }, { dst := some 27, op := Op.move (Operand.tmp 32), type := 65, pos := "exact.go:2308", after := #[{ on := 4, ground := Ground.data }], guard := none }, { dst := some 33, op := Op.extract (Operand.tmp 27) 0, type := 64, pos := "exact.go:2308", after := #[{ on := 5, ground := Ground.data }], guard := none }, { dst := some 34, op := Op.extract (Operand.tmp 27) 1, type := 4, pos := "exact.go:2308", after := #[{ on := 5, ground := Ground.data }, { on := 9, ground := Ground.gcOnly Departure.lateStores }], guard := none }, { dst := some 6, op := Op.alloc 64, type := 0, pos := "exact.go:2308", after := #[], guard := none }, { dst := none, op := Op.store 64 (Operand.tmp 6) (Operand.tmp 33), type := 0, pos := "exact.go:2308", after := #[{ on := 8, ground := Ground.data }, { on := 6, ground := Ground.data }, { on := 4, ground := Ground.chain }, { on := 0, ground := Ground.phase }, { on := 1, ground := Ground.phase }, { on := 2, ground := Ground.phase }, { on := 3, ground := Ground.phase }, { on := 4, ground := Ground.phase }, { on := 5, ground := Ground.phase }, { on := 6, ground := Ground.phase }, { on := 7, ground := Ground.textOnly Departure.lateStores }, { on := 8, ground := Ground.phase }], guard := none }, { dst := some 7, op := Op.assign (Operand.tmp 34), type := 4, pos := "exact.go:2308", after := #[{ on := 7, ground := Ground.data }, { on := 9, ground := Ground.chain }, { on := 0, ground := Ground.phase }, { on := 1, ground := Ground.phase }, { on := 2, ground := Ground.phase }, { on := 3, ground := Ground.phase }, { on := 4, ground := Ground.phase }, { on := 5, ground := Ground.phase }, { on := 6, ground := Ground.phase }, { on := 7, ground := Ground.phase }, { on := 8, ground := Ground.phase }, { on := 9, ground := Ground.phase }], guard := none }] true).wp Tryz.prog Q { tmps := #[s0, s1, .pointer (some ⟨S, 0, none⟩), .pointer (some ⟨S + 1, 0, none⟩), s4, s5, undef, undef, s8, s9, s10, s11, s12, s13, s14, s15, s16, s17, s18, s19, s20, s21, s22, s23, s24, s25, s26, undef, undef, undef, undef, undef, undef, undef, undef, s35, s36, s37, s38, s39, s40, s41, s42, s43, s44, s45, s46, s47, s48, s49, s50, s51, s52, s53, s54, s55, s56, s57, s58, s59, s60, s61, s62, s63, s64, s65, s66, s67, s68, s69, s70, s71, s72, s73, s74, s75, s76, s77, s78, s79, s80, s81, s82, s83, s84, s85, s86, s87, s88, s89, s90, s91, s92, s93, s94, s95, s96, s97, s98, s99, s100, s101, s102, s103, s104, s105, s106, s107, s108, s109, s110, s111, s112, s113, s114, s115, s116, s117, s118], defers := [] } w1 := by
  have bst : ∀ {c : World}, Below S w w1 → Below w1.heap.size w1 c → Below S w c := fun h k => h.trans (k.mono (Nat.le_of_lt l0.lt))
  refine region_inv (by kernel_rfl) (Hg8 n w1 S k0 k1 k2 k3 k4 k5 k6 k7 k8 k9 d0 d1 d2 d3 d4 d5 d6 d7 d8 d9 d10 d11 r hv o hb s0 s1 s4 s5 s8 s9 s10 s11 s12 s13 s14 s15 s16 s17 s18 s19 s20 s21 s22 s23 s24 s25 s26 s35 s36 s37 s38 s39 s40 s41 s42 s43 s44 s45 s46 s47 s48 s49 s50 s51 s52 s53 s54 s55 s56 s57 s58 s59 s60 s61 s62 s63 s64 s65 s66 s67 s68 s69 s70 s71 s72 s73 s74 s75 s76 s77 s78 s79 s80 s81 s82 s83 s84 s85 s86 s87 s88 s89 s90 s91 s92 s93 s94 s95 s96 s97 s98 s99 s100 s101 s102 s103 s104 s105 s106 s107 s108 s109 s110 s111 s112 s113 s114 s115 s116 s117 s118) ?sz ?h0 ?step ?dn
  case h0 =>
      refine ⟨false, false, false, false, false, false, false, false, false, false, false, undef, undef, undef, undef, undef, undef, undef, undef, undef, undef, undef, undef, undef, undef, undef, undef, undef, [], 0, rfl, rfl, (Below.refl _ _).drew, ?_⟩
      simp
  case sz =>
      rintro L a w ⟨b0, b1, b2, b3, b4, b5, b6, b7, b8, b9, b10, x6, x7, x27, x28, x29, x30, x31, x32, x33, x34, y0, y1, y2, y3, y4, y5, y6, F, g, rfl, _⟩
      rfl
  case step =>
      intro L a w i o' hI hi ho
      obtain ⟨b0, b1, b2, b3, b4, b5, b6, b7, b8, b9, b10, x6, x7, x27, x28, x29, x30, x31, x32, x33, x34, y0, y1, y2, y3, y4, y5, y6, F, g, rfl, rfl, h0, f0, f1, f2, f3, f4, f5, f6, f7, f8, f9, f10⟩ := hI
      rcases Hg8_cases (ready_lt hi) with rfl | rfl | rfl | rfl | rfl | rfl | rfl | rfl | rfl | rfl | rfl
      · obtain rfl := Option.some.inj ho
        have c0 : w.cell? ⟨S, 0, none⟩ = some k0 := (l0.all h0).cell 0
        have c1 : w.cell? ⟨S, 1, none⟩ = some k1 := (l0.all h0).cell 1
        have c2 : w.cell? ⟨S, 2, none⟩ = some k2 := (l0.all h0).cell 2
        have c3 : w.cell? ⟨S, 3, none⟩ = some k3 := (l0.all h0).cell 3
        have c4 : w.cell? ⟨S, 4, none⟩ = some k4 := (l0.all h0).cell 4
        have c5 : w.cell? ⟨S, 5, none⟩ = some k5 := (l0.all h0).cell 5
        have c6 : w.cell? ⟨S, 6, none⟩ = some k6 := (l0.all h0).cell 6
        have c7 : w.cell? ⟨S, 7, none⟩ = some k7 := (l0.all h0).cell 7
        have c8 : w.cell? ⟨S, 8, none⟩ = some k8 := (l0.all h0).cell 8
        have c9 : w.cell? ⟨S, 9, none⟩ = some k9 := (l0.all h0).cell 9
        go_simp
        exact ⟨true, b1, b2, b3, b4, b5, b6, b7, b8, b9, b10, x6, x7, x27, _, x29, x30, x31, x32, x33, x34, y0, y1, y2, y3, y4, y5, y6, F, g, rfl, rfl, h0, (fun _ => rfl), f1, f2, f3, f4, f5, f6, f7, f8, f9, f10⟩
      · have g0 := ready_pred hi ho 0
        have hb1 : b1 = false := by simpa using ready_off rfl hi
        obtain rfl := Option.some.inj ho
        have e0 := f0 (g0 (by kernel_rfl))
        have hb3 : b3 = false := by
          cases b3 with
          | false => rfl
          | true => have := (f3 rfl).1; rw [hb1] at this; cases this
        have hb4 : b4 = false := by
          cases b4 with
          | false => rfl
          | true => have := (f4 rfl).1; rw [hb3] at this; cases this
        have hb5 : b5 = false := by
          cases b5 with
          | false => rfl
          | true => have := (f5 rfl).1; rw [hb4] at this; cases this
        have hb6 : b6 = false := by
          cases b6 with
          | false => rfl
          | true => have := (f6 rfl).1; rw [hb5] at this; cases this
        have hb7 : b7 = false := by
          cases b7 with
          | false => rfl
          | true => have := (f7 rfl).1; rw [hb5] at this; cases this
        have hb9 : b9 = false := by
          cases b9 with
          | false => rfl
          | true => have := (f9 rfl).1; rw [hb6] at this; cases this
        have hb10 : b10 = false := by
          cases b10 with
          | false => rfl
          | true => have := (f10 rfl).1; rw [hb9] at this; cases this
        subst e0 hb3 hb4 hb5 hb6 hb7 hb9 hb10
        go_simp
        refine (HT w (bst hD h0)).mono ?_
        rintro e w' ⟨a1, a2, a3, a4, a5, a6, a7, rfl, F', ho', _, _, hb'⟩
        exact ⟨b0, true, b2, false, false, false, false, false, b8, false, false, x6, x7, x27, _, _, x30, x31, x32, x33, x34, y0, y1, y2, y3, y4, y5, y6, F, g, rfl, rfl, bstep h0 hb', f0, (fun _ _ => ⟨_, _, _, _, _, _, _, rfl, ho'.rd⟩), f2, (fun h => by cases h), (fun h => by cases h), (fun h => by cases h), (fun h => by cases h), (fun h => by cases h), (fun h => ⟨(f8 h).1, (f8 h).2.1, (f8 h).2.2.1.all hb', (f8 h).2.2.2⟩), (fun h => by cases h), (fun h => by cases h)⟩
      · obtain rfl := Option.some.inj ho
        have c0 : w.cell? ⟨S + 1, 0, none⟩ = some d0 := (l1.all h0).cell 0
        have c1 : w.cell? ⟨S + 1, 1, none⟩ = some d1 := (l1.all h0).cell 1
        have c2 : w.cell? ⟨S + 1, 2, none⟩ = some d2 := (l1.all h0).cell 2
        have c3 : w.cell? ⟨S + 1, 3, none⟩ = some d3 := (l1.all h0).cell 3
        have c4 : w.cell? ⟨S + 1, 4, none⟩ = some d4 := (l1.all h0).cell 4
        have c5 : w.cell? ⟨S + 1, 5, none⟩ = some d5 := (l1.all h0).cell 5
        have c6 : w.cell? ⟨S + 1, 6, none⟩ = some d6 := (l1.all h0).cell 6
        have c7 : w.cell? ⟨S + 1, 7, none⟩ = some d7 := (l1.all h0).cell 7
        have c8 : w.cell? ⟨S + 1, 8, none⟩ = some d8 := (l1.all h0).cell 8
        have c9 : w.cell? ⟨S + 1, 9, none⟩ = some d9 := (l1.all h0).cell 9
        have c10 : w.cell? ⟨S + 1, 10, none⟩ = some d10 := (l1.all h0).cell 10
        have c11 : w.cell? ⟨S + 1, 11, none⟩ = some d11 := (l1.all h0).cell 11
        go_simp
        exact ⟨b0, b1, true, b3, b4, b5, b6, b7, b8, b9, b10, x6, x7, x27, x28, x29, _, x31, x32, x33, x34, y0, y1, y2, y3, y4, y5, y6, F, g, rfl, rfl, h0, f0, f1, (fun _ => rfl), f3, f4, f5, f6, f7, f8, f9, f10⟩
      · have g2 := ready_pred hi ho 2
        have g1 := ready_pred hi ho 1
        have hb3 : b3 = false := by simpa using ready_off rfl hi
        obtain rfl := Option.some.inj ho
        have e2 := f2 (g2 (by kernel_rfl))
        have e1 : b1 = true := g1 (by kernel_rfl)
        have hb4 : b4 = false := by
          cases b4 with
          | false => rfl
          | true => have := (f4 rfl).1; rw [hb3] at this; cases this
        have hb5 : b5 = false := by
          cases b5 with
          | false => rfl
          | true => have := (f5 rfl).1; rw [hb4] at this; cases this
        have hb6 : b6 = false := by
          cases b6 with
          | false => rfl
          | true => have := (f6 rfl).1; rw [hb5] at this; cases this
        have hb7 : b7 = false := by
          cases b7 with
          | false => rfl
          | true => have := (f7 rfl).1; rw [hb5] at this; cases this
        have hb9 : b9 = false := by
          cases b9 with
          | false => rfl
          | true => have := (f9 rfl).1; rw [hb6] at this; cases this
        have hb10 : b10 = false := by
          cases b10 with
          | false => rfl
          | true => have := (f10 rfl).1; rw [hb9] at this; cases this
        subst e2 e1 hb4 hb5 hb6 hb7 hb9 hb10
        go_simp
        refine (HTO w (bst hD h0)).mono ?_
        rintro e w' ⟨v, rfl, ho', hb'⟩
        exact ⟨b0, true, b2, true, false, false, false, false, b8, false, false, x6, x7, x27, x28, x29, _, _, x32, x33, x34, y0, y1, y2, y3, y4, y5, y6, F, g, rfl, rfl, bstep h0 hb', f0, (fun h h4 => by obtain ⟨a, b, c, d, e, vo, vu, q1, q2⟩ := f1 h h4; exact ⟨a, b, c, d, e, vo, vu, q1, q2.keep hb'⟩), f2, (fun _ => ⟨rfl, fun _ => ho'⟩), (fun h => by cases h), (fun h => by cases h), (fun h => by cases h), (fun h => by cases h), (fun h => ⟨(f8 h).1, (f8 h).2.1, (f8 h).2.2.1.all hb', (f8 h).2.2.2⟩), (fun h => by cases h), (fun h => by cases h)⟩
      · have g3 := ready_pred hi ho 3
        have hb4 : b4 = false := by simpa using ready_off rfl hi
        obtain rfl := Option.some.inj ho
        have e3 : b3 = true := g3 (by kernel_rfl)
        have e1 := (f3 e3).1
        have hb5 : b5 = false := by
          cases b5 with
          | false => rfl
          | true => have := (f5 rfl).1; rw [hb4] at this; cases this
        have hb6 : b6 = false := by
          cases b6 with
          | false => rfl
          | true => have := (f6 rfl).1; rw [hb5] at this; cases this
        have hb7 : b7 = false := by
          cases b7 with
          | false => rfl
          | true => have := (f7 rfl).1; rw [hb5] at this; cases this
        have hb9 : b9 = false := by
          cases b9 with
          | false => rfl
          | true => have := (f9 rfl).1; rw [hb6] at this; cases this
        have hb10 : b10 = false := by
          cases b10 with
          | false => rfl
          | true => have := (f10 rfl).1; rw [hb9] at this; cases this
        subst e3 e1 hb4 hb5 hb6 hb7 hb9 hb10
        obtain ⟨qa', qb', qc', qd', qe', qo', qu', k1, k2⟩ := f1 rfl rfl
        have k3 := (f3 rfl).2 rfl
        subst k1
        go_simp
        refine (HF w _ _ _ _ _ _ _ _ k2 k3).mono ?_
        rintro e w' ⟨h1, h2, h3, h4, h5, h6, h7, rfl, G, ho', nd', rg', hb'⟩
        exact ⟨b0, true, b2, true, true, false, false, false, b8, false, false, x6, x7, x27, x28, _, x30, x31, _, x33, x34, h1, h2, h3, h4, h5, h6, h7, G, g, rfl, rfl, bstep h0 hb', f0, (fun _ h => by cases h), f2, (fun _ => ⟨rfl, fun h => by cases h⟩), (fun _ => ⟨rfl, rfl, ho', nd', rg'.mono h0.size (Nat.le_refl _)⟩), (fun h => by cases h), (fun h => by cases h), (fun h => by cases h), (fun h => ⟨(f8 h).1, (f8 h).2.1, (f8 h).2.2.1.all hb', fun _ hq => by have := (rg' _ hq).1; have := (f8 h).2.2.1.lt; omega⟩), (fun h => by cases h), (fun h => by cases h)⟩
      · have gs := ready_pred hi ho 4
        obtain rfl := Option.some.inj ho
        have e4 : b4 = true := gs (by kernel_rfl)
        have e3 := (f4 e4).1
        have e1 := (f3 e3).1
        have v4 := (f4 e4).2.1
        subst v4 e4 e3 e1
        obtain ⟨_, _, o1, nd1, rg1⟩ := f4 rfl
        go_simp
        exact ⟨b0, true, b2, true, true, true, b6, b7, b8, b9, b10, x6, x7, _, x28, x29, x30, x31, _, x33, x34, y0, y1, y2, y3, y4, y5, y6, F, g, rfl, rfl, h0, f0, (fun _ h => by cases h), f2, (fun _ => ⟨rfl, fun h => by cases h⟩), (fun _ => ⟨rfl, rfl, o1, nd1, rg1⟩), (fun _ => ⟨rfl, rfl⟩), (fun h => ⟨rfl, (f6 h).2⟩), (fun h => ⟨rfl, (f7 h).2⟩), f8, f9, f10⟩
      · have gs := ready_pred hi ho 5
        obtain rfl := Option.some.inj ho
        have e5 : b5 = true := gs (by kernel_rfl)
        have e4 := (f5 e5).1
        have e3 := (f4 e4).1
        have e1 := (f3 e3).1
        have v4 := (f4 e4).2.1
        have v5 := (f5 e5).2
        subst v5 v4 e4 e3 e1 e5
        obtain ⟨_, _, o1, nd1, rg1⟩ := f4 rfl
        go_simp
        exact ⟨b0, true, b2, true, true, true, true, b7, b8, b9, b10, x6, x7, _, x28, x29, x30, x31, _, _, x34, y0, y1, y2, y3, y4, y5, y6, F, g, rfl, rfl, h0, f0, (fun _ h => by cases h), f2, (fun _ => ⟨rfl, fun h => by cases h⟩), (fun _ => ⟨rfl, rfl, o1, nd1, rg1⟩), (fun _ => ⟨rfl, rfl⟩), (fun _ => ⟨rfl, rfl⟩), f7, f8, (fun h => ⟨rfl, (f9 h).2⟩), f10⟩
      · have gs := ready_pred hi ho 5
        obtain rfl := Option.some.inj ho
        have e5 : b5 = true := gs (by kernel_rfl)
        have e4 := (f5 e5).1
        have e3 := (f4 e4).1
        have e1 := (f3 e3).1
        have v4 := (f4 e4).2.1
        have v5 := (f5 e5).2
        subst v5 v4 e4 e3 e1 e5
        obtain ⟨_, _, o1, nd1, rg1⟩ := f4 rfl
        go_simp
        exact ⟨b0, true, b2, true, true, true, b6, true, b8, b9, b10, x6, x7, _, x28, x29, x30, x31, _, x33, _, y0, y1, y2, y3, y4, y5, y6, F, g, rfl, rfl, h0, f0, (fun _ h => by cases h), f2, (fun _ => ⟨rfl, fun h => by cases h⟩), (fun _ => ⟨rfl, rfl, o1, nd1, rg1⟩), (fun _ => ⟨rfl, rfl⟩), f6, (fun _ => ⟨rfl, rfl⟩), f8, f9, (fun h => ⟨(f10 h).1, rfl, (f10 h).2.2⟩)⟩
      · have hb8 : b8 = false := by simpa using ready_off rfl hi
        obtain rfl := Option.some.inj ho
        have hb9 : b9 = false := by
          cases b9 with
          | false => rfl
          | true => have := (f9 rfl).2; rw [hb8] at this; cases this
        have hb10 : b10 = false := by
          cases b10 with
          | false => rfl
          | true => have := (f10 rfl).1; rw [hb9] at this; cases this
        subst hb9 hb10
        have hb' : Below w.heap.size w (w.alloc (.cells #[.int .i64 0, .int .i64 0, .int .i64 0, .slice none 0 0, .slice none 0 0, .slice none 0 0, .slice none 0 0, .slice none 0 0, .slice none 0 0, .bool false] 64)) := (Below.refl _ _).alloc (Nat.le_refl _) _
        have lg := Loc.made w #[.int .i64 0, .int .i64 0, .int .i64 0, .slice none 0 0, .slice none 0 0, .slice none 0 0, .slice none 0 0, .slice none 0 0, .slice none 0 0, .bool false] 64
        go_simp
        exact ⟨b0, b1, b2, b3, b4, b5, b6, b7, true, false, false, _, x7, x27, x28, x29, x30, x31, x32, x33, x34, y0, y1, y2, y3, y4, y5, y6, F, w.heap.size, rfl, rfl, bstep h0 hb', f0, (fun h h4 => by obtain ⟨a, b, c, d, e, vo, vu, q1, q2⟩ := f1 h h4; exact ⟨a, b, c, d, e, vo, vu, q1, q2.keep hb'⟩), f2, (fun h => ⟨(f3 h).1, fun h4 => ((f3 h).2 h4).keep hb'⟩), (fun h => ⟨(f4 h).1, (f4 h).2.1, (f4 h).2.2.1.keep hb', (f4 h).2.2.2.1, (f4 h).2.2.2.2.mono (Nat.le_refl _) hb'.size⟩), f5, f6, f7, (fun _ => ⟨rfl, h0.size, lg, fun h hq => by have := ((f4 h).2.2.2.2 _ hq).2; omega⟩), (fun h => by cases h), (fun h => by cases h)⟩
      · have g8 := ready_pred hi ho 8
        have g6 := ready_pred hi ho 6
        have hb9 : b9 = false := by simpa using ready_off rfl hi
        obtain rfl := Option.some.inj ho
        have e8 : b8 = true := g8 (by kernel_rfl)
        have e6 : b6 = true := g6 (by kernel_rfl)
        have hb10 : b10 = false := by
          cases b10 with
          | false => rfl
          | true => have := (f10 rfl).1; rw [hb9] at this; cases this
        have e5 := (f6 e6).1
        have e4 := (f5 e5).1
        have e3 := (f4 e4).1
        have e1 := (f3 e3).1
        have v6 := (f6 e6).2
        have v5 := (f5 e5).2
        have v4 := (f4 e4).2.1
        have v8 := (f8 e8).1
        subst v6 v5 v4 v8 e8 e6 e5 e4 e3 e1 hb9 hb10
        obtain ⟨_, _, o1, nd1, rg1⟩ := f4 rfl
        obtain ⟨_, hge, lz, hng⟩ := f8 rfl
        replace lz : Loc w g #[.int .i64 0, .int .i64 0, .int .i64 0, .slice none 0 0, .slice none 0 0, .slice none 0 0, .slice none 0 0, .slice none 0 0, .slice none 0 0, .bool false] 64 := lz
        obtain ⟨zk, pk, npk, cpk, qk, nqk, cqk, rk, nrk, crk, uk, nuk, cuk, ok, nok, cok, ik, nik, cik, hy0, hy1, hy2, hy3, hy4, hy5, hy6⟩ := rd5v o1.rd
        subst hy0 hy1 hy2 hy3 hy4 hy5 hy6
        obtain ⟨c0, c1, c2, c3, c4, c5, c6, c7, c8, c9⟩ := lz.ten
        have u0 := lz.frozen 0
        have u1 := lz.frozen 1
        have u2 := lz.frozen 2
        have u3 := lz.frozen 3
        have u4 := lz.frozen 4
        have u5 := lz.frozen 5
        have u6 := lz.frozen 6
        have u7 := lz.frozen 7
        have u8 := lz.frozen 8
        have u9 := lz.frozen 9
        obtain ⟨s1, s2⟩ := store10r lz (.int .i64 hv.id) (.int .i64 hv.clock) (.int .i64 zk) (.slice pk npk cpk) (.slice qk nqk cqk) (.slice rk nrk crk) (.slice uk nuk cuk) (.slice ok nok cok) (.slice ik nik cik) (.bool hv.lost)
        have s3 := h0.trans (s2.below h0.size (fun q hq => by simp at hq; omega))
        have s4 := OwRep.frm o1 s2 (fun q hq hq' => by simp at hq'; rw [hq'] at hq; exact hng rfl hq)
        unfold repVal at *
        go_simp
        exact ⟨b0, true, b2, true, true, true, true, b7, true, true, false, _, x7, _, x28, x29, x30, x31, _, _, x34, (.int .i64 zk), (.slice pk npk cpk), (.slice qk nqk cqk), (.slice rk nrk crk), (.slice uk nuk cuk), (.slice ok nok cok), (.slice ik nik cik), F, g, rfl, rfl, s3, f0, (fun _ h => by cases h), f2, (fun _ => ⟨rfl, fun h => by cases h⟩), (fun _ => ⟨rfl, rfl, s4, nd1, rg1.mono (Nat.le_refl _) s2.size⟩), (fun _ => ⟨rfl, rfl⟩), (fun _ => ⟨rfl, rfl⟩), f7, (fun _ => ⟨rfl, hge, s1, hng⟩), (fun _ => ⟨rfl, rfl⟩), (fun h => by cases h)⟩
      · have g9 := ready_pred hi ho 9
        have g7 := ready_pred hi ho 7
        obtain rfl := Option.some.inj ho
        have e9 : b9 = true := g9 (by kernel_rfl)
        have e7 : b7 = true := g7 (by kernel_rfl)
        have e6 := (f9 e9).1
        have e8 := (f9 e9).2
        have e5 := (f6 e6).1
        have e4 := (f5 e5).1
        have e3 := (f4 e4).1
        have e1 := (f3 e3).1
        have v7 := (f7 e7).2
        have v6 := (f6 e6).2
        have v5 := (f5 e5).2
        have v4 := (f4 e4).2.1
        have v8 := (f8 e8).1
        subst v7 v6 v5 v4 v8 e9 e7 e8 e6 e5 e4 e3 e1
        obtain ⟨_, _, o1, nd1, rg1⟩ := f4 rfl
        obtain ⟨_, hge, lz, hng⟩ := f8 rfl
        go_simp
        exact ⟨b0, true, b2, true, true, true, true, true, true, true, true, _, _, _, x28, x29, x30, x31, _, _, _, y0, y1, y2, y3, y4, y5, y6, F, g, rfl, rfl, h0, f0, (fun _ h => by cases h), f2, (fun _ => ⟨rfl, fun h => by cases h⟩), (fun _ => ⟨rfl, rfl, o1, nd1, rg1⟩), (fun _ => ⟨rfl, rfl⟩), (fun _ => ⟨rfl, rfl⟩), (fun _ => ⟨rfl, rfl⟩), (fun _ => ⟨rfl, hge, lz, hng⟩), (fun _ => ⟨rfl, rfl⟩), (fun _ => ⟨rfl, rfl, rfl⟩)⟩
  case dn =>
    intro L a w3 hI hre
    have hall := ready_all (L := L) (by obtain ⟨b0, b1, b2, b3, b4, b5, b6, b7, b8, b9, b10, x6, x7, x27, x28, x29, x30, x31, x32, x33, x34, y0, y1, y2, y3, y4, y5, y6, F, g, rfl, _⟩ := hI; rfl) (by kernel_rfl) hre 11
    obtain ⟨b0, b1, b2, b3, b4, b5, b6, b7, b8, b9, b10, x6, x7, x27, x28, x29, x30, x31, x32, x33, x34, y0, y1, y2, y3, y4, y5, y6, F, g, rfl, rfl, h0, f0, f1, f2, f3, f4, f5, f6, f7, f8, f9, f10⟩ := hI
    have s10 : b10 = true := hall 10 (by omega) (by decide)
    obtain ⟨e9, e7, w7'⟩ := f10 s10
    have e6 := (f9 e9).1
    have e8 := (f9 e9).2
    have e5 := (f6 e6).1
    have e4 := (f5 e5).1
    have e3 := (f4 e4).1
    have e1 := (f3 e3).1
    have e0 : b0 = true := hall 0 (by omega) (by decide)
    have e2 : b2 = true := hall 2 (by omega) (by decide)
    subst s10 e9 e7 e8 e6 e5 e4 e3 e1 e0 e2
    have v0 := f0 rfl
    have v2 := f2 rfl
    have v7 := (f7 rfl).2
    have v6 := (f6 rfl).2
    have v5 := (f5 rfl).2
    obtain ⟨_, v4, oV, ndV, rgV⟩ := f4 rfl
    obtain ⟨v8, hge, lg, hng⟩ := f8 rfl
    subst v0 v2 v7 v6 v5 v4 v8 w7'
    exact K w3 g y0 y1 y2 y3 y4 y5 y6 F _ _ h0 oV ndV rgV hge (hng rfl) lg
set_option maxHeartbeats 40000000 in
theorem reg31 {n : Nat} {w w1 : World} {S : Nat} {k0 k1 k2 k3 k4 k5 k6 k7 k8 k9 d0 d1 d2 d3 d4 d5 d6 d7 d8 d9 d10 d11 : Value} {r hv : RepV n} {o : OpV} {hb : Bool} {s0 s1 s4 s5 s6 s7 s8 s9 s10 s11 s12 s13 s14 s17 s18 s19 s20 s21 s22 s23 s24 s25 s26 s27 s28 s29 s30 s31 s32 s33 s34 s35 s36 s37 s38 s39 s40 s41 s42 s43 s44 s45 s46 s47 s48 s49 s50 s51 s52 s53 s54 s55 s56 s57 s58 s59 s60 s61 s62 s63 s64 s65 s66 s67 s68 s69 s70 s71 s72 s73 s74 s75 s76 s77 s78 s79 s80 s81 s82 s83 s84 s85 s86 s87 s88 s89 s90 s91 s92 s93 s102 s103 s104 s105 s106 s107 s108 s109 s110 s111 s112 s113 s114 s115 s116 s117 s118 : Value} {Q : Exit → Act → World → Prop}
    (hD : Below S w w1) (l0 : Loc w1 S #[k0, k1, k2, k3, k4, k5, k6, k7, k8, k9] 56) (l1 : Loc w1 (S + 1) #[d0, d1, d2, d3, d4, d5, d6, d7, d8, d9, d10, d11] 41) (HT : TrSaid n w S (.agg #[k0, k1, k2, k3, k4, k5, k6, k7, k8, k9]) r) (HTO : ToSaid w S (.agg #[d0, d1, d2, d3, d4, d5, d6, d7, d8, d9, d10, d11]) o) (HF : HeSaid 25 n r o hv hb)
    (K : ∀ (w' : World) (g : Nat) (y0 y1 y2 y3 y4 y5 y6 : Value) (F : List Nat) (x96 x98 : Value), Below w1.heap.size w1 w' → OwRep n w' y0 y1 y2 y3 y4 y5 y6 hv F → F.Nodup → Rng F w1.heap.size w'.heap.size → w1.heap.size ≤ g → g ∉ F → Loc w' g #[.int .i64 hv.id, .int .i64 hv.clock, y0, y1, y2, y3, y4, y5, y6, .bool hv.lost] 64 → Q .normal { tmps := #[s0, s1, .pointer (some ⟨S, 0, none⟩), .pointer (some ⟨S + 1, 0, none⟩), s4, s5, s6, s7, s8, s9, s10, s11, s12, s13, s14, .pointer (some ⟨g, 0, none⟩), .bool hb, s17, s18, s19, s20, s21, s22, s23, s24, s25, s26, s27, s28, s29, s30, s31, s32, s33, s34, s35, s36, s37, s38, s39, s40, s41, s42, s43, s44, s45, s46, s47, s48, s49, s50, s51, s52, s53, s54, s55, s56, s57, s58, s59, s60, s61, s62, s63, s64, s65, s66, s67, s68, s69, s70, s71, s72, s73, s74, s75, s76, s77, s78, s79, s80, s81, s82, s83, s84, s85, s86, s87, s88, s89, s90, s91, s92, s93, .tuple #[repVal hv y0 y1 y2 y3 y4 y5 y6, .bool hb], .agg #[k0, k1, k2, k3, k4, k5, k6, k7, k8, k9], x96, .agg #[d0, d1, d2, d3, d4, d5, d6, d7, d8, d9, d10, d11], x98, .tuple #[repVal hv y0 y1 y2 y3 y4 y5 y6, .bool hb], repVal hv y0 y1 y2 y3 y4 y5 y6, .bool hb, s102, s103, s104, s105, s106, s107, s108, s109, s110, s111, s112, s113, s114, s115, s116, s117, s118], defers := [] } w') :
    (Code.region 31 #[{ dst := some 95, op := Op.load 56 (Operand.tmp 2), type := 56, pos := "exact.go:2337", after := #[], guard := none }, { dst := some 96, op := Op.call { callee := Callee.value (Operand.func 24), args := #[Operand.tmp 95], argTypes := #[56] }, type := 64, pos := "exact.go:2337", after := #[{ on := 0, ground := Ground.data }], guard := none }, { dst := some 97, op := Op.load 41 (Operand.tmp 3), type := 41, pos := "exact.go:2337", after := #[], guard := none }, { dst := some 98, op := Op.call { callee := Callee.value (Operand.func 16), args := #[Operand.tmp 97], argTypes := #[41] }, type := 28, pos := "exact.go:2337", after := #[{ on := 2, ground := Ground.data }, { on := 1, ground := Ground.chain }], guard := none }, { dst := some 99, op := Op.call { callee := Callee.value (Operand.func 25), args := #[Operand.tmp 96, Operand.tmp 98], argTypes := #[64, 28] }, type := 65, pos := "exact.go:2337", after := #[{ on := 1, ground := Ground.data }, { on := 3, ground := Ground.data }, { on := 3, ground := Ground.chain }], guard := none }, { dst := some 94, op := Op.move (Operand.tmp 99), type := 65, pos := "exact.go:2337", after := #[{ on := 4, ground := Ground.data }], guard := none }, { dst := some 100, op := Op.extract (Operand.tmp 94) 0, type := 64, pos := "exact.go:2337", after := #[{ on := 5, ground := Ground.data }], guard := none }, { dst := some 101, op := Op.extract (Operand.tmp 94) 1, type := 4, pos := "exact.go:2337", after := #[{ on := 5, ground := Ground.data }, { on := 9, ground := Ground.gcOnly Departure.lateStores }], guard := none }, { dst := some 15, op := Op.alloc 64, type := 0, pos := "exact.go:2337", after := #[], guard := none }, { dst := none, op := Op.store 64 (Operand.tmp 15) (Operand.tmp 100), type := 0, pos := "exact.go:2337", after := #[{ on := 8, ground := Ground.data }, { on := 6, ground := Ground.data }, { on := 4, ground := Ground.chain }, { on := 0, ground := Ground.phase }, { on := 1, ground := Ground.phase }, { on := 2, ground := Ground.phase }, { on := 3, ground := Ground.phase }, { on := 4, ground := Ground.phase }, { on := 5, ground := Ground.phase }, { on := 6, ground := Ground.phase }, { on := 7, ground := Ground.textOnly Departure.lateStores }, { on := 8, ground := Ground.phase }], guard := none }, { dst := some 16, op := Op.assign (Operand.tmp 101), type := 4, pos := "exact.go:2337", after := #[{ on := 7, ground := Ground.data }, { on := 9, ground := Ground.chain }, { on := 0, ground := Ground.phase }, { on := 1, ground := Ground.phase }, { on := 2, ground := Ground.phase }, { on := 3, ground := Ground.phase }, { on := 4, ground := Ground.phase }, { on := 5, ground := Ground.phase }, { on := 6, ground := Ground.phase }, { on := 7, ground := Ground.phase }, { on := 8, ground := Ground.phase }, { on := 9, ground := Ground.phase }], guard := none }] true).wp Tryz.prog Q { tmps := #[s0, s1, .pointer (some ⟨S, 0, none⟩), .pointer (some ⟨S + 1, 0, none⟩), s4, s5, s6, s7, s8, s9, s10, s11, s12, s13, s14, undef, undef, s17, s18, s19, s20, s21, s22, s23, s24, s25, s26, s27, s28, s29, s30, s31, s32, s33, s34, s35, s36, s37, s38, s39, s40, s41, s42, s43, s44, s45, s46, s47, s48, s49, s50, s51, s52, s53, s54, s55, s56, s57, s58, s59, s60, s61, s62, s63, s64, s65, s66, s67, s68, s69, s70, s71, s72, s73, s74, s75, s76, s77, s78, s79, s80, s81, s82, s83, s84, s85, s86, s87, s88, s89, s90, s91, s92, s93, undef, undef, undef, undef, undef, undef, undef, undef, s102, s103, s104, s105, s106, s107, s108, s109, s110, s111, s112, s113, s114, s115, s116, s117, s118], defers := [] } w1 := by
  have bst : ∀ {c : World}, Below S w w1 → Below w1.heap.size w1 c → Below S w c := fun h k => h.trans (k.mono (Nat.le_of_lt l0.lt))
  refine region_inv (by kernel_rfl) (Hg31 n w1 S k0 k1 k2 k3 k4 k5 k6 k7 k8 k9 d0 d1 d2 d3 d4 d5 d6 d7 d8 d9 d10 d11 r hv o hb s0 s1 s4 s5 s6 s7 s8 s9 s10 s11 s12 s13 s14 s17 s18 s19 s20 s21 s22 s23 s24 s25 s26 s27 s28 s29 s30 s31 s32 s33 s34 s35 s36 s37 s38 s39 s40 s41 s42 s43 s44 s45 s46 s47 s48 s49 s50 s51 s52 s53 s54 s55 s56 s57 s58 s59 s60 s61 s62 s63 s64 s65 s66 s67 s68 s69 s70 s71 s72 s73 s74 s75 s76 s77 s78 s79 s80 s81 s82 s83 s84 s85 s86 s87 s88 s89 s90 s91 s92 s93 s102 s103 s104 s105 s106 s107 s108 s109 s110 s111 s112 s113 s114 s115 s116 s117 s118) ?sz ?h0 ?step ?dn
  case h0 =>
      refine ⟨false, false, false, false, false, false, false, false, false, false, false, undef, undef, undef, undef, undef, undef, undef, undef, undef, undef, undef, undef, undef, undef, undef, undef, undef, [], 0, rfl, rfl, (Below.refl _ _).drew, ?_⟩
      simp
  case sz =>
      rintro L a w ⟨b0, b1, b2, b3, b4, b5, b6, b7, b8, b9, b10, x15, x16, x94, x95, x96, x97, x98, x99, x100, x101, y0, y1, y2, y3, y4, y5, y6, F, g, rfl, _⟩
      rfl
  case step =>
      intro L a w i o' hI hi ho
      obtain ⟨b0, b1, b2, b3, b4, b5, b6, b7, b8, b9, b10, x15, x16, x94, x95, x96, x97, x98, x99, x100, x101, y0, y1, y2, y3, y4, y5, y6, F, g, rfl, rfl, h0, f0, f1, f2, f3, f4, f5, f6, f7, f8, f9, f10⟩ := hI
      rcases Hg31_cases (ready_lt hi) with rfl | rfl | rfl | rfl | rfl | rfl | rfl | rfl | rfl | rfl | rfl
      · obtain rfl := Option.some.inj ho
        have c0 : w.cell? ⟨S, 0, none⟩ = some k0 := (l0.all h0).cell 0
        have c1 : w.cell? ⟨S, 1, none⟩ = some k1 := (l0.all h0).cell 1
        have c2 : w.cell? ⟨S, 2, none⟩ = some k2 := (l0.all h0).cell 2
        have c3 : w.cell? ⟨S, 3, none⟩ = some k3 := (l0.all h0).cell 3
        have c4 : w.cell? ⟨S, 4, none⟩ = some k4 := (l0.all h0).cell 4
        have c5 : w.cell? ⟨S, 5, none⟩ = some k5 := (l0.all h0).cell 5
        have c6 : w.cell? ⟨S, 6, none⟩ = some k6 := (l0.all h0).cell 6
        have c7 : w.cell? ⟨S, 7, none⟩ = some k7 := (l0.all h0).cell 7
        have c8 : w.cell? ⟨S, 8, none⟩ = some k8 := (l0.all h0).cell 8
        have c9 : w.cell? ⟨S, 9, none⟩ = some k9 := (l0.all h0).cell 9
        go_simp
        exact ⟨true, b1, b2, b3, b4, b5, b6, b7, b8, b9, b10, x15, x16, x94, _, x96, x97, x98, x99, x100, x101, y0, y1, y2, y3, y4, y5, y6, F, g, rfl, rfl, h0, (fun _ => rfl), f1, f2, f3, f4, f5, f6, f7, f8, f9, f10⟩
      · have g0 := ready_pred hi ho 0
        have hb1 : b1 = false := by simpa using ready_off rfl hi
        obtain rfl := Option.some.inj ho
        have e0 := f0 (g0 (by kernel_rfl))
        have hb3 : b3 = false := by
          cases b3 with
          | false => rfl
          | true => have := (f3 rfl).1; rw [hb1] at this; cases this
        have hb4 : b4 = false := by
          cases b4 with
          | false => rfl
          | true => have := (f4 rfl).1; rw [hb3] at this; cases this
        have hb5 : b5 = false := by
          cases b5 with
          | false => rfl
          | true => have := (f5 rfl).1; rw [hb4] at this; cases this
        have hb6 : b6 = false := by
          cases b6 with
          | false => rfl
          | true => have := (f6 rfl).1; rw [hb5] at this; cases this
        have hb7 : b7 = false := by
          cases b7 with
          | false => rfl
          | true => have := (f7 rfl).1; rw [hb5] at this; cases this
        have hb9 : b9 = false := by
          cases b9 with
          | false => rfl
          | true => have := (f9 rfl).1; rw [hb6] at this; cases this
        have hb10 : b10 = false := by
          cases b10 with
          | false => rfl
          | true => have := (f10 rfl).1; rw [hb9] at this; cases this
        subst e0 hb3 hb4 hb5 hb6 hb7 hb9 hb10
        go_simp
        refine (HT w (bst hD h0)).mono ?_
        rintro e w' ⟨a1, a2, a3, a4, a5, a6, a7, rfl, F', ho', _, _, hb'⟩
        exact ⟨b0, true, b2, false, false, false, false, false, b8, false, false, x15, x16, x94, _, _, x97, x98, x99, x100, x101, y0, y1, y2, y3, y4, y5, y6, F, g, rfl, rfl, bstep h0 hb', f0, (fun _ _ => ⟨_, _, _, _, _, _, _, rfl, ho'.rd⟩), f2, (fun h => by cases h), (fun h => by cases h), (fun h => by cases h), (fun h => by cases h), (fun h => by cases h), (fun h => ⟨(f8 h).1, (f8 h).2.1, (f8 h).2.2.1.all hb', (f8 h).2.2.2⟩), (fun h => by cases h), (fun h => by cases h)⟩
      · obtain rfl := Option.some.inj ho
        have c0 : w.cell? ⟨S + 1, 0, none⟩ = some d0 := (l1.all h0).cell 0
        have c1 : w.cell? ⟨S + 1, 1, none⟩ = some d1 := (l1.all h0).cell 1
        have c2 : w.cell? ⟨S + 1, 2, none⟩ = some d2 := (l1.all h0).cell 2
        have c3 : w.cell? ⟨S + 1, 3, none⟩ = some d3 := (l1.all h0).cell 3
        have c4 : w.cell? ⟨S + 1, 4, none⟩ = some d4 := (l1.all h0).cell 4
        have c5 : w.cell? ⟨S + 1, 5, none⟩ = some d5 := (l1.all h0).cell 5
        have c6 : w.cell? ⟨S + 1, 6, none⟩ = some d6 := (l1.all h0).cell 6
        have c7 : w.cell? ⟨S + 1, 7, none⟩ = some d7 := (l1.all h0).cell 7
        have c8 : w.cell? ⟨S + 1, 8, none⟩ = some d8 := (l1.all h0).cell 8
        have c9 : w.cell? ⟨S + 1, 9, none⟩ = some d9 := (l1.all h0).cell 9
        have c10 : w.cell? ⟨S + 1, 10, none⟩ = some d10 := (l1.all h0).cell 10
        have c11 : w.cell? ⟨S + 1, 11, none⟩ = some d11 := (l1.all h0).cell 11
        go_simp
        exact ⟨b0, b1, true, b3, b4, b5, b6, b7, b8, b9, b10, x15, x16, x94, x95, x96, _, x98, x99, x100, x101, y0, y1, y2, y3, y4, y5, y6, F, g, rfl, rfl, h0, f0, f1, (fun _ => rfl), f3, f4, f5, f6, f7, f8, f9, f10⟩
      · have g2 := ready_pred hi ho 2
        have g1 := ready_pred hi ho 1
        have hb3 : b3 = false := by simpa using ready_off rfl hi
        obtain rfl := Option.some.inj ho
        have e2 := f2 (g2 (by kernel_rfl))
        have e1 : b1 = true := g1 (by kernel_rfl)
        have hb4 : b4 = false := by
          cases b4 with
          | false => rfl
          | true => have := (f4 rfl).1; rw [hb3] at this; cases this
        have hb5 : b5 = false := by
          cases b5 with
          | false => rfl
          | true => have := (f5 rfl).1; rw [hb4] at this; cases this
        have hb6 : b6 = false := by
          cases b6 with
          | false => rfl
          | true => have := (f6 rfl).1; rw [hb5] at this; cases this
        have hb7 : b7 = false := by
          cases b7 with
          | false => rfl
          | true => have := (f7 rfl).1; rw [hb5] at this; cases this
        have hb9 : b9 = false := by
          cases b9 with
          | false => rfl
          | true => have := (f9 rfl).1; rw [hb6] at this; cases this
        have hb10 : b10 = false := by
          cases b10 with
          | false => rfl
          | true => have := (f10 rfl).1; rw [hb9] at this; cases this
        subst e2 e1 hb4 hb5 hb6 hb7 hb9 hb10
        go_simp
        refine (HTO w (bst hD h0)).mono ?_
        rintro e w' ⟨v, rfl, ho', hb'⟩
        exact ⟨b0, true, b2, true, false, false, false, false, b8, false, false, x15, x16, x94, x95, x96, _, _, x99, x100, x101, y0, y1, y2, y3, y4, y5, y6, F, g, rfl, rfl, bstep h0 hb', f0, (fun h h4 => by obtain ⟨a, b, c, d, e, vo, vu, q1, q2⟩ := f1 h h4; exact ⟨a, b, c, d, e, vo, vu, q1, q2.keep hb'⟩), f2, (fun _ => ⟨rfl, fun _ => ho'⟩), (fun h => by cases h), (fun h => by cases h), (fun h => by cases h), (fun h => by cases h), (fun h => ⟨(f8 h).1, (f8 h).2.1, (f8 h).2.2.1.all hb', (f8 h).2.2.2⟩), (fun h => by cases h), (fun h => by cases h)⟩
      · have g3 := ready_pred hi ho 3
        have hb4 : b4 = false := by simpa using ready_off rfl hi
        obtain rfl := Option.some.inj ho
        have e3 : b3 = true := g3 (by kernel_rfl)
        have e1 := (f3 e3).1
        have hb5 : b5 = false := by
          cases b5 with
          | false => rfl
          | true => have := (f5 rfl).1; rw [hb4] at this; cases this
        have hb6 : b6 = false := by
          cases b6 with
          | false => rfl
          | true => have := (f6 rfl).1; rw [hb5] at this; cases this
        have hb7 : b7 = false := by
          cases b7 with
          | false => rfl
          | true => have := (f7 rfl).1; rw [hb5] at this; cases this
        have hb9 : b9 = false := by
          cases b9 with
          | false => rfl
          | true => have := (f9 rfl).1; rw [hb6] at this; cases this
        have hb10 : b10 = false := by
          cases b10 with
          | false => rfl
          | true => have := (f10 rfl).1; rw [hb9] at this; cases this
        subst e3 e1 hb4 hb5 hb6 hb7 hb9 hb10
        obtain ⟨qa', qb', qc', qd', qe', qo', qu', k1, k2⟩ := f1 rfl rfl
        have k3 := (f3 rfl).2 rfl
        subst k1
        go_simp
        refine (HF w _ _ _ _ _ _ _ _ k2 k3).mono ?_
        rintro e w' ⟨h1, h2, h3, h4, h5, h6, h7, rfl, G, ho', nd', rg', hb'⟩
        exact ⟨b0, true, b2, true, true, false, false, false, b8, false, false, x15, x16, x94, x95, _, x97, x98, _, x100, x101, h1, h2, h3, h4, h5, h6, h7, G, g, rfl, rfl, bstep h0 hb', f0, (fun _ h => by cases h), f2, (fun _ => ⟨rfl, fun h => by cases h⟩), (fun _ => ⟨rfl, rfl, ho', nd', rg'.mono h0.size (Nat.le_refl _)⟩), (fun h => by cases h), (fun h => by cases h), (fun h => by cases h), (fun h => ⟨(f8 h).1, (f8 h).2.1, (f8 h).2.2.1.all hb', fun _ hq => by have := (rg' _ hq).1; have := (f8 h).2.2.1.lt; omega⟩), (fun h => by cases h), (fun h => by cases h)⟩
      · have gs := ready_pred hi ho 4
        obtain rfl := Option.some.inj ho
        have e4 : b4 = true := gs (by kernel_rfl)
        have e3 := (f4 e4).1
        have e1 := (f3 e3).1
        have v4 := (f4 e4).2.1
        subst v4 e4 e3 e1
        obtain ⟨_, _, o1, nd1, rg1⟩ := f4 rfl
        go_simp
        exact ⟨b0, true, b2, true, true, true, b6, b7, b8, b9, b10, x15, x16, _, x95, x96, x97, x98, _, x100, x101, y0, y1, y2, y3, y4, y5, y6, F, g, rfl, rfl, h0, f0, (fun _ h => by cases h), f2, (fun _ => ⟨rfl, fun h => by cases h⟩), (fun _ => ⟨rfl, rfl, o1, nd1, rg1⟩), (fun _ => ⟨rfl, rfl⟩), (fun h => ⟨rfl, (f6 h).2⟩), (fun h => ⟨rfl, (f7 h).2⟩), f8, f9, f10⟩
      · have gs := ready_pred hi ho 5
        obtain rfl := Option.some.inj ho
        have e5 : b5 = true := gs (by kernel_rfl)
        have e4 := (f5 e5).1
        have e3 := (f4 e4).1
        have e1 := (f3 e3).1
        have v4 := (f4 e4).2.1
        have v5 := (f5 e5).2
        subst v5 v4 e4 e3 e1 e5
        obtain ⟨_, _, o1, nd1, rg1⟩ := f4 rfl
        go_simp
        exact ⟨b0, true, b2, true, true, true, true, b7, b8, b9, b10, x15, x16, _, x95, x96, x97, x98, _, _, x101, y0, y1, y2, y3, y4, y5, y6, F, g, rfl, rfl, h0, f0, (fun _ h => by cases h), f2, (fun _ => ⟨rfl, fun h => by cases h⟩), (fun _ => ⟨rfl, rfl, o1, nd1, rg1⟩), (fun _ => ⟨rfl, rfl⟩), (fun _ => ⟨rfl, rfl⟩), f7, f8, (fun h => ⟨rfl, (f9 h).2⟩), f10⟩
      · have gs := ready_pred hi ho 5
        obtain rfl := Option.some.inj ho
        have e5 : b5 = true := gs (by kernel_rfl)
        have e4 := (f5 e5).1
        have e3 := (f4 e4).1
        have e1 := (f3 e3).1
        have v4 := (f4 e4).2.1
        have v5 := (f5 e5).2
        subst v5 v4 e4 e3 e1 e5
        obtain ⟨_, _, o1, nd1, rg1⟩ := f4 rfl
        go_simp
        exact ⟨b0, true, b2, true, true, true, b6, true, b8, b9, b10, x15, x16, _, x95, x96, x97, x98, _, x100, _, y0, y1, y2, y3, y4, y5, y6, F, g, rfl, rfl, h0, f0, (fun _ h => by cases h), f2, (fun _ => ⟨rfl, fun h => by cases h⟩), (fun _ => ⟨rfl, rfl, o1, nd1, rg1⟩), (fun _ => ⟨rfl, rfl⟩), f6, (fun _ => ⟨rfl, rfl⟩), f8, f9, (fun h => ⟨(f10 h).1, rfl, (f10 h).2.2⟩)⟩
      · have hb8 : b8 = false := by simpa using ready_off rfl hi
        obtain rfl := Option.some.inj ho
        have hb9 : b9 = false := by
          cases b9 with
          | false => rfl
          | true => have := (f9 rfl).2; rw [hb8] at this; cases this
        have hb10 : b10 = false := by
          cases b10 with
          | false => rfl
          | true => have := (f10 rfl).1; rw [hb9] at this; cases this
        subst hb9 hb10
        have hb' : Below w.heap.size w (w.alloc (.cells #[.int .i64 0, .int .i64 0, .int .i64 0, .slice none 0 0, .slice none 0 0, .slice none 0 0, .slice none 0 0, .slice none 0 0, .slice none 0 0, .bool false] 64)) := (Below.refl _ _).alloc (Nat.le_refl _) _
        have lg := Loc.made w #[.int .i64 0, .int .i64 0, .int .i64 0, .slice none 0 0, .slice none 0 0, .slice none 0 0, .slice none 0 0, .slice none 0 0, .slice none 0 0, .bool false] 64
        go_simp
        exact ⟨b0, b1, b2, b3, b4, b5, b6, b7, true, false, false, _, x16, x94, x95, x96, x97, x98, x99, x100, x101, y0, y1, y2, y3, y4, y5, y6, F, w.heap.size, rfl, rfl, bstep h0 hb', f0, (fun h h4 => by obtain ⟨a, b, c, d, e, vo, vu, q1, q2⟩ := f1 h h4; exact ⟨a, b, c, d, e, vo, vu, q1, q2.keep hb'⟩), f2, (fun h => ⟨(f3 h).1, fun h4 => ((f3 h).2 h4).keep hb'⟩), (fun h => ⟨(f4 h).1, (f4 h).2.1, (f4 h).2.2.1.keep hb', (f4 h).2.2.2.1, (f4 h).2.2.2.2.mono (Nat.le_refl _) hb'.size⟩), f5, f6, f7, (fun _ => ⟨rfl, h0.size, lg, fun h hq => by have := ((f4 h).2.2.2.2 _ hq).2; omega⟩), (fun h => by cases h), (fun h => by cases h)⟩
      · have g8 := ready_pred hi ho 8
        have g6 := ready_pred hi ho 6
        have hb9 : b9 = false := by simpa using ready_off rfl hi
        obtain rfl := Option.some.inj ho
        have e8 : b8 = true := g8 (by kernel_rfl)
        have e6 : b6 = true := g6 (by kernel_rfl)
        have hb10 : b10 = false := by
          cases b10 with
          | false => rfl
          | true => have := (f10 rfl).1; rw [hb9] at this; cases this
        have e5 := (f6 e6).1
        have e4 := (f5 e5).1
        have e3 := (f4 e4).1
        have e1 := (f3 e3).1
        have v6 := (f6 e6).2
        have v5 := (f5 e5).2
        have v4 := (f4 e4).2.1
        have v8 := (f8 e8).1
        subst v6 v5 v4 v8 e8 e6 e5 e4 e3 e1 hb9 hb10
        obtain ⟨_, _, o1, nd1, rg1⟩ := f4 rfl
        obtain ⟨_, hge, lz, hng⟩ := f8 rfl
        replace lz : Loc w g #[.int .i64 0, .int .i64 0, .int .i64 0, .slice none 0 0, .slice none 0 0, .slice none 0 0, .slice none 0 0, .slice none 0 0, .slice none 0 0, .bool false] 64 := lz
        obtain ⟨zk, pk, npk, cpk, qk, nqk, cqk, rk, nrk, crk, uk, nuk, cuk, ok, nok, cok, ik, nik, cik, hy0, hy1, hy2, hy3, hy4, hy5, hy6⟩ := rd5v o1.rd
        subst hy0 hy1 hy2 hy3 hy4 hy5 hy6
        obtain ⟨c0, c1, c2, c3, c4, c5, c6, c7, c8, c9⟩ := lz.ten
        have u0 := lz.frozen 0
        have u1 := lz.frozen 1
        have u2 := lz.frozen 2
        have u3 := lz.frozen 3
        have u4 := lz.frozen 4
        have u5 := lz.frozen 5
        have u6 := lz.frozen 6
        have u7 := lz.frozen 7
        have u8 := lz.frozen 8
        have u9 := lz.frozen 9
        obtain ⟨s1, s2⟩ := store10r lz (.int .i64 hv.id) (.int .i64 hv.clock) (.int .i64 zk) (.slice pk npk cpk) (.slice qk nqk cqk) (.slice rk nrk crk) (.slice uk nuk cuk) (.slice ok nok cok) (.slice ik nik cik) (.bool hv.lost)
        have s3 := h0.trans (s2.below h0.size (fun q hq => by simp at hq; omega))
        have s4 := OwRep.frm o1 s2 (fun q hq hq' => by simp at hq'; rw [hq'] at hq; exact hng rfl hq)
        unfold repVal at *
        go_simp
        exact ⟨b0, true, b2, true, true, true, true, b7, true, true, false, _, x16, _, x95, x96, x97, x98, _, _, x101, (.int .i64 zk), (.slice pk npk cpk), (.slice qk nqk cqk), (.slice rk nrk crk), (.slice uk nuk cuk), (.slice ok nok cok), (.slice ik nik cik), F, g, rfl, rfl, s3, f0, (fun _ h => by cases h), f2, (fun _ => ⟨rfl, fun h => by cases h⟩), (fun _ => ⟨rfl, rfl, s4, nd1, rg1.mono (Nat.le_refl _) s2.size⟩), (fun _ => ⟨rfl, rfl⟩), (fun _ => ⟨rfl, rfl⟩), f7, (fun _ => ⟨rfl, hge, s1, hng⟩), (fun _ => ⟨rfl, rfl⟩), (fun h => by cases h)⟩
      · have g9 := ready_pred hi ho 9
        have g7 := ready_pred hi ho 7
        obtain rfl := Option.some.inj ho
        have e9 : b9 = true := g9 (by kernel_rfl)
        have e7 : b7 = true := g7 (by kernel_rfl)
        have e6 := (f9 e9).1
        have e8 := (f9 e9).2
        have e5 := (f6 e6).1
        have e4 := (f5 e5).1
        have e3 := (f4 e4).1
        have e1 := (f3 e3).1
        have v7 := (f7 e7).2
        have v6 := (f6 e6).2
        have v5 := (f5 e5).2
        have v4 := (f4 e4).2.1
        have v8 := (f8 e8).1
        subst v7 v6 v5 v4 v8 e9 e7 e8 e6 e5 e4 e3 e1
        obtain ⟨_, _, o1, nd1, rg1⟩ := f4 rfl
        obtain ⟨_, hge, lz, hng⟩ := f8 rfl
        go_simp
        exact ⟨b0, true, b2, true, true, true, true, true, true, true, true, _, _, _, x95, x96, x97, x98, _, _, _, y0, y1, y2, y3, y4, y5, y6, F, g, rfl, rfl, h0, f0, (fun _ h => by cases h), f2, (fun _ => ⟨rfl, fun h => by cases h⟩), (fun _ => ⟨rfl, rfl, o1, nd1, rg1⟩), (fun _ => ⟨rfl, rfl⟩), (fun _ => ⟨rfl, rfl⟩), (fun _ => ⟨rfl, rfl⟩), (fun _ => ⟨rfl, hge, lz, hng⟩), (fun _ => ⟨rfl, rfl⟩), (fun _ => ⟨rfl, rfl, rfl⟩)⟩
  case dn =>
    intro L a w3 hI hre
    have hall := ready_all (L := L) (by obtain ⟨b0, b1, b2, b3, b4, b5, b6, b7, b8, b9, b10, x15, x16, x94, x95, x96, x97, x98, x99, x100, x101, y0, y1, y2, y3, y4, y5, y6, F, g, rfl, _⟩ := hI; rfl) (by kernel_rfl) hre 11
    obtain ⟨b0, b1, b2, b3, b4, b5, b6, b7, b8, b9, b10, x15, x16, x94, x95, x96, x97, x98, x99, x100, x101, y0, y1, y2, y3, y4, y5, y6, F, g, rfl, rfl, h0, f0, f1, f2, f3, f4, f5, f6, f7, f8, f9, f10⟩ := hI
    have s10 : b10 = true := hall 10 (by omega) (by decide)
    obtain ⟨e9, e7, w7'⟩ := f10 s10
    have e6 := (f9 e9).1
    have e8 := (f9 e9).2
    have e5 := (f6 e6).1
    have e4 := (f5 e5).1
    have e3 := (f4 e4).1
    have e1 := (f3 e3).1
    have e0 : b0 = true := hall 0 (by omega) (by decide)
    have e2 : b2 = true := hall 2 (by omega) (by decide)
    subst s10 e9 e7 e8 e6 e5 e4 e3 e1 e0 e2
    have v0 := f0 rfl
    have v2 := f2 rfl
    have v7 := (f7 rfl).2
    have v6 := (f6 rfl).2
    have v5 := (f5 rfl).2
    obtain ⟨_, v4, oV, ndV, rgV⟩ := f4 rfl
    obtain ⟨v8, hge, lg, hng⟩ := f8 rfl
    subst v0 v2 v7 v6 v5 v4 v8 w7'
    exact K w3 g y0 y1 y2 y3 y4 y5 y6 F _ _ h0 oV ndV rgV hge (hng rfl) lg
end Go.Proofs.YtkmmhlimihkgfaaGreat

/- A frame by what may turn: blocks by their number and what lies in them. -/
namespace Go.Proofs.YtkmmhlimihkgfaaGreat
open Go.RowKit
set_option linter.unusedVariables false

/-- All blocks but those that may turn (Mt) lie as they lay. -/
structure Frp (Mt : Nat → Obj → Prop) (a b : World) : Prop where
  os : b.os = a.os
  tape : b.tape = a.tape
  output : b.output = a.output
  size : a.heap.size ≤ b.heap.size
  block : ∀ i o, a.heap[i]? = some o → ¬ Mt i o → b.heap[i]? = some o
theorem Frp.refl (Mt : Nat → Obj → Prop) (a : World) : Frp Mt a a := ⟨rfl, rfl, rfl, Nat.le_refl _, fun _ _ h _ => h⟩
theorem Frp.trans {Mt : Nat → Obj → Prop} {a b c : World} (h : Frp Mt a b) (k : Frp Mt b c) : Frp Mt a c :=
  ⟨k.os.trans h.os, k.tape.trans h.tape, k.output.trans h.output, Nat.le_trans h.size k.size, fun i o hi hm => k.block i o (h.block i o hi hm) hm⟩
theorem Frp.ofBelow {a b : World} (h : Below a.heap.size a b) (Mt : Nat → Obj → Prop) : Frp Mt a b :=
  ⟨h.os, h.tape, h.output, h.size, fun i o hi _ => (h.block i (Array.getElem?_eq_some_iff.1 hi).1).trans hi⟩
theorem Frp.ofFrm {a b : World} {S : List Nat} (h : Frm a b S) {Mt : Nat → Obj → Prop} (hm : ∀ g ∈ S, ∀ o, a.heap[g]? = some o → Mt g o) : Frp Mt a b :=
  ⟨h.os, h.tape, h.output, h.size, fun i o hi hn => (h.block i (Array.getElem?_eq_some_iff.1 hi).1 (fun e => hn (hm i e o hi))).trans hi⟩
theorem Frp.below {Mt : Nat → Obj → Prop} {a b : World} {B : Nat} (h : Frp Mt a b) (hB : B ≤ a.heap.size) (hm : ∀ i o, i < B → ¬ Mt i o) : Below B a b :=
  ⟨h.os, h.tape, h.output, h.size, fun i hi => by
    have hlt : i < a.heap.size := by omega
    have := h.block i _ (Array.getElem?_eq_getElem hlt) (hm i _ hi)
    rw [this, Array.getElem?_eq_getElem hlt]⟩

theorem Loc.frp {Mt : Nat → Obj → Prop} {w w' : World} {g : Nat} {cs : Array Value} {T : TypeId} (h : Loc w g cs T) (f : Frp Mt w w') (hn : ¬ Mt g (.cells cs T (0, 0))) : Loc w' g cs T := f.block g _ h hn
theorem own_obj {w : World} {base : Nat} {e : TypeId} {size n : Nat} {v : Value} {xs : List Value} (h : w.ownsRow base e size v n xs) {g : Nat} (hg : v.ownBlock = some g) : ∃ cur, w.heap[g]? = some (.cells cur e (0, 0)) := by
  rcases h.2 with ⟨rfl, _⟩ | ⟨g', cap, cur, rfl, _, ho, _⟩
  · cases hg
  · cases hg; exact ⟨cur, ho⟩
/-- Rows of bytes at or beyond B may turn, nothing else. -/
def MtB (B : Nat) (i : Nat) (o : Obj) : Prop := B ≤ i ∧ ∃ cs, o = .cells cs 5 (0, 0)
theorem Frp.ofAppend {w w' : World} {B : Nat} {v : Value} {l : List Int} (ho : Own w B v l) (h : w.grownBy w' v.ownBlock) : Frp (MtB B) w w' :=
  Frp.ofFrm (Frm.ofGrown h) (fun g hg o hob => by
    have hg' : v.ownBlock = some g := by simpa using hg
    obtain ⟨cur, hcur⟩ := own_obj ho.2 hg'
    rw [hcur] at hob
    cases hob
    exact ⟨(ho.lt g hg').1, cur, rfl⟩)
theorem Frp.toBelow {B : Nat} {a b : World} (h : Frp (MtB B) a b) (hB : B ≤ a.heap.size) : Below B a b := h.below hB (fun i o hi hm => by have := hm.1; omega)
end Go.Proofs.YtkmmhlimihkgfaaGreat

/- The set of void names: the map that fill makes, and sync.Once over it, by contracts: the lock, the two deferred calls, doSlow. -/
namespace Go.Proofs.YtkmmhlimihkgfaaGreat
open Go.RowKit
set_option linter.unusedVariables false
set_option maxRecDepth 100000

/-- The map of br and hr, as it is made. -/
def voidMap : Obj := .map #[{ key := .string ⟨#[98, 114]⟩, val := .agg #[], born := 0 }, { key := .string ⟨#[104, 114]⟩, val := .agg #[], born := 1 }] 2

theorem alloc_put (W : World) (o o' : Obj) : ({ (W.alloc o) with heap := (W.alloc o).heap.setIfInBounds W.heap.size o' } : World) = W.alloc o' := by
  have e : (W.heap.push o).setIfInBounds W.heap.size o' = W.heap.push o' := by
    apply Array.ext'
    rw [Array.toList_setIfInBounds, Array.toList_push, Array.toList_push]
    rw [List.set_append_right _ _ (by simp)]
    simp
  show ({ W with heap := (W.heap.push o).setIfInBounds W.heap.size o' } : World) = { W with heap := W.heap.push o' }
  rw [e]

theorem br_in (W : World) : (Instr.mapUpdate 139 (.map (some W.heap.size)) (.string ⟨#[98, 114]⟩) (.agg #[])).run Tryz.prog (W.alloc (.map #[] 0)) = .ok () (W.alloc (.map #[{ key := .string ⟨#[98, 114]⟩, val := .agg #[], born := 0 }] 1)) := by
  rw [run_mapUpdate_first (P := Tryz.prog) (W.alloc (.map #[] 0)) 139 9 127 W.heap.size 0 ⟨#[98, 114]⟩ (.agg #[]) Tryz.underlying139 Tryz.underlying9 (heap_alloc_new W _), alloc_put]
theorem hr_in (W : World) : (Instr.mapUpdate 139 (.map (some W.heap.size)) (.string ⟨#[104, 114]⟩) (.agg #[])).run Tryz.prog (W.alloc (.map #[{ key := .string ⟨#[98, 114]⟩, val := .agg #[], born := 0 }] 1)) = .ok () (W.alloc voidMap) := by
  have hb := heap_alloc_new W (.map #[{ key := .string ⟨#[98, 114]⟩, val := .agg #[], born := 0 }] 1)
  have hf : Instr.findNow .string (.string ⟨#[104, 114]⟩) ([{ key := .string ⟨#[98, 114]⟩, val := .agg #[], born := 0 }] : List MapEntry) 0 = some none := rfl
  have hc : (Instr.checkKey false 10000 9 (.string ⟨#[104, 114]⟩)).run Tryz.prog (W.alloc (.map #[{ key := .string ⟨#[98, 114]⟩, val := .agg #[], born := 0 }] 1)) = .ok () (W.alloc (.map #[{ key := .string ⟨#[98, 114]⟩, val := .agg #[], born := 0 }] 1)) := MapKept.run_checkKey (k := .string ⟨#[104, 114]⟩) Tryz.underlying9 (by simp [MapKept.IsKey]) false 9999
  simp [Instr.mapUpdate, run_underlying Tryz.underlying139, MapKept.run_getObj_map hb, hc, MapKept.run_findKey Tryz.underlying9 hf, MapKept.run_setObj_map _ hb, Result.andThen]
  exact alloc_put W _ _

theorem fill_any (g : Nat) (w : World) (cs : Array Value) (hl : Loc w g cs 141) (c3 : Value) (h3 : w.cell? ⟨g, 3, none⟩ = some c3) :
    Calls Tryz.prog 151 #[.pointer (some ⟨g, 0, none⟩)] w fun e w' => e = .returned (.tuple #[]) ∧ w' = (w.setCell ⟨g, 3, none⟩ (.map (some w.heap.size))).alloc voidMap := by
  have hmm := @run_makeMap Tryz.prog
  have h1 := br_in w
  have h2 := hr_in w
  have hg := hl.lt
  have f3 := hl.frozen 3
  go_enter Tryz.func151, Tryz.ntmps151
  go_wp2
  go_end0
  exact ⟨rfl, rfl⟩

theorem disable (w : World) : (callFunc 171 #[]).run Tryz.prog w = .ok (.value (.tuple #[])) w := run_call_mark0 Tryz.func171 (by kernel_rfl) (by kernel_rfl) (by kernel_rfl) .disable (by kernel_rfl) w
theorem enable (w : World) : (callFunc 173 #[]).run Tryz.prog w = .ok (.value (.tuple #[])) w := run_call_mark0 Tryz.func173 (by kernel_rfl) (by kernel_rfl) (by kernel_rfl) .enable (by kernel_rfl) w
theorem acquire (a : Addr) (w : World) : (callFunc 174 #[.pointer (some a)]).run Tryz.prog w = .ok (.value (.tuple #[])) w := run_call_marked Tryz.func174 (by kernel_rfl) (by kernel_rfl) (by kernel_rfl) .acquire (by kernel_rfl) a w
theorem releaseMerge (a : Addr) (w : World) : (callFunc 176 #[.pointer (some a)]).run Tryz.prog w = .ok (.value (.tuple #[])) w := run_call_marked Tryz.func176 (by kernel_rfl) (by kernel_rfl) (by kernel_rfl) .releaseMerge (by kernel_rfl) a w

theorem store_deferred (a : Addr) (x : Value) (u : FrameMode) (w : World) (hc : w.cell? a = some x) (hz : w.frozen? a = false) :
    CallsD Tryz.prog 166 #[.pointer (some a), .bool true] u w fun e u' w' => u' = u ∧ (e = .returned (.tuple #[]) ∧ w' = w.drew.setCell a (.int .u32 1)) := by
  have hc' : w.drew.cell? a = some x := by go_simp
  have hz' : w.drew.frozen? a = false := by go_simp
  have hst := run_call_store (P := Tryz.prog) Tryz.func169 (by kernel_rfl) (by kernel_rfl) (by kernel_rfl) (by kernel_rfl) (k := .u32) (y := 1) hc' hz'
  go_enter_d Tryz.func166, Tryz.ntmps166
  go_wp2
  go_region_calls
  all_goals (go_end0; exact ⟨rfl, rfl⟩)

theorem unlock_deferred (a : Addr) (u : FrameMode) (w : World) (hc : w.cell? a = some (.int .i32 1)) (hz : w.frozen? a = false) :
    CallsD Tryz.prog 165 #[.pointer (some a)] u w fun e u' w' => u' = u ∧ (e = .returned (.tuple #[]) ∧ w' = w.setCell a (.int .i32 0)) := by
  have hd := disable
  have he := enable
  have hr := releaseMerge
  have hadd := run_call_add (P := Tryz.prog) Tryz.func177 (by kernel_rfl) (by kernel_rfl) (by kernel_rfl) .i32 (by kernel_rfl) (y := -1) (s := 0) hc hz (by simp [go_sem]; rfl)
  have hcv := run_convert_to_unsafe (P := Tryz.prog) (src := 187) (dst := 191) Tryz.underlying187 Tryz.underlying191 (by kernel_rfl) hc
  go_enter_d Tryz.func165, Tryz.ntmps165
  go_wp2
  go_end0
  go_wp2
  go_end0
  exact ⟨rfl, rfl⟩

theorem lock_free (a : Addr) (w : World) (hc : w.cell? a = some (.int .i32 0)) (hz : w.frozen? a = false) :
    Calls Tryz.prog 164 #[.pointer (some a)] w fun e w' => e = .returned (.tuple #[]) ∧ w' = w.setCell a (.int .i32 1) := by
  have hd := disable
  have he := enable
  have ha := acquire
  have hcas := run_call_cas_hit (P := Tryz.prog) Tryz.func172 (by kernel_rfl) (by kernel_rfl) (by kernel_rfl) .i32 (by kernel_rfl) (y := 1) hc hz
  have hc' : (w.setCell a (.int .i32 1)).cell? a = some (.int .i32 1) := World.cell?_setCell_same w a _ hc
  have hcv := run_convert_to_unsafe (P := Tryz.prog) (src := 187) (dst := 191) Tryz.underlying187 Tryz.underlying191 (by kernel_rfl) hc'
  go_enter Tryz.func164, Tryz.ntmps164
  go_wp2
  first | go_end0 | (simp only [Exit.inBlock, Exit.then]; refine bodyPost_ret (results_none rfl _ _ _) rfl ?_) | refine bodyPost_ret (results_none rfl _ _ _) rfl ?_
  go_wp2
  go_end0
  exact ⟨rfl, rfl⟩

end Go.Proofs.YtkmmhlimihkgfaaGreat

/- sync.Once over the set of void names: doSlow and Do, the first time and later; has. -/
namespace Go.Proofs.YtkmmhlimihkgfaaGreat
open Go.RowKit
set_option linter.unusedVariables false
set_option maxRecDepth 100000

/-- A set that is not yet made; that is made. -/
def vs0 : Array Value := #[.int .u32 0, .int .i32 0, .int .u32 0, .map none]
def vs1 (m : Nat) : Array Value := #[.int .u32 1, .int .i32 0, .int .u32 0, .map (some m)]

theorem load_any (a : Addr) (x : Int) (w : World) (hc : w.cell? a = some (.int .u32 x)) (b : Bool) (hb : (x != 0) = b) :
    Calls Tryz.prog 158 #[.pointer (some a)] w fun e w' => e = .returned (.bool b) ∧ w' = w := by
  have hlo := run_call_load (P := Tryz.prog) Tryz.func163 (by kernel_rfl) (by kernel_rfl) (by kernel_rfl) .u32 (by kernel_rfl) hc
  go_enter Tryz.func158, Tryz.ntmps158
  go_wp2
  go_ret
  exact ⟨rfl, rfl⟩

theorem Frm.drew (w : World) (S : List Nat) : Frm w w.drew S := Frm.ofBelow ((Below.refl _ _).drew) S
theorem setCell_os (w : World) (a : Addr) (v : Value) : (w.setCell a v).os = w.os := by unfold World.setCell; repeat (first | rfl | split)
theorem setCell_tape (w : World) (a : Addr) (v : Value) : (w.setCell a v).tape = w.tape := by unfold World.setCell; repeat (first | rfl | split)
theorem setCell_output (w : World) (a : Addr) (v : Value) : (w.setCell a v).output = w.output := by unfold World.setCell; repeat (first | rfl | split)
theorem Frm.set (w : World) (g j : Nat) (v : Value) : Frm w (w.setCell ⟨g, j, none⟩ v) [g] :=
  ⟨setCell_os w _ v, setCell_tape w _ v, setCell_output w _ v, by simp, fun i _ hn => heap_setCell_other w ⟨g, j, none⟩ i v (fun e => hn (by simp; exact e))⟩
theorem Frm.alloc (w : World) (o : Obj) (S : List Nat) : Frm w (w.alloc o) S := Frm.ofBelow ((Below.refl _ _).alloc (Nat.le_refl _) _) S

set_option maxHeartbeats 1600000 in
theorem slow_any (g : Nat) (w : World) (hl : Loc w g vs0 141) :
    Calls Tryz.prog 159 #[.pointer (some ⟨g, 0, none⟩), .func (.func 151) #[.pointer (some ⟨g, 0, none⟩)] #[]] w fun e w' => e = .returned (.tuple #[]) ∧ ∃ m, w.heap.size ≤ m ∧ Loc w' g (vs1 m) 141 ∧ w'.heap[m]? = some voidMap ∧ Frm w w' [g] := by
  have h1 : w.cell? ⟨g, 1, none⟩ = some (.int .i32 0) := hl.cell 1
  have f1 := hl.frozen 1
  have l1 : Loc (w.setCell ⟨g, 1, none⟩ (.int .i32 1)) g #[.int .u32 0, .int .i32 1, .int .u32 0, .map none] 141 := hl.set 1 (.int .i32 1)
  have F1 := Frm.set w g 1 (.int .i32 1)
  have hnot : ∀ (x : Bool) (w : World), (Op.unary .not (.bool x)).run Tryz.prog w = .ok (.bool (!x)) w := fun _ _ => rfl
  go_enter_defers Tryz.func159, Tryz.ntmps159
  go_wp2_with (go_at_call 164; refine (lock_free ⟨g, 1, none⟩ _ (by go_simp) (by go_simp)).mono ?_; rintro e w' ⟨rfl, rfl⟩)
  generalize w.setCell ⟨g, 1, none⟩ (.int .i32 1) = w1 at *
  refine (load_any ⟨g, 0, none⟩ 0 w1 (l1.cell 0) false (by simp)).mono ?_
  rintro e w1 ⟨rfl, rfl⟩
  go_wp2_with fail
  refine (fill_any g w1 _ l1 _ (l1.cell 3)).mono ?_
  rintro e w2 ⟨rfl, hw2⟩
  have l2 : Loc w2 g #[.int .u32 0, .int .i32 1, .int .u32 0, .map (some w1.heap.size)] 141 := by rw [hw2]; exact (l1.set 3 (.map (some w1.heap.size))).alloc _
  have m2 : w2.heap[w1.heap.size]? = some voidMap := by rw [hw2]; have := heap_alloc_new (w1.setCell ⟨g, 3, none⟩ (.map (some w1.heap.size))) voidMap; rwa [show (w1.setCell ⟨g, 3, none⟩ (.map (some w1.heap.size))).heap.size = w1.heap.size by simp] at this
  have F2 : Frm w1 w2 [g] := by rw [hw2]; exact (Frm.set w1 g 3 _).trans (Frm.alloc _ _ _)
  have hne : w1.heap.size ≠ g := by have := l1.lt; omega
  have F12 := F1.trans F2
  have hmm := F1.size
  clear hw2
  generalize w1.heap.size = m at *
  go_wp2_with fail
  refine leaves_cons (f := 166) (args := #[.pointer (some ⟨g, 0, none⟩), .bool true]) (by simp) (by simp [go_sem]) ?_
  refine (store_deferred ⟨g, 0, none⟩ (.int .u32 0) .returning _ (l2.cell 0) (l2.frozen 0)).mono ?_
  rintro e u' w3 ⟨rfl, rfl, hw3⟩
  have ld : Loc w2.drew g #[.int .u32 0, .int .i32 1, .int .u32 0, .map (some m)] 141 := l2.frm (Frm.drew w2 []) (by simp)
  have l3 : Loc w3 g #[.int .u32 1, .int .i32 1, .int .u32 0, .map (some m)] 141 := by rw [hw3]; exact ld.set 0 (.int .u32 1)
  have F3 : Frm w2 w3 [g] := by rw [hw3]; exact (Frm.drew w2 _).trans (Frm.set _ g 0 _)
  clear hw3
  refine leaves_cons (f := 165) (args := #[.pointer (some ⟨g, 1, none⟩)]) (by simp [settle]) (by simp [go_sem]) ?_
  refine (unlock_deferred ⟨g, 1, none⟩ _ _ (l3.cell 1) (l3.frozen 1)).mono ?_
  rintro e u' w4 ⟨rfl, rfl, hw4⟩
  have l4 : Loc w4 g (vs1 m) 141 := by rw [hw4]; exact l3.set 1 (.int .i32 0)
  have F4 : Frm w3 w4 [g] := by rw [hw4]; exact Frm.set _ g 1 _
  have hm : m < w2.heap.size := by
    by_cases h : m < w2.heap.size
    · exact h
    · rw [Array.getElem?_eq_none (by omega)] at m2; cases m2
  have F34 := F3.trans F4
  have m4 : w4.heap[m]? = some voidMap := (F34.block m hm (by simpa using hne)).trans m2
  simp [Leaves, settle, results, Tryz.results159]
  exact ⟨m, hmm, l4, m4, F12.trans F34⟩
end Go.Proofs.YtkmmhlimihkgfaaGreat

/- A loop over a function, in our own words: what the caller owes where its rounds may make maps, box what they are handed, and return; the function that is ranged over by what it hands on, one by one. No program. -/
namespace Go.Proofs.YtkmmhlimihkgfaaGreat
open Go.RowKit Go.Shelf
set_option linter.unusedVariables false

/-- What I says stays said where the world grows, and where a block of the loop's own books (at D and D + 1) turns. -/
def Stays {β : Type} (D : Nat) (I : β → World → Prop) : Prop :=
  ∀ s W W' row, I s W → W.grownBy W' row → (∀ r, row = some r → r = D ∨ r = D + 1) → I s W'
/-- The books lie as they lay. -/
def BooksSame (D : Nat) (W W' : World) : Prop := W'.heap[D]? = W.heap[D]? ∧ W'.heap[D + 1]? = W.heap[D + 1]?
/-- How a round's body may be left. -/
def rndPost {α : Type} (D : Nat) (Mt : Nat → Obj → Prop) (I Ix : List α → World → Prop) (ys : List α) (W : World) : Exit → Act → World → Prop
  | .normal, _, W' => BooksSame D W W' ∧ Frp Mt W W' ∧ I ys W'
  | .ret, _, W' => BooksSame D W W' ∧ Ix ys W'
  | _, _, _ => False

/-- The function gf hands on the members of xs in their order, as long as it is told to go on; between two rounds it makes memory alone. A round turns none but those that may turn (Mt); what the function lays for itself (Bx) is none of them. -/
def Hands {α : Type} (P : Program) (gf : Nat) (lb : Array Value) (encs : α → Array Value) (Bx : Obj → Prop) (Mt : Nat → Obj → Prop) (xs : List α) (l : Nat) (w : World) : Prop :=
  ∀ (J Jx : List α → World → Prop), (∀ s W W', J s W → W.grownBy W' none → J s W') →
    (∀ m pre x W1, J pre W1 → pre ++ [x] <+: xs → YieldAt Fence.wide m P l (encs x) W1 fun e W' =>
      (e = .returned (.bool true) ∧ J (pre ++ [x]) W' ∧ Frp Mt W1 W') ∨ (e = .returned (.bool false) ∧ Jx (pre ++ [x]) W')) →
    ∀ (n : Nat) (W : World), Below w.heap.size w W → (∀ q o, W.heap.size ≤ q → Bx o → ¬ Mt q o) → J [] W →
      CallsIn Fence.wide n P gf (#[.func (.yield l) #[] #[]] ++ lb) W fun e W' => (∃ v, e = .returned v) ∧ (J xs W' ∨ ∃ pre, pre <+: xs ∧ Jx pre W')

theorem round_wide {m m' : Nat} {P : Program} {l : Nat} {f : FuncId} {tmps : Array Value} {assign body : Code} {w : World} {R : Ending → World → Prop}
    (h : RoundIn Fence.wide m P l f tmps assign body w R) : RoundIn Fence.wide m' P l f tmps assign body w R := ⟨h.1, fun c cs _ => h.2 c cs (room_wide _)⟩

variable {P : Program}

/-- One round: its record is ready; the hand-over, the body; the record behind it says how it was left. -/
theorem round_law {α : Type} {n m D : Nat} {Mt : Nat → Obj → Prop} {fn : FuncId} {rec : LoopState → Option Code → Loop} {tmps : Array Value} {assign body : Code}
    (I Ix : List α → World → Prop) (hI : Stays D I) (hIx : Stays D Ix) (hG : ∀ r, Mt (D + 1) (.loop r)) (hrec : ∀ st pe st' pe', { rec st pe with state := st', pending := pe' } = rec st' pe') (hst : ∀ st pe, (rec st pe).state = st)
    {pre : List α} {x : α} {W : World} (Ax : Act → World → Prop) (hAx : ∀ a', Stays D (fun (_ : Unit) W => Ax a' W))
    (hi : I pre W) (hD : W.heap[D]? = some (.deferred (some []))) (hL : W.heap[D + 1]? = some (.loop (rec .ready none)))
    (hassign : ∀ K : Act → World → Prop, (∀ a' W', Below W.heap.size W W' → Ax a' W' → K a' W') → assign.wpIn (Fence.wide.inRound (D + 1)) n P (Exit.then K (fun _ _ _ => False)) { tmps := tmps, defers := [] } W)
    (hbody : ∀ a' W', I pre W' → Ax a' W' → D + 2 ≤ W'.heap.size → body.wpIn (Fence.wide.inRound (D + 1)) n P (rndPost D Mt I Ix (pre ++ [x]) W') a' W') :
    RoundIn Fence.wide m P (D + 1) fn tmps assign body W fun e W' =>
      (e = .returned (.bool true) ∧ (I (pre ++ [x]) W' ∧ W'.heap[D]? = some (.deferred (some [])) ∧ W'.heap[D + 1]? = some (.loop (rec .ready none))) ∧ Frp Mt W W') ∨
      (e = .returned (.bool false) ∧ Ix (pre ++ [x]) W' ∧ W'.heap[D]? = some (.deferred (some [])) ∧ W'.heap[D + 1]? = some (.loop (rec .done (some .ret)))) := by
  refine round_wide (m := n) (roundIn_of_wpIn trivial (hassign _ ?_))
  intro a' W1 hB1 hax
  have hlt : D + 1 < W.heap.size := (Array.getElem?_eq_some_iff.1 hL).1
  have hi1 : I pre W1 := hI pre W W1 none hi ⟨hB1.os, hB1.tape, hB1.output, hB1.size, fun k hk _ => hB1.block k hk⟩ (fun r e => by cases e)
  have hD1 := (hB1.block D (by omega)).trans hD
  have hL1 := (hB1.block (D + 1) hlt).trans hL
  have hlt1 : D + 1 < W1.heap.size := (Array.getElem?_eq_some_iff.1 hL1).1
  refine ⟨_, run_beginRound hL1 (hst _ _), ?_⟩
  obtain ⟨W2, hW2⟩ : ∃ W2, W1.putObj (D + 1) (.loop { rec .ready none with state := .busy }) = W2 := ⟨_, rfl⟩
  have hg2 : W1.grownBy W2 (some (D + 1)) := by rw [← hW2]; exact grownBy_putObj' W1 (D + 1) _
  have hL2 : W2.heap[D + 1]? = some (.loop { rec .ready none with state := .busy }) := by rw [← hW2]; exact World.putObj_heap_same hlt1
  have hD2 : W2.heap[D]? = some (.deferred (some [])) := by rw [← hW2]; exact (World.putObj_heap_other (by omega)).trans hD1
  have hF2 : Frp Mt W W2 := (Frp.ofBelow hB1 Mt).trans (Frp.ofFrm (Frm.ofGrown hg2) (fun g h o ho => by simp at h; subst h; rw [hL1] at ho; cases ho; exact hG _))
  rw [hW2]
  have hi2 : I pre W2 := hI pre W1 W2 _ hi1 hg2 (fun r e => by cases e; exact .inr rfl)
  have hax2 : Ax a' W2 := hAx a' () W1 W2 _ hax hg2 (fun r e => by cases e; exact .inr rfl)
  have hlt2 : D + 2 ≤ W2.heap.size := by have := (Array.getElem?_eq_some_iff.1 hL2).1; omega
  refine wpIn_mono (hbody a' W2 hi2 hax2 hlt2) ?_
  have fin : ∀ (jump : Option Code) (W3 : World), BooksSame D W2 W3 → ∃ W4, (Instr.endRound (D + 1) jump).run P W3 = .ok (.bool jump.isNone) W4 ∧ W3.grownBy W4 (some (D + 1)) ∧ W4.heap[D]? = some (.deferred (some [])) ∧ W4.heap[D + 1]? = some (.loop (rec (if jump.isNone then .ready else .done) jump)) := by
    intro jump W3 hb
    have hL3 := hb.2.trans hL2
    have hlt3 : D + 1 < W3.heap.size := (Array.getElem?_eq_some_iff.1 hL3).1
    refine ⟨_, run_endRound jump hL3, grownBy_putObj' W3 (D + 1) _, (World.putObj_heap_other (by omega)).trans (hb.1.trans hD2), ?_⟩
    rw [World.putObj_heap_same hlt3]
    have := hrec .ready none (if jump.isNone then .ready else .done) jump
    rw [← this]
  rintro e a3 W3 hp
  cases e with
  | normal =>
    obtain ⟨hb, hF3, hi3⟩ := hp
    obtain ⟨W4, hr, hg4, hD4, hL4⟩ := fin none W3 hb
    exact ⟨_, W4, hr, .inl ⟨rfl, ⟨hI _ W3 W4 _ hi3 hg4 (fun r e => by cases e; exact .inr rfl), hD4, hL4⟩, (hF2.trans hF3).trans (Frp.ofFrm (Frm.ofGrown hg4) (fun g h o ho => by simp at h; subst h; rw [hb.2.trans hL2] at ho; cases ho; exact hG _))⟩⟩
  | ret =>
    obtain ⟨hb, hi3⟩ := hp
    obtain ⟨W4, hr, hg4, hD4, hL4⟩ := fin (some .ret) W3 hb
    exact ⟨_, W4, hr, .inr ⟨rfl, hIx _ W3 W4 _ hi3 hg4 (fun r e => by cases e; exact .inr rfl), hD4, hL4⟩⟩
  | exit id => exact hp.elim
  | goto t => exact hp.elim
  | panic ch => exact hp.elim
  | outgrown => exact hp.elim

/-- The loop. -/
theorem range_law {α : Type} {n : Nat} {g : Operand} {ps : Array Tmp} {assign body : Code} {Q : Exit → Act → World → Prop} {a : Act} {w : World} {gf : Nat} {lb : Array Value}
    (hg : a.eval g = .func (.func gf) #[] lb) (eg : ∀ args w, (callFunc gf args).run P w = .ok (.enter gf args) w)
    {encs : α → Array Value} {Bx : Obj → Prop} {Mt : Nat → Obj → Prop} {xs : List α} (hG : ∀ r, Mt (w.heap.size + 1) (.loop r)) (hGl : ∀ q o, w.heap.size + 2 ≤ q → Bx o → ¬ Mt q o) (hseq : Hands P gf lb encs Bx Mt xs (w.heap.size + 1) w) (hps : ∀ x, (encs x).size = ps.size)
    (I Ix : List α → World → Prop) (hI : Stays w.heap.size I) (hIx : Stays w.heap.size Ix) (h0 : I [] w)
    (Ax : α → Act → World → Prop) (hAx : ∀ x a', Stays w.heap.size (fun (_ : Unit) W => Ax x a' W))
    (hassign : ∀ (pre : List α) (x : α) (W : World) (K : Act → World → Prop), I pre W → w.heap.size + 2 ≤ W.heap.size → (∀ a' W', Below W.heap.size W W' → Ax x a' W' → K a' W') →
      assign.wpIn (Fence.wide.inRound (w.heap.size + 1)) n P (Exit.then K (fun _ _ _ => False)) { tmps := (ps.zip (encs x)).foldl (fun t (p, v) => t.setIfInBounds p v) a.tmps, defers := [] } W)
    (hbody : ∀ (pre : List α) (x : α) (a' : Act) (W : World), I pre W → Ax x a' W → pre ++ [x] <+: xs → w.heap.size + 2 ≤ W.heap.size →
      body.wpIn (Fence.wide.inRound (w.heap.size + 1)) n P (rndPost w.heap.size Mt I Ix (pre ++ [x]) W) a' W)
    (hdone : ∀ W : World, I xs W → W.heap[w.heap.size]? = some (.deferred (some [])) → Q .normal { a with defers := { target := .collected w.heap.size, args := #[] } :: a.defers } W)
    (hstop : ∀ (pre : List α) (W : World), pre <+: xs → Ix pre W → W.heap[w.heap.size]? = some (.deferred (some [])) → Code.ret.wpIn Fence.wide n P Q { a with defers := { target := .collected w.heap.size, args := #[] } :: a.defers } W) :
    (Code.rangeFunc g ps assign body).wpIn Fence.wide n P Q a w := by
  refine wpIn_rangeFunc ?_
  intro fn hfn
  obtain ⟨rec, hrec⟩ : ∃ rec : LoopState → Option Code → Loop, rec = fun st pe => { state := st, pending := pe, fn, tmps := a.tmps, params := ps, assign, body, defers := w.heap.size } := ⟨_, rfl⟩
  obtain ⟨W1, hW1⟩ : ∃ W1, (w.alloc (.deferred (some []))).alloc (.loop (rec .ready none)) = W1 := ⟨_, rfl⟩
  have hL1 : W1.heap[w.heap.size + 1]? = some (.loop (rec .ready none)) := by
    rw [← hW1]; have := World.alloc_heap_new (w.alloc (.deferred (some []))) (.loop (rec .ready none)); rwa [World.size_alloc] at this
  have hD1 : W1.heap[w.heap.size]? = some (.deferred (some [])) := by
    rw [← hW1]; exact (Below.heap_alloc _ _ _ (by simp)).trans (World.alloc_heap_new w _)
  have hB1 : Below w.heap.size w W1 := by rw [← hW1]; exact ((Below.refl _ w).alloc (Nat.le_refl _) _).alloc (by simp) _
  have hI1 : I [] W1 := hI [] w W1 none h0 ⟨hB1.os, hB1.tape, hB1.output, hB1.size, fun k hk _ => hB1.block k hk⟩ (fun r e => by cases e)
  refine ⟨w.heap.size + 1, [{ target := .collected w.heap.size, args := #[] }], W1, { target := .fn (.func gf) lb, args := #[.func (.yield (w.heap.size + 1)) #[] #[]] }, W1, gf,
    #[.func (.yield (w.heap.size + 1)) #[] #[]] ++ lb, W1, ?_, ?_, fun _ _ => trivial, ?_, (fun h => (by cases h)), ?_⟩
  · rw [← hW1, hrec]; exact run_enterLoop_outer _ _ _ _ _
  · simp only [resolve, hg]
    simp [go_sem]
  · simp [invoke, go_sem, eg]
  · refine (hseq
      (fun pre W => I pre W ∧ W.heap[w.heap.size]? = some (.deferred (some [])) ∧ W.heap[w.heap.size + 1]? = some (.loop (rec .ready none)))
      (fun pre W => Ix pre W ∧ W.heap[w.heap.size]? = some (.deferred (some [])) ∧ W.heap[w.heap.size + 1]? = some (.loop (rec .done (some .ret)))) ?_ ?_ (n - 1) W1 hB1 (fun q o h hb => hGl q o (by have := (Array.getElem?_eq_some_iff.1 hL1).1; omega) hb) ⟨hI1, hD1, hL1⟩).mono ?_
    · rintro s W W' ⟨hi, hD, hL⟩ hg'
      exact ⟨hI s W W' none hi hg' (fun r e => by cases e), (hg'.block _ (Array.getElem?_eq_some_iff.1 hD).1 (by simp)).trans hD, (hg'.block _ (Array.getElem?_eq_some_iff.1 hL).1 (by simp)).trans hL⟩
    · rintro m pre x W ⟨hi, hD, hL⟩ hpx
      have hy := run_yield (P := P) (args := encs x) hL (by rw [hrec]; exact hps x)
      rw [hrec] at hy
      refine ⟨fn, _, assign, body, hy, ?_⟩
      refine (round_law (n := n) (m := m) (fn := fn) (x := x) I Ix hI hIx hG (by rw [hrec]; exact fun _ _ _ _ => rfl) (by rw [hrec]; exact fun _ _ => rfl) (Ax x) (hAx x) hi hD hL (fun K hK => hassign pre x W K hi (by have := (Array.getElem?_eq_some_iff.1 hL).1; omega) hK) (fun a' W' hi' hax hl => hbody pre x a' W' hi' hax hpx hl)).mono ?_
      rintro e W' (⟨rfl, h1, h2⟩ | ⟨rfl, h1⟩)
      · exact .inl ⟨rfl, h1, h2⟩
      · exact .inr ⟨rfl, h1⟩
    · rintro e W2 ⟨⟨v, rfl⟩, (⟨hi, hD, hL⟩ | ⟨pre, hpre, hi, hD, hL⟩)⟩
      · have he := run_endLoop (P := P) hL (by rw [hrec]; simp)
        rw [hrec] at he
        exact ⟨none, _, he, hdone _ (hI xs W2 _ _ hi (grownBy_putObj' W2 _ _) (fun r e => by cases e; exact .inr rfl)) ((World.putObj_heap_other (by omega)).trans hD)⟩
      · have he := run_endLoop (P := P) hL (by rw [hrec]; simp)
        rw [hrec] at he
        exact ⟨some .ret, _, he, hstop pre _ hpre (hIx pre W2 _ _ hi (grownBy_putObj' W2 _ _) (fun r e => by cases e; exact .inr rfl)) ((World.putObj_heap_other (by omega)).trans hD)⟩
end Go.Proofs.YtkmmhlimihkgfaaGreat

/- impl.isSmall, impl.isDigit, impl.NameOk and impl.textOk answer what the plain tests say. -/
namespace Go.Proofs.YtkmmhlimihkgfaaGreat
open Go.RowKit
set_option linter.unusedVariables false

def smallB (x : Int) : Bool := decide (97 ≤ x ∧ x ≤ 122)
def digB (x : Int) : Bool := decide (48 ≤ x ∧ x ≤ 57)
theorem smallB_yes {x : Int} (h : 97 ≤ x ∧ x ≤ 122) : smallB x = true := by unfold smallB; simpa using h
theorem smallB_no {x : Int} (h : ¬ (97 ≤ x ∧ x ≤ 122)) : smallB x = false := by unfold smallB; simpa using h
theorem digB_yes {x : Int} (h : 48 ≤ x ∧ x ≤ 57) : digB x = true := by unfold digB; simpa using h
theorem digB_no {x : Int} (h : ¬ (48 ≤ x ∧ x ≤ 57)) : digB x = false := by unfold digB; simpa using h

theorem small_any (x : Int) (w : World) : Calls Tryz.prog 119 #[.int .u8 x] w fun e w' => e = .returned (.bool (smallB x)) ∧ w' = w := by
  by_cases h1 : 97 ≤ x
  · by_cases h2 : x ≤ 122
    · have HD := hide (smallB_yes ⟨h1, h2⟩)
      go_enter Tryz.func119, Tryz.ntmps119
      go_wp2
      go_ret
      exact ⟨by rw [unhide HD]; rfl, rfl⟩
    · have HD := hide (smallB_no (x := x) (by omega))
      go_enter Tryz.func119, Tryz.ntmps119
      go_wp2
      go_ret
      exact ⟨by rw [unhide HD]; rfl, rfl⟩
  · have HD := hide (smallB_no (x := x) (by omega))
    have d1 : decide (97 ≤ x) = false := by simpa using h1
    go_enter Tryz.func119, Tryz.ntmps119
    go_wp2
    go_ret
    exact ⟨by rw [unhide HD]; rfl, rfl⟩
theorem dig_any (x : Int) (w : World) : Calls Tryz.prog 120 #[.int .u8 x] w fun e w' => e = .returned (.bool (digB x)) ∧ w' = w := by
  by_cases h1 : 48 ≤ x
  · by_cases h2 : x ≤ 57
    · have HD := hide (digB_yes ⟨h1, h2⟩)
      go_enter Tryz.func120, Tryz.ntmps120
      go_wp2
      go_ret
      exact ⟨by rw [unhide HD]; rfl, rfl⟩
    · have HD := hide (digB_no (x := x) (by omega))
      go_enter Tryz.func120, Tryz.ntmps120
      go_wp2
      go_ret
      exact ⟨by rw [unhide HD]; rfl, rfl⟩
  · have HD := hide (digB_no (x := x) (by omega))
    have d1 : decide (48 ≤ x) = false := by simpa using h1
    go_enter Tryz.func120, Tryz.ntmps120
    go_wp2
    go_ret
    exact ⟨by rw [unhide HD]; rfl, rfl⟩

def standB (x : Int) : Bool := decide (32 ≤ x ∧ x ≤ 126)
theorem standB_yes {x : Int} (h : 32 ≤ x ∧ x ≤ 126) : standB x = true := by unfold standB; simpa using h
theorem standB_no {x : Int} (h : ¬ (32 ≤ x ∧ x ≤ 126)) : standB x = false := by unfold standB; simpa using h
theorem stand_any (x : Int) (w : World) : Calls Tryz.prog 118 #[.int .u8 x] w fun e w' => e = .returned (.bool (standB x)) ∧ w' = w := by
  by_cases h1 : 32 ≤ x
  · by_cases h2 : x ≤ 126
    · have HD := hide (standB_yes ⟨h1, h2⟩)
      go_enter Tryz.func118, Tryz.ntmps118
      go_wp2
      go_ret
      exact ⟨by rw [unhide HD]; rfl, rfl⟩
    · have HD := hide (standB_no (x := x) (by omega))
      go_enter Tryz.func118, Tryz.ntmps118
      go_wp2
      go_ret
      exact ⟨by rw [unhide HD]; rfl, rfl⟩
  · have HD := hide (standB_no (x := x) (by omega))
    have d1 : decide (32 ≤ x) = false := by simpa using h1
    go_enter Tryz.func118, Tryz.ntmps118
    go_wp2
    go_ret
    exact ⟨by rw [unhide HD]; rfl, rfl⟩

theorem nameI_short (w : World) (a : Option Addr) (n cap : Nat) (h : n < 1 ∨ 8 < n) :
    Calls Tryz.prog 83 #[.slice a n cap] w fun e w' => e = .returned (.bool false) ∧ w' = w := by
  by_cases h1 : n < 1
  · have h1' : (n : Int) < 1 := by omega
    go_enter Tryz.func83, Tryz.ntmps83
    go_wp2_with fail
    go_ret
    exact ⟨rfl, rfl⟩
  · have h1' : decide ((n : Int) < 1) = false := by simp; omega
    have h2 : (8 : Int) < (n : Int) := by omega
    go_enter Tryz.func83, Tryz.ntmps83
    go_wp2_with fail
    go_ret
    exact ⟨rfl, rfl⟩

open Classical in
set_option maxHeartbeats 1600000 in
theorem nameI_row (w : World) (b off cap : Nat) (l : List Int) (hok : okB l) (h1 : 1 ≤ l.length) (h8 : l.length ≤ 8)
    (hc : ∀ i, i < l.length → w.cell? ⟨b, off + i, none⟩ = some (.int .u8 (l.getD i 0))) :
    Calls Tryz.prog 83 #[.slice (some ⟨b, off, none⟩) l.length cap] w fun e w' => e = .returned (.bool (decide (NameOk l))) ∧ w' = w := by
  have d1 : decide ((l.length : Int) < 1) = false := by simp; omega
  have d2 : decide ((8 : Int) < (l.length : Int)) = false := by simp; omega
  have hl0 : (0 : Int) < (l.length : Int) := by omega
  obtain ⟨y, hy⟩ : ∃ y, y = l.getD 0 0 := ⟨_, rfl⟩
  have hcy : w.cell? ⟨b, off, none⟩ = some (.int .u8 y) := by rw [hy]; exact hc 0 (by omega)
  have HY := hide hy
  clear hy
  by_cases hs : 97 ≤ y ∧ y ≤ 122
  · have sy := smallB_yes hs
    go_enter Tryz.func83, Tryz.ntmps83
    go_wp2_with (go_at_call 119; refine (small_any y w).mono ?_; rintro e w' ⟨rfl, rfl⟩)
    go_loop [22] (fun i => ∃ k : Nat, k ≤ l.length ∧ i = .int .i64 k ∧ allTo nameCh l k) (fun i => l.length - (intOf i).toNat)
    case atStart => exact ⟨0, Nat.zero_le _, rfl, fun i hi => by omega⟩
    case round =>
      obtain ⟨k, hk, rfl, ha⟩ := hrel
      have HA := hide ha
      clear ha
      by_cases hlt : k < l.length
      · obtain ⟨x, hx⟩ : ∃ x, x = l.getD k 0 := ⟨_, rfl⟩
        have hcx : w'.cell? ⟨b, off + k, none⟩ = some (.int .u8 x) := by rw [hx]; exact hc _ hlt
        have HX := hide hx
        have hlt' : (k : Int) < (l.length : Int) := by omega
        clear hc hcy sy hx
        by_cases hn : 97 ≤ x ∧ x ≤ 122
        · have HN := hide (show nameCh k x from .inl hn)
          have sx := smallB_yes hn
          clear hn
          go_wp2_with (go_at_call 119; refine (small_any x _).mono ?_; rintro e w' ⟨rfl, rfl⟩)
          go_round
          case rel => exact ⟨k + 1, by omega, by go_num, allTo_step (unhide HA) (by rw [← unhide HX]; exact unhide HN)⟩
          case measure => simp [intOf]; omega
        · have sx := smallB_no hn
          by_cases hd : 48 ≤ x ∧ x ≤ 57
          · have hk0 : 0 < k := by
              by_cases e : k = 0
              · subst e; exact absurd hs (by rw [unhide HY, ← unhide HX]; exact hn)
              · omega
            have HN := hide (show nameCh k x from .inr ⟨hk0, hd⟩)
            have sd := digB_yes hd
            clear hn hd
            go_wp2_with (first | (go_at_call 119; refine (small_any x _).mono ?_; rintro e w' ⟨rfl, rfl⟩) | (go_at_call 120; refine (dig_any x _).mono ?_; rintro e w' ⟨rfl, rfl⟩))
            go_round
            case rel => exact ⟨k + 1, by omega, by go_num, allTo_step (unhide HA) (by rw [← unhide HX]; exact unhide HN)⟩
            case measure => simp [intOf]; omega
          · have sd := digB_no hd
            have HF := hide (show decide (NameOk l) = false by
              simp only [decide_eq_false_iff_not]
              rintro ⟨_, _, h⟩
              have := h k hlt
              rw [← unhide HX] at this
              rcases this with h | ⟨_, h⟩
              · exact hn h
              · exact hd h)
            clear hn hd
            go_wp2_with (first | (go_at_call 119; refine (small_any x _).mono ?_; rintro e w' ⟨rfl, rfl⟩) | (go_at_call 120; refine (dig_any x _).mono ?_; rintro e w' ⟨rfl, rfl⟩))
            go_ret
            exact ⟨by rw [unhide HF]; rfl, rfl⟩
      · have e : k = l.length := by omega
        subst e
        have HF := hide (show decide (NameOk l) = true by simp only [decide_eq_true_eq]; exact ⟨h1, h8, unhide HA⟩)
        clear hc
        go_wp2_with fail
        go_ret
        exact ⟨by rw [unhide HF]; rfl, rfl⟩
  · have sy := smallB_no hs
    have HF := hide (show decide (NameOk l) = false by
      simp only [decide_eq_false_iff_not]
      rintro ⟨_, _, h⟩
      have := h 0 (by omega)
      rw [← unhide HY] at this
      rcases this with h | ⟨h, _⟩
      · exact hs h
      · omega)
    clear hc hs
    go_enter Tryz.func83, Tryz.ntmps83
    go_wp2_with (go_at_call 119; refine (small_any y w).mono ?_; rintro e w' ⟨rfl, rfl⟩)
    go_ret
    exact ⟨by rw [unhide HF]; rfl, rfl⟩

open Classical in
theorem nameI_any (w : World) (v : Value) (l : List Int) (h : Byt w v l) :
    Calls Tryz.prog 83 #[v] w fun e w' => e = .returned (.bool (decide (NameOk l))) ∧ w' = w := by
  by_cases hl : l.length < 1 ∨ 8 < l.length
  · obtain ⟨a, cap, rfl, _⟩ := h.shape
    have hd : decide (NameOk l) = false := by simp only [decide_eq_false_iff_not]; rintro ⟨_, _, _⟩; omega
    rw [hd]
    exact nameI_short w a _ cap hl
  · obtain ⟨hok, hm, ⟨rfl, rfl⟩ | ⟨x, cap, rfl, hc, rfl⟩ | ⟨b, off, cap, rfl, _, _, _, _, h5⟩⟩ := h
    · simp at hl
    · simp at hl
    · exact nameI_row w b off cap l hok (by omega) (by omega) h5

theorem nameI_yes (w : World) (v : Value) (l : List Int) (h : Byt w v l) (hn : NameOk l) : Calls Tryz.prog 83 #[v] w fun e w' => e = .returned (.bool true) ∧ w' = w := by
  refine (nameI_any w v l h).mono ?_
  rintro e w' ⟨rfl, h⟩
  exact ⟨by simp [hn], h⟩
theorem nameI_no (w : World) (v : Value) (l : List Int) (h : Byt w v l) (hn : ¬ NameOk l) : Calls Tryz.prog 83 #[v] w fun e w' => e = .returned (.bool false) ∧ w' = w := by
  refine (nameI_any w v l h).mono ?_
  rintro e w' ⟨rfl, h⟩
  exact ⟨by simp [hn], h⟩
open Classical in
set_option maxHeartbeats 1600000 in
theorem textI_any (w : World) (v : Value) (l : List Int) (h : Byt w v l) :
    Calls Tryz.prog 82 #[v] w fun e w' => e = .returned (.bool (decide (TextOk l))) ∧ w' = w := by
  by_cases hl : 30 < l.length
  · obtain ⟨a, cap, rfl, _⟩ := h.shape
    have HD := hide (show decide (TextOk l) = false by simp only [decide_eq_false_iff_not]; rintro ⟨_, _⟩; omega)
    have d2 : (30 : Int) < (l.length : Int) := by omega
    go_enter Tryz.func82, Tryz.ntmps82
    go_wp2
    go_ret
    exact ⟨by rw [unhide HD]; rfl, rfl⟩
  have d2 : ¬ (30 : Int) < (l.length : Int) := by omega
  by_cases h0 : l = []
  · obtain ⟨a, cap, rfl, _⟩ := h.shape
    subst h0
    have HD := hide (show decide (TextOk []) = true by simp only [decide_eq_true_eq]; exact ⟨by simp, fun i hi => by simp at hi⟩)
    go_enter Tryz.func82, Tryz.ntmps82
    go_wp2
    refine wp_loop_rounds 1 ?_
    rw [rounds_succ]
    go_wp2
    go_ret
    exact ⟨by rw [unhide HD]; rfl, rfl⟩
  obtain ⟨hok, hm, ⟨_, e⟩ | ⟨_, _, _, _, e⟩ | ⟨b, off, cap, rfl, _, _, _, _, hc⟩⟩ := h
  · exact absurd e h0
  · exact absurd e h0
  go_enter Tryz.func82, Tryz.ntmps82
  go_wp2
  go_loop [10] (fun i => ∃ k : Nat, k ≤ l.length ∧ i = .int .i64 k ∧ allTo textCh l k) (fun i => l.length - (intOf i).toNat)
  case atStart => exact ⟨0, Nat.zero_le _, rfl, fun i hi => by omega⟩
  case round =>
    obtain ⟨k, hk, rfl, ha⟩ := hrel
    have HA := hide ha
    clear ha
    by_cases hlt : k < l.length
    · obtain ⟨x, hx⟩ : ∃ x, x = l.getD k 0 := ⟨_, rfl⟩
      have hcx : w.cell? ⟨b, off + k, none⟩ = some (.int .u8 x) := by rw [hx]; exact hc _ hlt
      have HX := hide hx
      have hlt' : (k : Int) < (l.length : Int) := by omega
      clear hc hx
      by_cases hn : textCh k x
      · have HN := hide hn
        have sx := standB_yes (x := x) (by unfold textCh at hn; omega)
        clear hn
        go_wp2_with (go_at_call 118; refine (stand_any x _).mono ?_; rintro e w' ⟨rfl, rfl⟩)
        go_round
        case rel => exact ⟨k + 1, by omega, by go_num, allTo_step (unhide HA) (by rw [← unhide HX]; exact unhide HN)⟩
        case measure => simp [intOf]; omega
      · have HF := hide (show decide (TextOk l) = false by
          simp only [decide_eq_false_iff_not]
          rintro ⟨_, h⟩
          exact hn (by rw [unhide HX]; exact h k hlt))
        have sx := standB_no (x := x) (by unfold textCh at hn; omega)
        clear hn
        go_wp2_with (go_at_call 118; refine (stand_any x _).mono ?_; rintro e w' ⟨rfl, rfl⟩)
        go_ret
        exact ⟨by rw [unhide HF]; rfl, rfl⟩
    · have e : k = l.length := by omega
      subst e
      have HF := hide (show decide (TextOk l) = true by simp only [decide_eq_true_eq]; exact ⟨by omega, unhide HA⟩)
      clear hc
      go_wp2
      go_ret
      exact ⟨by rw [unhide HF]; rfl, rfl⟩

theorem textI_yes (w : World) (v : Value) (l : List Int) (h : Byt w v l) (hn : TextOk l) : Calls Tryz.prog 82 #[v] w fun e w' => e = .returned (.bool true) ∧ w' = w := by
  refine (textI_any w v l h).mono ?_
  rintro e w' ⟨rfl, h⟩
  exact ⟨by simp [hn], h⟩
theorem textI_no (w : World) (v : Value) (l : List Int) (h : Byt w v l) (hn : ¬ TextOk l) : Calls Tryz.prog 82 #[v] w fun e w' => e = .returned (.bool false) ∧ w' = w := by
  refine (textI_any w v l h).mono ?_
  rintro e w' ⟨rfl, h⟩
  exact ⟨by simp [hn], h⟩

end Go.Proofs.YtkmmhlimihkgfaaGreat

/- bytes.Compare at readable rows answers the order of the bytes; bytes.Equal whether they are one. -/
namespace Go.Proofs.YtkmmhlimihkgfaaGreat
open Go.RowKit
set_option linter.unusedVariables false
set_option maxRecDepth 100000

theorem run_bytesOfB (w : World) (u : Value) (a : List Int) (h : Byt w u a) : (Extern.Bytes.bytesOf u).run Tryz.prog w = .ok ⟨(Lib.bytesOf a).toArray⟩ w := by
  obtain ⟨hoka, _, ⟨rfl, rfl⟩ | ⟨x, cap, rfl, hc, rfl⟩ | ⟨p, off, cap, rfl, h1, h2, h3, h4, h5⟩⟩ := h
  · rfl
  · rfl
  · have hl := Lib.run_loadBytesX (P := Tryz.prog) w a ⟨p, off, none⟩ .empty (fun j x hj => by
      have hjl : j < a.length := (List.getElem?_eq_some_iff.1 hj).1
      rw [add_plain, h5 j hjl, List.getD_eq_getElem?_getD, hj]; rfl)
    have he : (⟨ByteArray.empty.data ++ (Lib.bytesOf a).toArray⟩ : ByteArray) = ⟨(Lib.bytesOf a).toArray⟩ := by
      apply ByteArray.ext
      show (#[] : Array UInt8) ++ (Lib.bytesOf a).toArray = (Lib.bytesOf a).toArray
      simp
    rw [he] at hl
    exact hl

/-- The order of two rows: below 0, 0, above 0. -/
def cmpB (a b : List Int) : Int := Lib.compareBytes (Lib.bytesOf a) (Lib.bytesOf b)

theorem cmp_run (w : World) (u v : Value) (a b : List Int) (hu : Byt w u a) (hv : Byt w v b) : (callFunc 157 #[u, v]).run Tryz.prog w = .ok (.value (.int .i64 (cmpB a b))) w := by
  rw [run_callFunc_extern Tryz.func157 (by kernel_rfl) (by kernel_rfl) (by kernel_rfl) (e := Extern.BytealgCompare.compare) (by kernel_rfl)]
  have e : (Extern.BytealgCompare.compare #[u, v]).run Tryz.prog w = .ok (.int .i64 (cmpB a b)) w := by
    change Sem.run Tryz.prog (do pure (goInt (Extern.BytealgCompare.cmp (← Extern.Bytes.bytesOf u) (← Extern.Bytes.bytesOf v)))) w = _
    simp only [Sem.run_bind, Sem.run_pure, run_bytesOfB w u a hu, run_bytesOfB w v b hv, Result.andThen]
    rw [Lib.cmp_eq]
    rfl
  rw [e]
  rfl

theorem compare_less : ∀ (a b : List UInt8), Op.bytesLess a b = decide (Lib.compareBytes a b < 0)
  | [], [] => rfl
  | [], _ :: _ => rfl
  | _ :: _, [] => rfl
  | x :: a, y :: b => by
    have ih := compare_less a b
    unfold Op.bytesLess Lib.compareBytes
    by_cases h1 : x < y
    · simp [h1]
    · by_cases h2 : y < x
      · have hne : ¬ x = y := fun e => by subst e; exact h1 h2
        simp [h1, h2, hne]
      · have he : x = y := UInt8.le_antisymm (UInt8.not_lt.1 h2) (UInt8.not_lt.1 h1)
        subst he
        simp [h1, ih]
theorem lessB_cmp (a b : List Int) : lessT a b = decide (cmpB a b < 0) := by
  unfold lessT cmpB
  rw [toList_data, toList_data, str_list, str_list, compare_less]
  rfl
theorem compare_bd : ∀ (a b : List UInt8), -1 ≤ Lib.compareBytes a b ∧ Lib.compareBytes a b ≤ 1
  | [], [] => by decide
  | [], _ :: _ => by simp [Lib.compareBytes]
  | _ :: _, [] => by simp [Lib.compareBytes]
  | x :: a, y :: b => by
    have ih := compare_bd a b
    unfold Lib.compareBytes
    split
    · decide
    · split
      · decide
      · exact ih
theorem cmpB_bd (a b : List Int) : -1 ≤ cmpB a b ∧ cmpB a b ≤ 1 := compare_bd _ _

theorem cmpI_any (w : World) (u v : Value) (a b : List Int) (hu : Byt w u a) (hv : Byt w v b) :
    Calls Tryz.prog 149 #[u, v] w fun e w' => e = .returned (.int .i64 (cmpB a b)) ∧ w' = w := by
  have hr := cmp_run w u v a b hu hv
  obtain ⟨a1, k1, rfl, _⟩ := hu.shape
  obtain ⟨a2, k2, rfl, _⟩ := hv.shape
  generalize cmpB a b = c at *
  go_enter Tryz.func149, Tryz.ntmps149
  go_wp2
  go_ret
  exact ⟨rfl, rfl⟩
end Go.Proofs.YtkmmhlimihkgfaaGreat

/- impl.attrsOk answers what the plain test says. -/
namespace Go.Proofs.YtkmmhlimihkgfaaGreat
open Go.RowKit
set_option linter.unusedVariables false
set_option maxRecDepth 100000

open Classical in
set_option maxHeartbeats 3200000 in
theorem attrsI_any (w : World) (v : Value) (l : List (List Int × List Int)) (h : RdAttrs w v l) :
    Calls Tryz.prog 138 #[v] w fun e w' => e = .returned (.bool (decide (AttrsOk l))) ∧ Below w.heap.size w w' := by
  by_cases hl : 4 < l.length
  · obtain ⟨a, cap, rfl, _⟩ := Elems.shape h
    have HD := hide (show decide (AttrsOk l) = false by simp only [decide_eq_false_iff_not]; rintro ⟨_, _⟩; omega)
    have d2 : (4 : Int) < (l.length : Int) := by omega
    go_enter Tryz.func138, Tryz.ntmps138
    go_wp2_with fail
    go_ret
    exact ⟨by rw [unhide HD]; rfl, Below.refl _ _⟩
  have d2 : ¬ (4 : Int) < (l.length : Int) := by omega
  by_cases h0 : l = []
  · obtain ⟨a, cap, rfl, _⟩ := Elems.shape h
    subst h0
    have HD := hide (show decide (AttrsOk []) = true by simp only [decide_eq_true_eq]; exact ⟨by simp, fun i hi => by simp at hi⟩)
    go_enter Tryz.func138, Tryz.ntmps138
    go_wp2_with fail
    refine wp_loop_rounds 1 ?_
    rw [rounds_succ]
    go_wp2_with fail
    go_ret
    exact ⟨by rw [unhide HD]; rfl, Below.refl _ _⟩
  obtain ⟨_, ⟨_, e⟩ | ⟨_, _, _, _, e⟩ | ⟨b, off, cap, rfl, g1, g2, g3, g4, g5⟩⟩ := h
  · exact absurd e h0
  · exact absurd e h0
  go_enter Tryz.func138, Tryz.ntmps138
  go_wp2_with fail
  go_loopw [10] (fun i wr => ∃ k : Nat, k ≤ l.length ∧ i = .int .i64 k ∧ (∀ i, i < k → attrAt l i) ∧ Below w.heap.size w wr) (fun i _ => l.length - (intOf i).toNat)
  case atStart => exact ⟨0, Nat.zero_le _, rfl, fun i hi => by omega, Below.refl _ _⟩
  case round =>
    obtain ⟨k, hk, rfl, ha, hB⟩ := hrel
    have HA := hide ha
    clear ha
    by_cases hlt : k < l.length
    · obtain ⟨c0, c1, e0, e1, hc⟩ := two_of (g5 k hlt)
      obtain ⟨_, _, ee, hc0, hc1⟩ := hc
      simp only [List.cons.injEq, and_true] at ee
      obtain ⟨rfl, rfl⟩ := ee
      replace e0 := (hB.cell (p := ⟨b, off + k * 2, none⟩) g4).trans e0
      replace e1 := (hB.cell (p := ⟨b, off + k * 2 + 1, none⟩) g4).trans e1
      replace hc0 := hc0.keep hB
      replace hc1 := hc1.keep hB
      have hlt' : (k : Int) < (l.length : Int) := by omega
      have hk0 : (0 : Int) ≤ (k : Int) := by omega
      obtain ⟨x, hx⟩ : ∃ x, x = l[k] := ⟨_, rfl⟩
      rw [← hx] at hc0 hc1
      have hgd : l.getD k ([], []) = x := by rw [hx]; simp [hlt]
      obtain ⟨a0, n0, hv0, _, _⟩ := hc0.shape
      obtain ⟨a1, n1, hv1, _, _⟩ := hc1.shape
      subst hv0 hv1
      have HGD := hide hgd
      have HX := hide hx
      clear hgd hx
      have hB1 : Below wr.heap.size wr (wr.alloc (.cells #[.slice a0 x.1.length n0, .slice a1 x.2.length n1] 157)) := (Below.refl _ _).alloc (Nat.le_refl _) _
      have l1 := Loc.made wr #[.slice a0 x.1.length n0, .slice a1 x.2.length n1] 157
      have hcell : ∀ j, j < l.length → ∃ y : Value, y ∈ [y] ∧ wr.cell? ⟨b, off + j * 2, none⟩ = some y ∧ Byt wr y (l.getD j ([], [])).1 := by
        intro j hj
        obtain ⟨p0, p1, u0, u1, hp⟩ := two_of (g5 j hj)
        obtain ⟨_, _, ee, hp0, hp1⟩ := hp
        simp only [List.cons.injEq, and_true] at ee
        obtain ⟨rfl, rfl⟩ := ee
        exact ⟨_, by simp, (hB.cell (p := ⟨b, off + j * 2, none⟩) g4).trans u0, by rw [show l.getD j ([], []) = l[j] by simp [hj]]; exact hp0.keep hB⟩
      have HC := hide hcell
      clear hcell g5
      have hbs : b < wr.heap.size := Nat.lt_of_lt_of_le g4 hB.size
      generalize hn0 : x.1.length = m0 at *
      generalize hn1 : x.2.length = m1 at *
      clear hn0 hn1
      go_wp2_with fail
      generalize wr.alloc (.cells #[.slice a0 m0 n0, .slice a1 m1 n1] 157) = w1 at *
      have c0 : w1.cell? ⟨wr.heap.size, 0, none⟩ = some (.slice a0 m0 n0) := l1.cell 0
      have c1 : w1.cell? ⟨wr.heap.size, 1, none⟩ = some (.slice a1 m1 n1) := l1.cell 1
      have hA1 := bstep hB hB1
      have HB1 := hide hB1
      clear hB1 e0 e1
      refine (nameI_any w1 _ x.1 (hc0.keep (unhide HB1))).mono ?_
      rintro e w1 ⟨rfl, rfl⟩
      by_cases hn : NameOk x.1
      · rw [show decide (NameOk x.1) = true by simpa using hn]
        go_wp2_with fail
        refine (textI_any w1 _ x.2 (hc1.keep (unhide HB1))).mono ?_
        rintro e w1 ⟨rfl, rfl⟩
        by_cases ht : TextOk x.2
        · rw [show decide (TextOk x.2) = true by simpa using ht]
          by_cases hkz : k = 0
          · have HT := hide (show attrAt l k from ⟨by rw [unhide HGD]; exact hn, by rw [unhide HGD]; exact ht, fun h => by omega⟩)
            subst hkz
            clear hn ht HC HX HGD hc0 hc1 HB1
            go_wp2_with fail
            go_quiet (fail)
            go_wp2_with fail
            go_roundw
            case rel => exact ⟨1, by omega, by go_num, fun i hi => by obtain rfl : i = 0 := (by omega); exact unhide HT, below_drewN hA1 _⟩
            case measure => simp [intOf]; omega
          · obtain ⟨y, _, u0, hp0⟩ := unhide HC (k - 1) (by omega)
            have hB1 := unhide HB1
            replace u0 := (hB1.cell (p := ⟨b, off + (k - 1) * 2, none⟩) hbs).trans u0
            replace hp0 := hp0.keep hB1
            have hx0 := hc0.keep hB1
            generalize hy : (l.getD (k - 1) ([], [])).1 = yl at *
            obtain ⟨a2, n2, hv2, _, _⟩ := hp0.shape
            subst hv2
            generalize yl.length = m2 at *
            have hkp : 0 < k := by omega
            have hkd : decide (0 < k) = true := by simp; omega
            have hk1 : (0 : Int) ≤ (k : Int) - 1 := by omega
            have hk2 : (k : Int) - 1 < (l.length : Int) := by omega
            have hk3 : ((k : Int) - 1).toNat = k - 1 := by omega
            have hcq : ∀ q, Calls Tryz.prog 149 #[.slice a2 m2 n2, .slice a0 m0 n0] (w1.drewN q) fun e w' => e = .returned (.int .i64 (cmpB yl x.1)) ∧ w' = w1.drewN q := fun q => cmpI_any _ _ _ _ _ (hp0.keep (below_drewN (Below.refl _ _) q)) (hx0.keep (below_drewN (Below.refl _ _) q))
            have HQ := hide hcq
            have hlc := lessB_cmp yl x.1
            by_cases hl2 : lessT yl x.1 = true
            · have HT := hide (show attrAt l k from ⟨by rw [unhide HGD]; exact hn, by rw [unhide HGD]; exact ht, fun _ => by rw [unhide HGD, hy]; exact hl2⟩)
              have hcz : decide (0 ≤ cmpB yl x.1) = false := by rw [hlc] at hl2; simp at hl2 ⊢; omega
              have hcz' : ¬ 0 ≤ cmpB yl x.1 := by simpa using hcz
              clear hn ht HX HGD hc0 hc1 HB1 HC hcq hlc hl2 hy hp0 hx0 hB1
              generalize cmpB yl x.1 = cm at *
              go_wp2_with fail
              go_quiet ((go_at_call 149; exact Calls.quiet_of_same (unhide HQ _)))
              go_wp2_with fail
              go_roundw
              case rel => exact ⟨k + 1, by omega, by go_num, fun i hi => step_all (unhide HA) (unhide HT) i hi, below_drewN hA1 _⟩
              case measure => simp [intOf]; omega
            · have HF := hide (show decide (AttrsOk l) = false by
                simp only [decide_eq_false_iff_not]
                rintro ⟨_, h⟩
                exact hl2 (by have := (h k hlt).2.2 (by omega); rwa [unhide HGD, hy] at this))
              have hcz : decide (0 ≤ cmpB yl x.1) = true := by rw [hlc] at hl2; simp at hl2 ⊢; omega
              have hcz' : 0 ≤ cmpB yl x.1 := by simpa using hcz
              clear hn ht HX HGD hc0 hc1 HB1 HC hcq hlc hl2 hy hp0 hx0 hB1
              generalize cmpB yl x.1 = cm at *
              go_wp2_with fail
              go_quiet ((go_at_call 149; exact Calls.quiet_of_same (unhide HQ _)))
              go_wp2_with fail
              go_ret
              exact ⟨by rw [unhide HF]; rfl, below_drewN hA1 _⟩
        · rw [show decide (TextOk x.2) = false by simpa using ht]
          have HF := hide (show decide (AttrsOk l) = false by
            simp only [decide_eq_false_iff_not]
            rintro ⟨_, h⟩
            exact ht (by have := (h k hlt).2.1; rwa [unhide HGD] at this))
          clear hn ht
          go_wp2_with fail
          go_ret
          exact ⟨by rw [unhide HF]; rfl, hA1⟩
      · have hd : decide (NameOk x.1) = false := by simpa using hn
        rw [hd]
        have HF := hide (show decide (AttrsOk l) = false by
          simp only [decide_eq_false_iff_not]
          rintro ⟨_, h⟩
          exact hn (by have := (h k hlt).1; rwa [unhide HGD] at this))
        clear hn hd
        go_wp2_with fail
        go_ret
        exact ⟨by rw [unhide HF]; rfl, hA1⟩
    · have e : k = l.length := by omega
      subst e
      have HF := hide (show decide (AttrsOk l) = true by simp only [decide_eq_true_eq]; exact ⟨by omega, unhide HA⟩)
      clear g5
      go_wp2_with fail
      go_ret
      exact ⟨by rw [unhide HF]; rfl, hB⟩
end Go.Proofs.YtkmmhlimihkgfaaGreat
