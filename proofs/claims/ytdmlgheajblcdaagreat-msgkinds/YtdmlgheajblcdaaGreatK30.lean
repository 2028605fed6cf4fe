/- Layer 10: the law Kinds. -/
import Derived.Test.YtdmlgheajblcdaaGreatK29
import Derived.Test.YtdmlgheajblcdaaGreatK16
import Derived.Test.YtdmlgheajblcdaaGreatK15
import Derived.WalkKit
import Derived.ProofKit
import Derived.Handy
import Derived.WalkLawsBesides
import Derived.WalkSpells
import Derived.BigQuiet
import Derived.BigCall
import Derived.Deep.QuietTactic
import Derived.Deep.Light
import Derived.Deep.OwnRows
import Derived.Laws.AppendOwnNone
import Derived.Laws.Strings3
import Derived.Laws.RangeAny
import Derived.Deep.RegionWith
import Derived.Lib.BitFns
import Derived.Lib.Walk
import Derived.Lib.Strings
import Derived.Lib.OthersKept
import Derived.Deep.CutBlock
import Derived.Deep.DeepCutAuto
import Derived.Deep.LoopGhost
import Derived.Deep.RegionHeld3
import Derived.Lib.SmallJoins
import Derived.Maps.AppendAt
import Derived.Laws.IdiomStrings
import Derived.Lib.AppendZeros
import Derived.Deep.WholeRow
import Derived.Laws.BitsAllLaws
import Derived.Lib.ConvBytes
import Derived.Deep.RegionLaw
namespace Go.Proofs.YtdmlgheajblcdaaGreat
open Go.RowKit
set_option linter.unusedVariables false
set_option linter.unusedSimpArgs false
set_option maxRecDepth 100000
theorem load30z (W : World) (b : Nat) (v0 v1 v2 v3 v4 v5 v6 v7 : Value) (c0 : W.cell? ⟨b, 0, none⟩ = some v0) (c1 : W.cell? ⟨b, 1, none⟩ = some v1) (c2 : W.cell? ⟨b, 2, none⟩ = some v2) (c3 : W.cell? ⟨b, 3, none⟩ = some v3) (c4 : W.cell? ⟨b, 4, none⟩ = some v4) (c5 : W.cell? ⟨b, 5, none⟩ = some v5) (c6 : W.cell? ⟨b, 6, none⟩ = some v6) (c7 : W.cell? ⟨b, 7, none⟩ = some v7) : (Instr.loadAt 30 (.pointer (some ⟨b, 0, none⟩))).run Tryz.prog W = .ok (.agg #[v0, v1, v2, v3, v4, v5, v6, v7]) W := by
  go_simp
theorem field63 (x0 x1 x2 x3 x4 x5 x6 x7 : Int) (w : World) : (Instr.field 63 (.agg #[.int .i64 x0, .int .i64 x1, .int .i64 x2, .int .i64 x3, .int .i64 x4, .int .i64 x5, .int .i64 x6, .int .i64 x7]) 0).run Tryz.prog w = .ok (.agg #[.int .i64 x0, .int .i64 x1, .int .i64 x2, .int .i64 x3, .int .i64 x4, .int .i64 x5, .int .i64 x6, .int .i64 x7]) w := by kernel_rfl
structure Kn (m : Mg) (pa ia ca ba : Option Addr) (pc ic cc bc : Nat) (w : World) (po ps : Nat) (A S : Array Value) (u : Value) (xs : List Lt) (W : World) : Prop where
  b : Bx W w.heap.size (mcs m pa ia ca ba pc ic cc bc) 35
  o : Bx W po A 63
  s : Bx W ps S 67
  ow : W.ownsRow w.heap.size 32 2 u xs.length (lcells xs)
  c : Below w.heap.size w W
section
variable {m : Mg} {pa ia ca ba : Option Addr} {pc ic cc bc : Nat} {w : World} {po ps : Nat} {A S : Array Value} {u : Value} {xs : List Lt} {W W2 : World}
theorem Kn.keep (h : Kn m pa ia ca ba pc ic cc bc w po ps A S u xs W) (hb : Below W.heap.size W W2) : Kn m pa ia ca ba pc ic cc bc w po ps A S u xs W2 := ⟨h.b.keep hb, h.o.keep hb, h.s.keep hb, own_below h.ow hb, bt h.c hb⟩
theorem Kn.drewN (h : Kn m pa ia ca ba pc ic cc bc w po ps A S u xs W) (n : Nat) : Kn m pa ia ca ba pc ic cc bc w po ps A S u xs (W.drewN n) := ⟨h.b, h.o, h.s, h.ow, bdrw h.c n⟩
end
end Go.Proofs.YtdmlgheajblcdaaGreat

/- Layer 10: the law Kinds, every kind. -/
namespace Go.Proofs.YtdmlgheajblcdaaGreat
open Go.RowKit
set_option linter.unusedVariables false
set_option linter.unusedSimpArgs false
set_option maxRecDepth 100000
set_option maxHeartbeats 8000000 in
theorem lKin8 (m : Mg) (pa ia ca ba : Option Addr) (pc ic cc bc : Nat) (hk : m.k = 8)  (w : World) (hH : Hld w.heap.size w m pa ia ca ba) (hZ : Szd m) (hn : m.ins.length ≤ 100)
    (hsm : ∀ W, Calls Tryz.prog 9 #[.agg (mcs m pa ia ca ba pc ic cc bc)] W (KP (.bool true) W)) (hof : ∀ W, Calls Tryz.prog 11 #[.agg (mcs m pa ia ca ba pc ic cc bc)] W (KP (.iface 63 (.agg #[.int .i64 m.q.id, .int .i64 m.q.mem, .int .i64 m.q.side, .int .i64 m.q.bas, .int .i64 m.q.am, .int .i64 m.q.rate, .int .i64 m.q.st, .int .i64 m.q.en])) W)) : Calls Tryz.prog 8 #[.agg (mcs m pa ia ca ba pc ic cc bc)] w (KP (.bool true) w) := by
  have HSM : Hid (∀ W, Calls Tryz.prog 9 #[.agg (mcs m pa ia ca ba pc ic cc bc)] W (KP (.bool true) W)) := hsm
  have HOF : Hid (∀ W, Calls Tryz.prog 11 #[.agg (mcs m pa ia ca ba pc ic cc bc)] W (KP (.iface 63 (.agg #[.int .i64 m.q.id, .int .i64 m.q.mem, .int .i64 m.q.side, .int .i64 m.q.bas, .int .i64 m.q.am, .int .i64 m.q.rate, .int .i64 m.q.st, .int .i64 m.q.en])) W)) := hof
  have HL : Hid (Lts w.heap.size w ia m.ins) := hH.ins
  have HC25 : Hid (∀ W, Calls Tryz.prog 25 #[.iface 63 (.agg #[.int .i64 m.q.id, .int .i64 m.q.mem, .int .i64 m.q.side, .int .i64 m.q.bas, .int .i64 m.q.am, .int .i64 m.q.rate, .int .i64 m.q.st, .int .i64 m.q.en])] W (KP (.tuple #[.agg #[.int .i64 m.q.id, .int .i64 m.q.mem, .int .i64 m.q.side, .int .i64 m.q.bas, .int .i64 m.q.am, .int .i64 m.q.rate, .int .i64 m.q.st, .int .i64 m.q.en], .bool true]) W)) := fun W => asOffer _ _ _ _ _ _ _ _ _ true (fun w => ty8 w _) W
  have HC26 : Hid (∀ W, Below w.heap.size w W → Calls Tryz.prog 26 #[.iface 63 (.agg #[.int .i64 m.q.id, .int .i64 m.q.mem, .int .i64 m.q.side, .int .i64 m.q.bas, .int .i64 m.q.am, .int .i64 m.q.rate, .int .i64 m.q.st, .int .i64 m.q.en])] W (AsP 0 0 ⟨#[]⟩ 0 [] false W)) := fun W hb => asSwap _ 0 0 ⟨#[]⟩ 0 [] none 0 false (fun w => tn8_11 w _) W (fun h => absurd h (by decide)) (by decide) (fun y hy => absurd hy (by simp)) (by decide)
  have HC27 : Hid (∀ W, Calls Tryz.prog 27 #[.iface 63 (.agg #[.int .i64 m.q.id, .int .i64 m.q.mem, .int .i64 m.q.side, .int .i64 m.q.bas, .int .i64 m.q.am, .int .i64 m.q.rate, .int .i64 m.q.st, .int .i64 m.q.en])] W (KP (.agg #[.int .i64 m.q.id, .int .i64 m.q.mem, .int .i64 m.q.side, .int .i64 m.q.bas, .int .i64 m.q.am, .int .i64 m.q.rate, .int .i64 m.q.st, .int .i64 m.q.en]) W)) := fun W => mustOffer _ _ _ _ _ _ _ _ W
  have HX0 : Hid (Bx (w.alloc (.cells (mcs m pa ia ca ba pc ic cc bc) 35)) w.heap.size (mcs m pa ia ca ba pc ic cc bc) 35) := Bx.new _ _ _
  have HB0 : Hid (Below w.heap.size w (w.alloc (.cells (mcs m pa ia ca ba pc ic cc bc) 35))) := below_a w _
  have HLD : Hid (∀ W, Bx W w.heap.size (mcs m pa ia ca ba pc ic cc bc) 35 → (Instr.loadAt 35 (.pointer (some ⟨w.heap.size, 0, none⟩))).run Tryz.prog W = .ok (.agg (mcs m pa ia ca ba pc ic cc bc)) W) := fun W h => hloadAt W w.heap.size _ (mcs_size _ _ _ _ _ _ _ _ _) h
  have HK0 : Hid (∀ W, Bx W w.heap.size (mcs m pa ia ca ba pc ic cc bc) 35 → W.cell? ⟨w.heap.size, 0, none⟩ = some (.int .i64 8)) := fun W h => by have := h.cell 0; rw [show (mcs m pa ia ca ba pc ic cc bc)[0]? = some (.int .i64 m.k) from rfl, hk] at this; exact this
  clear hsm hof hH hZ hk
  go_enter Tryz.func8, Tryz.ntmps8
  go_upto_region 1 with fail
  generalize hw1 : w.alloc (.cells (mcs m pa ia ca ba pc ic cc bc) 35) = w1 at *
  have HX : Hid (Bx w1 w.heap.size (mcs m pa ia ca ba pc ic cc bc) 35) := HX0.out
  have HB : Hid (Below w.heap.size w w1) := HB0.out
  clear HX0 HB0 hw1
  go_wp2_with (guard_target =~ wpList _ _ _ (⟨_, Op.load 35 _, _, _, _, _⟩ :: _) _ _; refine wl_load _ rfl 35 _ rfl _ rfl _ (HLD.out _ HX.out) ?_; go_simp)
  refine (HSM.out _).mono ?_
  rintro e w2 ⟨rfl, hb2⟩
  have HX2 : Hid (Bx w2 w.heap.size (mcs m pa ia ca ba pc ic cc bc) 35) := HX.out.keep hb2.out
  have HB2 : Hid (Below w.heap.size w w2) := bt HB.out hb2.out
  clear hb2 HX HB
  go_wp2_with (guard_target =~ wpList _ _ _ (⟨_, Op.load 35 _, _, _, _, _⟩ :: _) _ _; refine wl_load _ rfl 35 _ rfl _ rfl _ (HLD.out _ HX2.out) ?_; go_simp)
  refine (HOF.out _).mono ?_
  rintro e w3 ⟨rfl, hb3⟩
  have HX3 : Hid (Bx w3 w.heap.size (mcs m pa ia ca ba pc ic cc bc) 35) := HX2.out.keep hb3.out
  have HB3 : Hid (Below w.heap.size w w3) := bt HB2.out hb3.out
  clear hb3 HX2 HB2
  go_wp2_with fail
  refine (HC25.out _).mono ?_
  rintro e w4 ⟨rfl, hb4⟩
  have HX5 : Hid (Bx (w4.alloc (.cells #[.int .i64 m.q.id, .int .i64 m.q.mem, .int .i64 m.q.side, .int .i64 m.q.bas, .int .i64 m.q.am, .int .i64 m.q.rate, .int .i64 m.q.st, .int .i64 m.q.en] 63)) w.heap.size (mcs m pa ia ca ba pc ic cc bc) 35) := (HX3.out.keep hb4.out).keep (below_a _ _)
  have HO5 : Hid (Bx (w4.alloc (.cells #[.int .i64 m.q.id, .int .i64 m.q.mem, .int .i64 m.q.side, .int .i64 m.q.bas, .int .i64 m.q.am, .int .i64 m.q.rate, .int .i64 m.q.st, .int .i64 m.q.en] 63)) w4.heap.size #[.int .i64 m.q.id, .int .i64 m.q.mem, .int .i64 m.q.side, .int .i64 m.q.bas, .int .i64 m.q.am, .int .i64 m.q.rate, .int .i64 m.q.st, .int .i64 m.q.en] 63) := Bx.new _ _ _
  have HB5 : Hid (Below w.heap.size w (w4.alloc (.cells #[.int .i64 m.q.id, .int .i64 m.q.mem, .int .i64 m.q.side, .int .i64 m.q.bas, .int .i64 m.q.am, .int .i64 m.q.rate, .int .i64 m.q.st, .int .i64 m.q.en] 63))) := bt (bt HB3.out hb4.out) (below_a _ _)
  clear hb4 HX3 HB3 HC25
  go_upto_region 5 with fail
  generalize w4.alloc (.cells #[.int .i64 m.q.id, .int .i64 m.q.mem, .int .i64 m.q.side, .int .i64 m.q.bas, .int .i64 m.q.am, .int .i64 m.q.rate, .int .i64 m.q.st, .int .i64 m.q.en] 63) = w5 at *
  generalize w4.heap.size = po at *
  go_wp2_with fail
  refine (HC26.out _ HB5.out).mono ?_
  rintro e w6 ⟨sa, sc, rfl, HOw, hb6⟩
  have HKn : Hid (Kn m pa ia ca ba pc ic cc bc w po w6.heap.size #[.int .i64 m.q.id, .int .i64 m.q.mem, .int .i64 m.q.side, .int .i64 m.q.bas, .int .i64 m.q.am, .int .i64 m.q.rate, .int .i64 m.q.st, .int .i64 m.q.en] #[.int .i64 0, .int .i64 0, .string ⟨#[]⟩, .int .i64 0, .slice sa 0 sc] (.slice sa 0 sc) [] (w6.alloc (.cells #[.int .i64 0, .int .i64 0, .string ⟨#[]⟩, .int .i64 0, .slice sa 0 sc] 67))) := ⟨(HX5.out.keep hb6.out).keep (below_a _ _), (HO5.out.keep hb6.out).keep (below_a _ _), Bx.new _ _ _, own_below (own_mono HOw.out HB5.out.size) (below_a _ _), bt (bt HB5.out hb6.out) (below_a _ _)⟩
  clear hb6 HX5 HO5 HB5 HOw HC26
  go_upto_region 6 with fail
  have eL : ([] : List Lt).length = 0 := rfl
  try simp only [eL]
  generalize w6.alloc (.cells #[.int .i64 0, .int .i64 0, .string ⟨#[]⟩, .int .i64 0, .slice sa 0 sc] 67) = w7 at *
  generalize w6.heap.size = ps at *
  clear eL
  have c0 : w7.cell? ⟨w.heap.size, 0, none⟩ = some (.int .i64 8) := HK0.out _ HKn.out.b
  go_wp2_with fail
  refine wp_region_held (S := fun W => Kn m pa ia ca ba pc ic cc bc w po ps #[.int .i64 m.q.id, .int .i64 m.q.mem, .int .i64 m.q.side, .int .i64 m.q.bas, .int .i64 m.q.am, .int .i64 m.q.rate, .int .i64 m.q.st, .int .i64 m.q.en] #[.int .i64 0, .int .i64 0, .string ⟨#[]⟩, .int .i64 0, .slice sa 0 sc] (.slice sa 0 sc) [] W) (by kernel_rfl) ?_
  change wpAnyH _ _ _ _ _ 26 #[false, false, false, false, false, false, false, false, false, false, false, false, false, false, false, false, false, false, false, false, false, false, false, false, false, false] _ w7.drew
  have hS : Kn m pa ia ca ba pc ic cc bc w po ps #[.int .i64 m.q.id, .int .i64 m.q.mem, .int .i64 m.q.side, .int .i64 m.q.bas, .int .i64 m.q.am, .int .i64 m.q.rate, .int .i64 m.q.st, .int .i64 m.q.en] #[.int .i64 0, .int .i64 0, .string ⟨#[]⟩, .int .i64 0, .slice sa 0 sc] (.slice sa 0 sc) [] w7.drew := HKn.out.drewN 1
  clear HKn c0
  obtain ⟨v0, hv0⟩ : ∃ v, v = w7.drew := ⟨_, rfl⟩
  rw [← hv0] at hS ⊢
  clear hv0
  refine takeR (fuel := 25) (i := 0) (v := .bool true) rfl (by kernel_rfl) (by kernel_rfl) (by kernel_rfl) (fun _ _ _ h => h) (Or.inl ⟨rfl, fun _ _ => rfl⟩) hS ?_
  simp only [Act.put, List.setIfInBounds_toArray, List.set_cons_zero, List.set_cons_succ]
  refine takeR (fuel := 24) (i := 1) (v := .bool true) rfl (by kernel_rfl) (by kernel_rfl) (by kernel_rfl) (fun _ _ _ h => h) (Or.inl ⟨rfl, fun _ _ => rfl⟩) hS ?_
  simp only [Act.put, List.setIfInBounds_toArray, List.set_cons_zero, List.set_cons_succ]
  refine takeR (fuel := 23) (i := 2) (v := .pointer (some ⟨po, 0, none⟩)) rfl (by kernel_rfl) (by kernel_rfl) (by kernel_rfl) (fun _ _ _ h => h) (Or.inl ⟨rfl, fun W hW => by go_simp⟩) hS ?_
  simp only [Act.put, List.setIfInBounds_toArray, List.set_cons_zero, List.set_cons_succ]
  refine takeR (fuel := 22) (i := 3) (v := .agg #[.int .i64 m.q.id, .int .i64 m.q.mem, .int .i64 m.q.side, .int .i64 m.q.bas, .int .i64 m.q.am, .int .i64 m.q.rate, .int .i64 m.q.st, .int .i64 m.q.en]) rfl (by kernel_rfl) (by kernel_rfl) (by kernel_rfl) (fun _ _ _ h => h) (Or.inl ⟨rfl, fun W hW => exl _ _ _ _ rfl _ _ rfl (load30z W _ _ _ _ _ _ _ _ _ (hW.o.cell 0) (hW.o.cell 1) (hW.o.cell 2) (hW.o.cell 3) (hW.o.cell 4) (hW.o.cell 5) (hW.o.cell 6) (hW.o.cell 7))⟩) hS ?_
  simp only [Act.put, List.setIfInBounds_toArray, List.set_cons_zero, List.set_cons_succ]
  refine takeR (fuel := 21) (i := 4) (v := .pointer (some ⟨w.heap.size, 22, none⟩)) rfl (by kernel_rfl) (by kernel_rfl) (by kernel_rfl) (fun _ _ _ h => h) (Or.inl ⟨rfl, fun W hW => by go_simp⟩) hS ?_
  simp only [Act.put, List.setIfInBounds_toArray, List.set_cons_zero, List.set_cons_succ]
  refine takeR (fuel := 20) (i := 5) (v := .agg #[.int .i64 m.q.id, .int .i64 m.q.mem, .int .i64 m.q.side, .int .i64 m.q.bas, .int .i64 m.q.am, .int .i64 m.q.rate, .int .i64 m.q.st, .int .i64 m.q.en]) rfl (by kernel_rfl) (by kernel_rfl) (by kernel_rfl) (fun _ _ _ h => h) (Or.inl ⟨rfl, fun W hW => exl _ _ _ _ rfl _ _ rfl (load30 W _ _ _ _ _ _ _ _ _ (hW.b.cell 22) (hW.b.cell 23) (hW.b.cell 24) (hW.b.cell 25) (hW.b.cell 26) (hW.b.cell 27) (hW.b.cell 28) (hW.b.cell 29))⟩) hS ?_
  simp only [Act.put, List.setIfInBounds_toArray, List.set_cons_zero, List.set_cons_succ]
  refine takeR (fuel := 19) (i := 6) (v := .bool false) rfl (by kernel_rfl) (by kernel_rfl) (by kernel_rfl) (fun _ _ _ h => h) (Or.inl ⟨rfl, fun W hW => by go_simp⟩) hS ?_
  simp only [Act.put, List.setIfInBounds_toArray, List.set_cons_zero, List.set_cons_succ]
  refine takeR (fuel := 18) (i := 7) (v := .bool false) rfl (by kernel_rfl) (by kernel_rfl) (by kernel_rfl) (fun _ _ _ h => h) (Or.inl ⟨rfl, fun _ _ => rfl⟩) hS ?_
  simp only [Act.put, List.setIfInBounds_toArray, List.set_cons_zero, List.set_cons_succ]
  refine takeR (fuel := 17) (i := 8) (v := .iface 63 (.agg #[.int .i64 m.q.id, .int .i64 m.q.mem, .int .i64 m.q.side, .int .i64 m.q.bas, .int .i64 m.q.am, .int .i64 m.q.rate, .int .i64 m.q.st, .int .i64 m.q.en])) rfl (by kernel_rfl) (by kernel_rfl) (by kernel_rfl) (fun _ _ _ h => h) (Or.inl ⟨rfl, fun _ _ => rfl⟩) hS ?_
  simp only [Act.put, List.setIfInBounds_toArray, List.set_cons_zero, List.set_cons_succ]
  refine takeR (fuel := 16) (i := 11) (v := .pointer (some ⟨w.heap.size, 22, none⟩)) rfl (by kernel_rfl) (by kernel_rfl) (by kernel_rfl) (fun _ _ _ h => h) (Or.inl ⟨rfl, fun W hW => by go_simp⟩) hS ?_
  simp only [Act.put, List.setIfInBounds_toArray, List.set_cons_zero, List.set_cons_succ]
  refine takeR (fuel := 15) (i := 12) (v := .agg #[.int .i64 m.q.id, .int .i64 m.q.mem, .int .i64 m.q.side, .int .i64 m.q.bas, .int .i64 m.q.am, .int .i64 m.q.rate, .int .i64 m.q.st, .int .i64 m.q.en]) rfl (by kernel_rfl) (by kernel_rfl) (by kernel_rfl) (fun _ _ _ h => h) (Or.inl ⟨rfl, fun W hW => exl _ _ _ _ rfl _ _ rfl (load30 W _ _ _ _ _ _ _ _ _ (hW.b.cell 22) (hW.b.cell 23) (hW.b.cell 24) (hW.b.cell 25) (hW.b.cell 26) (hW.b.cell 27) (hW.b.cell 28) (hW.b.cell 29))⟩) hS ?_
  simp only [Act.put, List.setIfInBounds_toArray, List.set_cons_zero, List.set_cons_succ]
  refine consR (fuel := 14) (i := 9) rfl (by kernel_rfl) (fun K hK => ?_)
  rw [if_pos (by rfl)]
  go_simp
  refine (HC27.out _).mono ?_
  rintro e w8 ⟨rfl, hb8⟩
  refine hK.out _ _ (hS.keep hb8.out) (fun hS8 => ?_)
  clear hK
  try simp only [Act.put, List.setIfInBounds_toArray, List.set_cons_zero, List.set_cons_succ]
  refine takeR (fuel := 13) (i := 10) (v := .agg #[.int .i64 m.q.id, .int .i64 m.q.mem, .int .i64 m.q.side, .int .i64 m.q.bas, .int .i64 m.q.am, .int .i64 m.q.rate, .int .i64 m.q.st, .int .i64 m.q.en]) rfl (by kernel_rfl) (by kernel_rfl) (by kernel_rfl) (fun _ _ _ h => h) (Or.inl ⟨rfl, fun W hW => by have hf := field63 m.q.id m.q.mem m.q.side m.q.bas m.q.am m.q.rate m.q.st m.q.en W; go_simp⟩) hS8 ?_
  simp only [Act.put, List.setIfInBounds_toArray, List.set_cons_zero, List.set_cons_succ]
  refine takeR (fuel := 12) (i := 13) (v := .bool false) rfl (by kernel_rfl) (by kernel_rfl) (by kernel_rfl) (fun _ _ _ h => h) (Or.inl ⟨rfl, fun W hW => by go_simp⟩) hS8 ?_
  simp only [Act.put, List.setIfInBounds_toArray, List.set_cons_zero, List.set_cons_succ]
  refine takeR (fuel := 11) (i := 14) (v := .bool false) rfl (by kernel_rfl) (by kernel_rfl) (by kernel_rfl) (fun _ _ _ h => h) (Or.inl ⟨rfl, fun _ _ => rfl⟩) hS8 ?_
  simp only [Act.put, List.setIfInBounds_toArray, List.set_cons_zero, List.set_cons_succ]
  refine takeR (fuel := 10) (i := 15) (v := .bool false) rfl (by kernel_rfl) (by kernel_rfl) (by kernel_rfl) (fun _ _ _ h => h) (Or.inl ⟨rfl, fun _ _ => rfl⟩) hS8 ?_
  simp only [Act.put, List.setIfInBounds_toArray, List.set_cons_zero, List.set_cons_succ]
  refine takeR (fuel := 9) (i := 16) (v := .bool false) rfl (by kernel_rfl) (by kernel_rfl) (by kernel_rfl) (fun _ _ _ h => h) (Or.inl ⟨rfl, fun _ _ => rfl⟩) hS8 ?_
  simp only [Act.put, List.setIfInBounds_toArray, List.set_cons_zero, List.set_cons_succ]
  refine takeR (fuel := 8) (i := 17) (v := .bool true) rfl (by kernel_rfl) (by kernel_rfl) (by kernel_rfl) (fun _ _ _ h => h) (Or.inl ⟨rfl, fun _ _ => rfl⟩) hS8 ?_
  simp only [Act.put, List.setIfInBounds_toArray, List.set_cons_zero, List.set_cons_succ]
  refine takeR (fuel := 7) (i := 18) (v := .bool false) rfl (by kernel_rfl) (by kernel_rfl) (by kernel_rfl) (fun _ _ _ h => h) (Or.inl ⟨rfl, fun W hW => by go_simp⟩) hS8 ?_
  simp only [Act.put, List.setIfInBounds_toArray, List.set_cons_zero, List.set_cons_succ]
  refine takeR (fuel := 6) (i := 19) (v := .bool false) rfl (by kernel_rfl) (by kernel_rfl) (by kernel_rfl) (fun _ _ _ h => h) (Or.inl ⟨rfl, fun _ _ => rfl⟩) hS8 ?_
  simp only [Act.put, List.setIfInBounds_toArray, List.set_cons_zero, List.set_cons_succ]
  refine takeR (fuel := 5) (i := 20) (v := undef) rfl (by kernel_rfl) (by kernel_rfl) (by kernel_rfl) (fun _ _ _ h => h) (Or.inr ⟨rfl, rfl⟩) hS8 ?_
  simp only [Act.put, List.setIfInBounds_toArray, List.set_cons_zero, List.set_cons_succ]
  refine takeR (fuel := 4) (i := 21) (v := undef) rfl (by kernel_rfl) (by kernel_rfl) (by kernel_rfl) (fun _ _ _ h => h) (Or.inr ⟨rfl, rfl⟩) hS8 ?_
  simp only [Act.put, List.setIfInBounds_toArray, List.set_cons_zero, List.set_cons_succ]
  refine takeR (fuel := 3) (i := 22) (v := undef) rfl (by kernel_rfl) (by kernel_rfl) (by kernel_rfl) (fun _ _ _ h => h) (Or.inr ⟨rfl, rfl⟩) hS8 ?_
  simp only [Act.put, List.setIfInBounds_toArray, List.set_cons_zero, List.set_cons_succ]
  refine takeR (fuel := 2) (i := 23) (v := undef) rfl (by kernel_rfl) (by kernel_rfl) (by kernel_rfl) (fun _ _ _ h => h) (Or.inr ⟨rfl, rfl⟩) hS8 ?_
  simp only [Act.put, List.setIfInBounds_toArray, List.set_cons_zero, List.set_cons_succ]
  refine takeR (fuel := 1) (i := 24) (v := .bool false) rfl (by kernel_rfl) (by kernel_rfl) (by kernel_rfl) (fun _ _ _ h => h) (Or.inl ⟨rfl, fun _ _ => rfl⟩) hS8 ?_
  simp only [Act.put, List.setIfInBounds_toArray, List.set_cons_zero, List.set_cons_succ]
  refine takeR (fuel := 0) (i := 25) (v := .bool false) rfl (by kernel_rfl) (by kernel_rfl) (by kernel_rfl) (fun _ _ _ h => h) (Or.inl ⟨rfl, fun _ _ => rfl⟩) hS8 ?_
  simp only [Act.put, List.setIfInBounds_toArray, List.set_cons_zero, List.set_cons_succ]
  refine wpAnyH_done (by kernel_rfl) ?_ _
  have HKn : Hid (Kn m pa ia ca ba pc ic cc bc w po ps #[.int .i64 m.q.id, .int .i64 m.q.mem, .int .i64 m.q.side, .int .i64 m.q.bas, .int .i64 m.q.am, .int .i64 m.q.rate, .int .i64 m.q.st, .int .i64 m.q.en] #[.int .i64 0, .int .i64 0, .string ⟨#[]⟩, .int .i64 0, .slice sa 0 sc] (.slice sa 0 sc) [] w8) := hS8
  clear hS hS8 hb8 HC27
  have s0 : w8.cell? ⟨ps, 0, none⟩ = some (.int .i64 0) := HKn.out.s.cell 0
  have s1 : w8.cell? ⟨ps, 1, none⟩ = some (.int .i64 0) := HKn.out.s.cell 1
  have s2 : w8.cell? ⟨ps, 2, none⟩ = some (.string ⟨#[]⟩) := HKn.out.s.cell 2
  have s3 : w8.cell? ⟨ps, 3, none⟩ = some (.int .i64 0) := HKn.out.s.cell 3
  have s4 : w8.cell? ⟨ps, 4, none⟩ = some (.slice sa 0 sc) := HKn.out.s.cell 4
  have HBn : Hid (Below w.heap.size w w8) := HKn.out.c
  clear HKn
  go_wp2_with fail
  refine (awake _).mono ?_
  rintro e w12 ⟨rfl, hb12⟩
  have HBZ : Hid (Below w.heap.size w w12) := bt HBn.out hb12.out
  clear hb12
  go_wp2_with fail
  go_ret
  exact KP.mk rfl HBZ.out
set_option maxHeartbeats 8000000 in
theorem lKin11 (m : Mg) (pa ia ca ba : Option Addr) (pc ic cc bc : Nat) (hk : m.k = 11)  (w : World) (hH : Hld w.heap.size w m pa ia ca ba) (hZ : Szd m) (hn : m.ins.length ≤ 100)
    (hsm : ∀ W, Calls Tryz.prog 9 #[.agg (mcs m pa ia ca ba pc ic cc bc)] W (KP (.bool true) W)) (hof : ∀ W, Calls Tryz.prog 11 #[.agg (mcs m pa ia ca ba pc ic cc bc)] W (KP (.iface 67 (.agg #[.int .i64 m.mem, .int .i64 m.tr, .string ⟨m.out.i.toArray⟩, .int .i64 m.out.q, .slice ia m.ins.length ic])) W)) : Calls Tryz.prog 8 #[.agg (mcs m pa ia ca ba pc ic cc bc)] w (KP (.bool true) w) := by
  have HSM : Hid (∀ W, Calls Tryz.prog 9 #[.agg (mcs m pa ia ca ba pc ic cc bc)] W (KP (.bool true) W)) := hsm
  have HOF : Hid (∀ W, Calls Tryz.prog 11 #[.agg (mcs m pa ia ca ba pc ic cc bc)] W (KP (.iface 67 (.agg #[.int .i64 m.mem, .int .i64 m.tr, .string ⟨m.out.i.toArray⟩, .int .i64 m.out.q, .slice ia m.ins.length ic])) W)) := hof
  have HL : Hid (Lts w.heap.size w ia m.ins) := hH.ins
  have HC25 : Hid (∀ W, Calls Tryz.prog 25 #[.iface 67 (.agg #[.int .i64 m.mem, .int .i64 m.tr, .string ⟨m.out.i.toArray⟩, .int .i64 m.out.q, .slice ia m.ins.length ic])] W (KP (.tuple #[.agg #[.int .i64 0, .int .i64 0, .int .i64 0, .int .i64 0, .int .i64 0, .int .i64 0, .int .i64 0, .int .i64 0], .bool false]) W)) := fun W => asOffer _ _ _ _ _ _ _ _ _ false (fun w => tn11_8 w _) W
  have HC26 : Hid (∀ W, Below w.heap.size w W → Calls Tryz.prog 26 #[.iface 67 (.agg #[.int .i64 m.mem, .int .i64 m.tr, .string ⟨m.out.i.toArray⟩, .int .i64 m.out.q, .slice ia m.ins.length ic])] W (AsP m.mem m.tr ⟨m.out.i.toArray⟩ m.out.q m.ins true W)) := fun W hb => asSwap _ m.mem m.tr ⟨m.out.i.toArray⟩ m.out.q m.ins ia ic true (fun w => ty11 w _) W ((hH.ins.keep hb).mono hb.size) (by have := hZ.oi; show m.out.i.length ≤ _; omega) (fun y hy => by have := hZ.ins y hy; omega) (by omega)
  have HC28 : Hid (∀ W, Below w.heap.size w W → Calls Tryz.prog 28 #[.iface 67 (.agg #[.int .i64 m.mem, .int .i64 m.tr, .string ⟨m.out.i.toArray⟩, .int .i64 m.out.q, .slice ia m.ins.length ic])] W (ApP m.mem m.tr ⟨m.out.i.toArray⟩ m.out.q m.ins W)) := fun W hb => mustSwap m.mem m.tr ⟨m.out.i.toArray⟩ m.out.q m.ins ia ic W ((hH.ins.keep hb).mono hb.size) (by have := hZ.oi; show m.out.i.length ≤ _; omega) (fun y hy => by have := hZ.ins y hy; omega) (by omega)
  have HX0 : Hid (Bx (w.alloc (.cells (mcs m pa ia ca ba pc ic cc bc) 35)) w.heap.size (mcs m pa ia ca ba pc ic cc bc) 35) := Bx.new _ _ _
  have HB0 : Hid (Below w.heap.size w (w.alloc (.cells (mcs m pa ia ca ba pc ic cc bc) 35))) := below_a w _
  have HLD : Hid (∀ W, Bx W w.heap.size (mcs m pa ia ca ba pc ic cc bc) 35 → (Instr.loadAt 35 (.pointer (some ⟨w.heap.size, 0, none⟩))).run Tryz.prog W = .ok (.agg (mcs m pa ia ca ba pc ic cc bc)) W) := fun W h => hloadAt W w.heap.size _ (mcs_size _ _ _ _ _ _ _ _ _) h
  have HK0 : Hid (∀ W, Bx W w.heap.size (mcs m pa ia ca ba pc ic cc bc) 35 → W.cell? ⟨w.heap.size, 0, none⟩ = some (.int .i64 11)) := fun W h => by have := h.cell 0; rw [show (mcs m pa ia ca ba pc ic cc bc)[0]? = some (.int .i64 m.k) from rfl, hk] at this; exact this
  clear hsm hof hH hZ hk
  go_enter Tryz.func8, Tryz.ntmps8
  go_upto_region 1 with fail
  generalize hw1 : w.alloc (.cells (mcs m pa ia ca ba pc ic cc bc) 35) = w1 at *
  have HX : Hid (Bx w1 w.heap.size (mcs m pa ia ca ba pc ic cc bc) 35) := HX0.out
  have HB : Hid (Below w.heap.size w w1) := HB0.out
  clear HX0 HB0 hw1
  go_wp2_with (guard_target =~ wpList _ _ _ (⟨_, Op.load 35 _, _, _, _, _⟩ :: _) _ _; refine wl_load _ rfl 35 _ rfl _ rfl _ (HLD.out _ HX.out) ?_; go_simp)
  refine (HSM.out _).mono ?_
  rintro e w2 ⟨rfl, hb2⟩
  have HX2 : Hid (Bx w2 w.heap.size (mcs m pa ia ca ba pc ic cc bc) 35) := HX.out.keep hb2.out
  have HB2 : Hid (Below w.heap.size w w2) := bt HB.out hb2.out
  clear hb2 HX HB
  go_wp2_with (guard_target =~ wpList _ _ _ (⟨_, Op.load 35 _, _, _, _, _⟩ :: _) _ _; refine wl_load _ rfl 35 _ rfl _ rfl _ (HLD.out _ HX2.out) ?_; go_simp)
  refine (HOF.out _).mono ?_
  rintro e w3 ⟨rfl, hb3⟩
  have HX3 : Hid (Bx w3 w.heap.size (mcs m pa ia ca ba pc ic cc bc) 35) := HX2.out.keep hb3.out
  have HB3 : Hid (Below w.heap.size w w3) := bt HB2.out hb3.out
  clear hb3 HX2 HB2
  go_wp2_with fail
  refine (HC25.out _).mono ?_
  rintro e w4 ⟨rfl, hb4⟩
  have HX5 : Hid (Bx (w4.alloc (.cells #[.int .i64 0, .int .i64 0, .int .i64 0, .int .i64 0, .int .i64 0, .int .i64 0, .int .i64 0, .int .i64 0] 63)) w.heap.size (mcs m pa ia ca ba pc ic cc bc) 35) := (HX3.out.keep hb4.out).keep (below_a _ _)
  have HO5 : Hid (Bx (w4.alloc (.cells #[.int .i64 0, .int .i64 0, .int .i64 0, .int .i64 0, .int .i64 0, .int .i64 0, .int .i64 0, .int .i64 0] 63)) w4.heap.size #[.int .i64 0, .int .i64 0, .int .i64 0, .int .i64 0, .int .i64 0, .int .i64 0, .int .i64 0, .int .i64 0] 63) := Bx.new _ _ _
  have HB5 : Hid (Below w.heap.size w (w4.alloc (.cells #[.int .i64 0, .int .i64 0, .int .i64 0, .int .i64 0, .int .i64 0, .int .i64 0, .int .i64 0, .int .i64 0] 63))) := bt (bt HB3.out hb4.out) (below_a _ _)
  clear hb4 HX3 HB3 HC25
  go_upto_region 5 with fail
  generalize w4.alloc (.cells #[.int .i64 0, .int .i64 0, .int .i64 0, .int .i64 0, .int .i64 0, .int .i64 0, .int .i64 0, .int .i64 0] 63) = w5 at *
  generalize w4.heap.size = po at *
  go_wp2_with fail
  refine (HC26.out _ HB5.out).mono ?_
  rintro e w6 ⟨sa, sc, rfl, HOw, hb6⟩
  have HKn : Hid (Kn m pa ia ca ba pc ic cc bc w po w6.heap.size #[.int .i64 0, .int .i64 0, .int .i64 0, .int .i64 0, .int .i64 0, .int .i64 0, .int .i64 0, .int .i64 0] #[.int .i64 m.mem, .int .i64 m.tr, .string ⟨m.out.i.toArray⟩, .int .i64 m.out.q, .slice sa m.ins.length sc] (.slice sa m.ins.length sc) m.ins (w6.alloc (.cells #[.int .i64 m.mem, .int .i64 m.tr, .string ⟨m.out.i.toArray⟩, .int .i64 m.out.q, .slice sa m.ins.length sc] 67))) := ⟨(HX5.out.keep hb6.out).keep (below_a _ _), (HO5.out.keep hb6.out).keep (below_a _ _), Bx.new _ _ _, own_below (own_mono HOw.out HB5.out.size) (below_a _ _), bt (bt HB5.out hb6.out) (below_a _ _)⟩
  clear hb6 HX5 HO5 HB5 HOw HC26
  go_upto_region 6 with fail
  have eL : ([] : List Lt).length = 0 := rfl
  try simp only [eL]
  generalize w6.alloc (.cells #[.int .i64 m.mem, .int .i64 m.tr, .string ⟨m.out.i.toArray⟩, .int .i64 m.out.q, .slice sa m.ins.length sc] 67) = w7 at *
  generalize w6.heap.size = ps at *
  clear eL
  have c0 : w7.cell? ⟨w.heap.size, 0, none⟩ = some (.int .i64 11) := HK0.out _ HKn.out.b
  go_wp2_with fail
  refine wp_region_held (S := fun W => Kn m pa ia ca ba pc ic cc bc w po ps #[.int .i64 0, .int .i64 0, .int .i64 0, .int .i64 0, .int .i64 0, .int .i64 0, .int .i64 0, .int .i64 0] #[.int .i64 m.mem, .int .i64 m.tr, .string ⟨m.out.i.toArray⟩, .int .i64 m.out.q, .slice sa m.ins.length sc] (.slice sa m.ins.length sc) m.ins W) (by kernel_rfl) ?_
  change wpAnyH _ _ _ _ _ 26 #[false, false, false, false, false, false, false, false, false, false, false, false, false, false, false, false, false, false, false, false, false, false, false, false, false, false] _ w7.drew
  have hS : Kn m pa ia ca ba pc ic cc bc w po ps #[.int .i64 0, .int .i64 0, .int .i64 0, .int .i64 0, .int .i64 0, .int .i64 0, .int .i64 0, .int .i64 0] #[.int .i64 m.mem, .int .i64 m.tr, .string ⟨m.out.i.toArray⟩, .int .i64 m.out.q, .slice sa m.ins.length sc] (.slice sa m.ins.length sc) m.ins w7.drew := HKn.out.drewN 1
  clear HKn c0
  obtain ⟨v0, hv0⟩ : ∃ v, v = w7.drew := ⟨_, rfl⟩
  rw [← hv0] at hS ⊢
  clear hv0
  refine takeR (fuel := 25) (i := 0) (v := .bool false) rfl (by kernel_rfl) (by kernel_rfl) (by kernel_rfl) (fun _ _ _ h => h) (Or.inl ⟨rfl, fun _ _ => rfl⟩) hS ?_
  simp only [Act.put, List.setIfInBounds_toArray, List.set_cons_zero, List.set_cons_succ]
  refine takeR (fuel := 24) (i := 1) (v := .bool false) rfl (by kernel_rfl) (by kernel_rfl) (by kernel_rfl) (fun _ _ _ h => h) (Or.inl ⟨rfl, fun _ _ => rfl⟩) hS ?_
  simp only [Act.put, List.setIfInBounds_toArray, List.set_cons_zero, List.set_cons_succ]
  refine takeR (fuel := 23) (i := 2) (v := undef) rfl (by kernel_rfl) (by kernel_rfl) (by kernel_rfl) (fun _ _ _ h => h) (Or.inr ⟨rfl, rfl⟩) hS ?_
  simp only [Act.put, List.setIfInBounds_toArray, List.set_cons_zero, List.set_cons_succ]
  refine takeR (fuel := 22) (i := 3) (v := undef) rfl (by kernel_rfl) (by kernel_rfl) (by kernel_rfl) (fun _ _ _ h => h) (Or.inr ⟨rfl, rfl⟩) hS ?_
  simp only [Act.put, List.setIfInBounds_toArray, List.set_cons_zero, List.set_cons_succ]
  refine takeR (fuel := 21) (i := 4) (v := undef) rfl (by kernel_rfl) (by kernel_rfl) (by kernel_rfl) (fun _ _ _ h => h) (Or.inr ⟨rfl, rfl⟩) hS ?_
  simp only [Act.put, List.setIfInBounds_toArray, List.set_cons_zero, List.set_cons_succ]
  refine takeR (fuel := 20) (i := 5) (v := undef) rfl (by kernel_rfl) (by kernel_rfl) (by kernel_rfl) (fun _ _ _ h => h) (Or.inr ⟨rfl, rfl⟩) hS ?_
  simp only [Act.put, List.setIfInBounds_toArray, List.set_cons_zero, List.set_cons_succ]
  refine takeR (fuel := 19) (i := 6) (v := undef) rfl (by kernel_rfl) (by kernel_rfl) (by kernel_rfl) (fun _ _ _ h => h) (Or.inr ⟨rfl, rfl⟩) hS ?_
  simp only [Act.put, List.setIfInBounds_toArray, List.set_cons_zero, List.set_cons_succ]
  refine takeR (fuel := 18) (i := 7) (v := undef) rfl (by kernel_rfl) (by kernel_rfl) (by kernel_rfl) (fun _ _ _ h => h) (Or.inr ⟨rfl, rfl⟩) hS ?_
  simp only [Act.put, List.setIfInBounds_toArray, List.set_cons_zero, List.set_cons_succ]
  refine takeR (fuel := 17) (i := 8) (v := undef) rfl (by kernel_rfl) (by kernel_rfl) (by kernel_rfl) (fun _ _ _ h => h) (Or.inr ⟨rfl, rfl⟩) hS ?_
  simp only [Act.put, List.setIfInBounds_toArray, List.set_cons_zero, List.set_cons_succ]
  refine takeR (fuel := 16) (i := 11) (v := undef) rfl (by kernel_rfl) (by kernel_rfl) (by kernel_rfl) (fun _ _ _ h => h) (Or.inr ⟨rfl, rfl⟩) hS ?_
  simp only [Act.put, List.setIfInBounds_toArray, List.set_cons_zero, List.set_cons_succ]
  refine takeR (fuel := 15) (i := 12) (v := undef) rfl (by kernel_rfl) (by kernel_rfl) (by kernel_rfl) (fun _ _ _ h => h) (Or.inr ⟨rfl, rfl⟩) hS ?_
  simp only [Act.put, List.setIfInBounds_toArray, List.set_cons_zero, List.set_cons_succ]
  refine consR (fuel := 14) (i := 9) rfl (by kernel_rfl) (fun K hK => ?_)
  rw [if_neg (by first | exact Bool.false_ne_true | decide | (intro h; cases h))]
  refine hK.out _ _ hS (fun hS8 => ?_)
  clear hK
  try simp only [Act.put, List.setIfInBounds_toArray, List.set_cons_zero, List.set_cons_succ]
  refine takeR (fuel := 13) (i := 10) (v := undef) rfl (by kernel_rfl) (by kernel_rfl) (by kernel_rfl) (fun _ _ _ h => h) (Or.inr ⟨rfl, rfl⟩) hS8 ?_
  simp only [Act.put, List.setIfInBounds_toArray, List.set_cons_zero, List.set_cons_succ]
  refine takeR (fuel := 12) (i := 13) (v := undef) rfl (by kernel_rfl) (by kernel_rfl) (by kernel_rfl) (fun _ _ _ h => h) (Or.inr ⟨rfl, rfl⟩) hS8 ?_
  simp only [Act.put, List.setIfInBounds_toArray, List.set_cons_zero, List.set_cons_succ]
  refine takeR (fuel := 11) (i := 14) (v := undef) rfl (by kernel_rfl) (by kernel_rfl) (by kernel_rfl) (fun _ _ _ h => h) (Or.inr ⟨rfl, rfl⟩) hS8 ?_
  simp only [Act.put, List.setIfInBounds_toArray, List.set_cons_zero, List.set_cons_succ]
  refine takeR (fuel := 10) (i := 15) (v := .bool false) rfl (by kernel_rfl) (by kernel_rfl) (by kernel_rfl) (fun _ _ _ h => h) (Or.inl ⟨rfl, fun _ _ => rfl⟩) hS8 ?_
  simp only [Act.put, List.setIfInBounds_toArray, List.set_cons_zero, List.set_cons_succ]
  refine takeR (fuel := 9) (i := 16) (v := .bool false) rfl (by kernel_rfl) (by kernel_rfl) (by kernel_rfl) (fun _ _ _ h => h) (Or.inl ⟨rfl, fun _ _ => rfl⟩) hS8 ?_
  simp only [Act.put, List.setIfInBounds_toArray, List.set_cons_zero, List.set_cons_succ]
  refine takeR (fuel := 8) (i := 17) (v := .bool false) rfl (by kernel_rfl) (by kernel_rfl) (by kernel_rfl) (fun _ _ _ h => h) (Or.inl ⟨rfl, fun _ _ => rfl⟩) hS8 ?_
  simp only [Act.put, List.setIfInBounds_toArray, List.set_cons_zero, List.set_cons_succ]
  refine takeR (fuel := 7) (i := 18) (v := .bool true) rfl (by kernel_rfl) (by kernel_rfl) (by kernel_rfl) (fun _ _ _ h => h) (Or.inl ⟨rfl, fun W hW => by go_simp⟩) hS8 ?_
  simp only [Act.put, List.setIfInBounds_toArray, List.set_cons_zero, List.set_cons_succ]
  refine takeR (fuel := 6) (i := 19) (v := .bool true) rfl (by kernel_rfl) (by kernel_rfl) (by kernel_rfl) (fun _ _ _ h => h) (Or.inl ⟨rfl, fun _ _ => rfl⟩) hS8 ?_
  simp only [Act.put, List.setIfInBounds_toArray, List.set_cons_zero, List.set_cons_succ]
  refine takeR (fuel := 5) (i := 20) (v := .pointer (some ⟨po, 0, none⟩)) rfl (by kernel_rfl) (by kernel_rfl) (by kernel_rfl) (fun _ _ _ h => h) (Or.inl ⟨rfl, fun W hW => by go_simp⟩) hS8 ?_
  simp only [Act.put, List.setIfInBounds_toArray, List.set_cons_zero, List.set_cons_succ]
  refine takeR (fuel := 4) (i := 21) (v := .agg #[.int .i64 0, .int .i64 0, .int .i64 0, .int .i64 0, .int .i64 0, .int .i64 0, .int .i64 0, .int .i64 0]) rfl (by kernel_rfl) (by kernel_rfl) (by kernel_rfl) (fun _ _ _ h => h) (Or.inl ⟨rfl, fun W hW => exl _ _ _ _ rfl _ _ rfl (load30z W _ _ _ _ _ _ _ _ _ (hW.o.cell 0) (hW.o.cell 1) (hW.o.cell 2) (hW.o.cell 3) (hW.o.cell 4) (hW.o.cell 5) (hW.o.cell 6) (hW.o.cell 7))⟩) hS8 ?_
  simp only [Act.put, List.setIfInBounds_toArray, List.set_cons_zero, List.set_cons_succ]
  refine takeR (fuel := 3) (i := 22) (v := .agg #[.int .i64 0, .int .i64 0, .int .i64 0, .int .i64 0, .int .i64 0, .int .i64 0, .int .i64 0, .int .i64 0]) rfl (by kernel_rfl) (by kernel_rfl) (by kernel_rfl) (fun _ _ _ h => h) (Or.inl ⟨rfl, fun W hW => by first | go_simp | kernel_rfl⟩) hS8 ?_
  simp only [Act.put, List.setIfInBounds_toArray, List.set_cons_zero, List.set_cons_succ]
  refine takeR (fuel := 2) (i := 23) (v := .bool false) rfl (by kernel_rfl) (by kernel_rfl) (by kernel_rfl) (fun _ _ _ h => h) (Or.inl ⟨rfl, fun W hW => by go_simp⟩) hS8 ?_
  simp only [Act.put, List.setIfInBounds_toArray, List.set_cons_zero, List.set_cons_succ]
  refine takeR (fuel := 1) (i := 24) (v := .bool false) rfl (by kernel_rfl) (by kernel_rfl) (by kernel_rfl) (fun _ _ _ h => h) (Or.inl ⟨rfl, fun _ _ => rfl⟩) hS8 ?_
  simp only [Act.put, List.setIfInBounds_toArray, List.set_cons_zero, List.set_cons_succ]
  refine takeR (fuel := 0) (i := 25) (v := .bool false) rfl (by kernel_rfl) (by kernel_rfl) (by kernel_rfl) (fun _ _ _ h => h) (Or.inl ⟨rfl, fun _ _ => rfl⟩) hS8 ?_
  simp only [Act.put, List.setIfInBounds_toArray, List.set_cons_zero, List.set_cons_succ]
  refine wpAnyH_done (by kernel_rfl) ?_ _
  have HKn : Hid (Kn m pa ia ca ba pc ic cc bc w po ps #[.int .i64 0, .int .i64 0, .int .i64 0, .int .i64 0, .int .i64 0, .int .i64 0, .int .i64 0, .int .i64 0] #[.int .i64 m.mem, .int .i64 m.tr, .string ⟨m.out.i.toArray⟩, .int .i64 m.out.q, .slice sa m.ins.length sc] (.slice sa m.ins.length sc) m.ins v0) := hS8
  clear hS hS8 
  go_wp2_with fail
  refine (HC28.out _ HKn.out.c).mono ?_
  rintro e w9 ⟨ta, tc, rfl, HOt, hb9⟩
  have HKn9 : Hid (Kn m pa ia ca ba pc ic cc bc w po ps #[.int .i64 0, .int .i64 0, .int .i64 0, .int .i64 0, .int .i64 0, .int .i64 0, .int .i64 0, .int .i64 0] #[.int .i64 m.mem, .int .i64 m.tr, .string ⟨m.out.i.toArray⟩, .int .i64 m.out.q, .slice sa m.ins.length sc] (.slice sa m.ins.length sc) m.ins w9) := HKn.out.keep hb9.out
  clear HKn HC28
  have HKn10 : Hid (Kn m pa ia ca ba pc ic cc bc w po ps #[.int .i64 0, .int .i64 0, .int .i64 0, .int .i64 0, .int .i64 0, .int .i64 0, .int .i64 0, .int .i64 0] #[.int .i64 m.mem, .int .i64 m.tr, .string ⟨m.out.i.toArray⟩, .int .i64 m.out.q, .slice sa m.ins.length sc] (.slice sa m.ins.length sc) m.ins (w9.alloc (.cells #[.int .i64 m.mem, .int .i64 m.tr, .string ⟨m.out.i.toArray⟩, .int .i64 m.out.q, .slice ta m.ins.length tc] 67))) := HKn9.out.keep (below_a _ _)
  have HTn : Hid (Bx (w9.alloc (.cells #[.int .i64 m.mem, .int .i64 m.tr, .string ⟨m.out.i.toArray⟩, .int .i64 m.out.q, .slice ta m.ins.length tc] 67)) w9.heap.size #[.int .i64 m.mem, .int .i64 m.tr, .string ⟨m.out.i.toArray⟩, .int .i64 m.out.q, .slice ta m.ins.length tc] 67) := Bx.new _ _ _
  clear HKn9 hb9 HOt
  go_upto_region 12 with fail
  generalize w9.alloc (.cells #[.int .i64 m.mem, .int .i64 m.tr, .string ⟨m.out.i.toArray⟩, .int .i64 m.out.q, .slice ta m.ins.length tc] 67) = w10 at *
  generalize w9.heap.size = pt at *
  have s2 : w10.cell? ⟨ps, 2, none⟩ = some (.string ⟨m.out.i.toArray⟩) := HKn10.out.s.cell 2
  have s3 : w10.cell? ⟨ps, 3, none⟩ = some (.int .i64 m.out.q) := HKn10.out.s.cell 3
  have s4 : w10.cell? ⟨ps, 4, none⟩ = some (.slice sa m.ins.length sc) := HKn10.out.s.cell 4
  have s0 : w10.cell? ⟨ps, 0, none⟩ = some (.int .i64 m.mem) := HKn10.out.s.cell 0
  have t2 : w10.cell? ⟨pt, 2, none⟩ = some (.string ⟨m.out.i.toArray⟩) := HTn.out.cell 2
  have t3 : w10.cell? ⟨pt, 3, none⟩ = some (.int .i64 m.out.q) := HTn.out.cell 3
  have t1 : w10.cell? ⟨pt, 1, none⟩ = some (.int .i64 m.tr) := HTn.out.cell 1
  have b30 : w10.cell? ⟨w.heap.size, 30, none⟩ = some (.string ⟨m.out.i.toArray⟩) := HKn10.out.b.cell 30
  have b31 : w10.cell? ⟨w.heap.size, 31, none⟩ = some (.int .i64 m.out.q) := HKn10.out.b.cell 31
  have b32 : w10.cell? ⟨w.heap.size, 32, none⟩ = some (.slice ia m.ins.length ic) := HKn10.out.b.cell 32
  have b1 : w10.cell? ⟨w.heap.size, 1, none⟩ = some (.int .i64 m.mem) := HKn10.out.b.cell 1
  have b33 : w10.cell? ⟨w.heap.size, 33, none⟩ = some (.int .i64 m.tr) := HKn10.out.b.cell 33
  have HCL : Hid (Calls Tryz.prog 29 #[.slice sa m.ins.length sc, .slice ia m.ins.length ic] w10 (KP (.bool true) w10)) := by
    obtain ⟨a, c, hv, hl⟩ := own_lts HKn10.out.ow
    injection hv with hv _ _
    subst hv
    exact yLots m.ins _ ia sc ic w10 w10.heap.size (Nat.le_refl _) hl ((HL.out.keep HKn10.out.c).mono HKn10.out.c.size) (by omega)
  generalize (⟨m.out.i.toArray⟩ : ByteArray) = xo at *
  go_wp2_with fail
  refine HCL.out.mono ?_
  rintro e w11 ⟨rfl, hb11⟩
  have HK11 : Hid (∀ j, j < 2 → True) := fun _ _ => trivial
  have HKn11 : Hid (Below w.heap.size w w11) := bt HKn10.out.c hb11.out
  have s0' : w11.cell? ⟨ps, 0, none⟩ = some (.int .i64 m.mem) := (hb11.out.cell (by exact HKn10.out.s.lt)).trans s0
  have t1' : w11.cell? ⟨pt, 1, none⟩ = some (.int .i64 m.tr) := (hb11.out.cell (by exact HTn.out.lt)).trans t1
  have b1' : w11.cell? ⟨w.heap.size, 1, none⟩ = some (.int .i64 m.mem) := (hb11.out.cell (by exact HKn10.out.b.lt)).trans b1
  have b33' : w11.cell? ⟨w.heap.size, 33, none⟩ = some (.int .i64 m.tr) := (hb11.out.cell (by exact HKn10.out.b.lt)).trans b33
  clear HKn10 HTn hb11 s0 s2 s3 s4 t1 t2 t3 b30 b31 b32 b1 b33 HCL HK11
  go_wp2_with fail
  refine (awake _).mono ?_
  rintro e w12 ⟨rfl, hb12⟩
  have HBZ : Hid (Below w.heap.size w w12) := bt HKn11.out hb12.out
  clear hb12
  go_wp2_with fail
  go_ret
  exact KP.mk rfl HBZ.out
set_option maxHeartbeats 8000000 in
theorem lKin0 (m : Mg) (pa ia ca ba : Option Addr) (pc ic cc bc : Nat)  (V : Value) (t8 : ∀ w, (Instr.typeAssert V 39 63 true).run Tryz.prog w = .ok (.tuple #[.agg #[.int .i64 0, .int .i64 0, .int .i64 0, .int .i64 0, .int .i64 0, .int .i64 0, .int .i64 0, .int .i64 0], .bool false]) w) (t11 : ∀ w, (Instr.typeAssert V 39 67 true).run Tryz.prog w = .ok (.tuple #[.agg #[.int .i64 0, .int .i64 0, .string ⟨#[]⟩, .int .i64 0, .slice none 0 0], .bool false]) w) (q8 : (m.k == 8) = false) (q11 : (m.k == 11) = false) (w : World) (hH : Hld w.heap.size w m pa ia ca ba) (hZ : Szd m) (hn : m.ins.length ≤ 100)
    (hsm : ∀ W, Calls Tryz.prog 9 #[.agg (mcs m pa ia ca ba pc ic cc bc)] W (KP (.bool true) W)) (hof : ∀ W, Calls Tryz.prog 11 #[.agg (mcs m pa ia ca ba pc ic cc bc)] W (KP (V) W)) : Calls Tryz.prog 8 #[.agg (mcs m pa ia ca ba pc ic cc bc)] w (KP (.bool true) w) := by
  have HSM : Hid (∀ W, Calls Tryz.prog 9 #[.agg (mcs m pa ia ca ba pc ic cc bc)] W (KP (.bool true) W)) := hsm
  have HOF : Hid (∀ W, Calls Tryz.prog 11 #[.agg (mcs m pa ia ca ba pc ic cc bc)] W (KP (V) W)) := hof
  have HL : Hid (Lts w.heap.size w ia m.ins) := hH.ins
  have HC25 : Hid (∀ W, Calls Tryz.prog 25 #[V] W (KP (.tuple #[.agg #[.int .i64 0, .int .i64 0, .int .i64 0, .int .i64 0, .int .i64 0, .int .i64 0, .int .i64 0, .int .i64 0], .bool false]) W)) := fun W => asOffer _ _ _ _ _ _ _ _ _ false t8 W
  have HC26 : Hid (∀ W, Below w.heap.size w W → Calls Tryz.prog 26 #[V] W (AsP 0 0 ⟨#[]⟩ 0 [] false W)) := fun W hb => asSwap _ 0 0 ⟨#[]⟩ 0 [] none 0 false t11 W (fun h => absurd h (by decide)) (by decide) (fun y hy => absurd hy (by simp)) (by decide)
  have HX0 : Hid (Bx (w.alloc (.cells (mcs m pa ia ca ba pc ic cc bc) 35)) w.heap.size (mcs m pa ia ca ba pc ic cc bc) 35) := Bx.new _ _ _
  have HB0 : Hid (Below w.heap.size w (w.alloc (.cells (mcs m pa ia ca ba pc ic cc bc) 35))) := below_a w _
  have HLD : Hid (∀ W, Bx W w.heap.size (mcs m pa ia ca ba pc ic cc bc) 35 → (Instr.loadAt 35 (.pointer (some ⟨w.heap.size, 0, none⟩))).run Tryz.prog W = .ok (.agg (mcs m pa ia ca ba pc ic cc bc)) W) := fun W h => hloadAt W w.heap.size _ (mcs_size _ _ _ _ _ _ _ _ _) h
  have HK0 : Hid (∀ W, Bx W w.heap.size (mcs m pa ia ca ba pc ic cc bc) 35 → W.cell? ⟨w.heap.size, 0, none⟩ = some (.int .i64 m.k)) := fun W h => (h.cell 0)
  clear hsm hof hH hZ t8 t11
  go_enter Tryz.func8, Tryz.ntmps8
  go_upto_region 1 with fail
  generalize hw1 : w.alloc (.cells (mcs m pa ia ca ba pc ic cc bc) 35) = w1 at *
  have HX : Hid (Bx w1 w.heap.size (mcs m pa ia ca ba pc ic cc bc) 35) := HX0.out
  have HB : Hid (Below w.heap.size w w1) := HB0.out
  clear HX0 HB0 hw1
  go_wp2_with (guard_target =~ wpList _ _ _ (⟨_, Op.load 35 _, _, _, _, _⟩ :: _) _ _; refine wl_load _ rfl 35 _ rfl _ rfl _ (HLD.out _ HX.out) ?_; go_simp)
  refine (HSM.out _).mono ?_
  rintro e w2 ⟨rfl, hb2⟩
  have HX2 : Hid (Bx w2 w.heap.size (mcs m pa ia ca ba pc ic cc bc) 35) := HX.out.keep hb2.out
  have HB2 : Hid (Below w.heap.size w w2) := bt HB.out hb2.out
  clear hb2 HX HB
  go_wp2_with (guard_target =~ wpList _ _ _ (⟨_, Op.load 35 _, _, _, _, _⟩ :: _) _ _; refine wl_load _ rfl 35 _ rfl _ rfl _ (HLD.out _ HX2.out) ?_; go_simp)
  refine (HOF.out _).mono ?_
  rintro e w3 ⟨rfl, hb3⟩
  have HX3 : Hid (Bx w3 w.heap.size (mcs m pa ia ca ba pc ic cc bc) 35) := HX2.out.keep hb3.out
  have HB3 : Hid (Below w.heap.size w w3) := bt HB2.out hb3.out
  clear hb3 HX2 HB2
  go_wp2_with fail
  refine (HC25.out _).mono ?_
  rintro e w4 ⟨rfl, hb4⟩
  have HX5 : Hid (Bx (w4.alloc (.cells #[.int .i64 0, .int .i64 0, .int .i64 0, .int .i64 0, .int .i64 0, .int .i64 0, .int .i64 0, .int .i64 0] 63)) w.heap.size (mcs m pa ia ca ba pc ic cc bc) 35) := (HX3.out.keep hb4.out).keep (below_a _ _)
  have HO5 : Hid (Bx (w4.alloc (.cells #[.int .i64 0, .int .i64 0, .int .i64 0, .int .i64 0, .int .i64 0, .int .i64 0, .int .i64 0, .int .i64 0] 63)) w4.heap.size #[.int .i64 0, .int .i64 0, .int .i64 0, .int .i64 0, .int .i64 0, .int .i64 0, .int .i64 0, .int .i64 0] 63) := Bx.new _ _ _
  have HB5 : Hid (Below w.heap.size w (w4.alloc (.cells #[.int .i64 0, .int .i64 0, .int .i64 0, .int .i64 0, .int .i64 0, .int .i64 0, .int .i64 0, .int .i64 0] 63))) := bt (bt HB3.out hb4.out) (below_a _ _)
  clear hb4 HX3 HB3 HC25
  go_upto_region 5 with fail
  generalize w4.alloc (.cells #[.int .i64 0, .int .i64 0, .int .i64 0, .int .i64 0, .int .i64 0, .int .i64 0, .int .i64 0, .int .i64 0] 63) = w5 at *
  generalize w4.heap.size = po at *
  go_wp2_with fail
  refine (HC26.out _ HB5.out).mono ?_
  rintro e w6 ⟨sa, sc, rfl, HOw, hb6⟩
  have HKn : Hid (Kn m pa ia ca ba pc ic cc bc w po w6.heap.size #[.int .i64 0, .int .i64 0, .int .i64 0, .int .i64 0, .int .i64 0, .int .i64 0, .int .i64 0, .int .i64 0] #[.int .i64 0, .int .i64 0, .string ⟨#[]⟩, .int .i64 0, .slice sa 0 sc] (.slice sa 0 sc) [] (w6.alloc (.cells #[.int .i64 0, .int .i64 0, .string ⟨#[]⟩, .int .i64 0, .slice sa 0 sc] 67))) := ⟨(HX5.out.keep hb6.out).keep (below_a _ _), (HO5.out.keep hb6.out).keep (below_a _ _), Bx.new _ _ _, own_below (own_mono HOw.out HB5.out.size) (below_a _ _), bt (bt HB5.out hb6.out) (below_a _ _)⟩
  clear hb6 HX5 HO5 HB5 HOw HC26
  go_upto_region 6 with fail
  have eL : ([] : List Lt).length = 0 := rfl
  try simp only [eL]
  generalize w6.alloc (.cells #[.int .i64 0, .int .i64 0, .string ⟨#[]⟩, .int .i64 0, .slice sa 0 sc] 67) = w7 at *
  generalize w6.heap.size = ps at *
  clear eL
  have c0 : w7.cell? ⟨w.heap.size, 0, none⟩ = some (.int .i64 m.k) := HK0.out _ HKn.out.b
  go_wp2_with fail
  refine wp_region_held (S := fun W => Kn m pa ia ca ba pc ic cc bc w po ps #[.int .i64 0, .int .i64 0, .int .i64 0, .int .i64 0, .int .i64 0, .int .i64 0, .int .i64 0, .int .i64 0] #[.int .i64 0, .int .i64 0, .string ⟨#[]⟩, .int .i64 0, .slice sa 0 sc] (.slice sa 0 sc) [] W) (by kernel_rfl) ?_
  change wpAnyH _ _ _ _ _ 26 #[false, false, false, false, false, false, false, false, false, false, false, false, false, false, false, false, false, false, false, false, false, false, false, false, false, false] _ w7.drew
  have hS : Kn m pa ia ca ba pc ic cc bc w po ps #[.int .i64 0, .int .i64 0, .int .i64 0, .int .i64 0, .int .i64 0, .int .i64 0, .int .i64 0, .int .i64 0] #[.int .i64 0, .int .i64 0, .string ⟨#[]⟩, .int .i64 0, .slice sa 0 sc] (.slice sa 0 sc) [] w7.drew := HKn.out.drewN 1
  clear HKn c0
  obtain ⟨v0, hv0⟩ : ∃ v, v = w7.drew := ⟨_, rfl⟩
  rw [← hv0] at hS ⊢
  clear hv0
  refine takeR (fuel := 25) (i := 0) (v := .bool false) rfl (by kernel_rfl) (by kernel_rfl) (by kernel_rfl) (fun _ _ _ h => h) (Or.inl ⟨rfl, fun _ _ => rfl⟩) hS ?_
  simp only [Act.put, List.setIfInBounds_toArray, List.set_cons_zero, List.set_cons_succ]
  refine takeR (fuel := 24) (i := 1) (v := .bool false) rfl (by kernel_rfl) (by kernel_rfl) (by kernel_rfl) (fun _ _ _ h => h) (Or.inl ⟨rfl, fun _ _ => rfl⟩) hS ?_
  simp only [Act.put, List.setIfInBounds_toArray, List.set_cons_zero, List.set_cons_succ]
  refine takeR (fuel := 23) (i := 2) (v := undef) rfl (by kernel_rfl) (by kernel_rfl) (by kernel_rfl) (fun _ _ _ h => h) (Or.inr ⟨rfl, rfl⟩) hS ?_
  simp only [Act.put, List.setIfInBounds_toArray, List.set_cons_zero, List.set_cons_succ]
  refine takeR (fuel := 22) (i := 3) (v := undef) rfl (by kernel_rfl) (by kernel_rfl) (by kernel_rfl) (fun _ _ _ h => h) (Or.inr ⟨rfl, rfl⟩) hS ?_
  simp only [Act.put, List.setIfInBounds_toArray, List.set_cons_zero, List.set_cons_succ]
  refine takeR (fuel := 21) (i := 4) (v := undef) rfl (by kernel_rfl) (by kernel_rfl) (by kernel_rfl) (fun _ _ _ h => h) (Or.inr ⟨rfl, rfl⟩) hS ?_
  simp only [Act.put, List.setIfInBounds_toArray, List.set_cons_zero, List.set_cons_succ]
  refine takeR (fuel := 20) (i := 5) (v := undef) rfl (by kernel_rfl) (by kernel_rfl) (by kernel_rfl) (fun _ _ _ h => h) (Or.inr ⟨rfl, rfl⟩) hS ?_
  simp only [Act.put, List.setIfInBounds_toArray, List.set_cons_zero, List.set_cons_succ]
  refine takeR (fuel := 19) (i := 6) (v := undef) rfl (by kernel_rfl) (by kernel_rfl) (by kernel_rfl) (fun _ _ _ h => h) (Or.inr ⟨rfl, rfl⟩) hS ?_
  simp only [Act.put, List.setIfInBounds_toArray, List.set_cons_zero, List.set_cons_succ]
  refine takeR (fuel := 18) (i := 7) (v := undef) rfl (by kernel_rfl) (by kernel_rfl) (by kernel_rfl) (fun _ _ _ h => h) (Or.inr ⟨rfl, rfl⟩) hS ?_
  simp only [Act.put, List.setIfInBounds_toArray, List.set_cons_zero, List.set_cons_succ]
  refine takeR (fuel := 17) (i := 8) (v := undef) rfl (by kernel_rfl) (by kernel_rfl) (by kernel_rfl) (fun _ _ _ h => h) (Or.inr ⟨rfl, rfl⟩) hS ?_
  simp only [Act.put, List.setIfInBounds_toArray, List.set_cons_zero, List.set_cons_succ]
  refine takeR (fuel := 16) (i := 11) (v := undef) rfl (by kernel_rfl) (by kernel_rfl) (by kernel_rfl) (fun _ _ _ h => h) (Or.inr ⟨rfl, rfl⟩) hS ?_
  simp only [Act.put, List.setIfInBounds_toArray, List.set_cons_zero, List.set_cons_succ]
  refine takeR (fuel := 15) (i := 12) (v := undef) rfl (by kernel_rfl) (by kernel_rfl) (by kernel_rfl) (fun _ _ _ h => h) (Or.inr ⟨rfl, rfl⟩) hS ?_
  simp only [Act.put, List.setIfInBounds_toArray, List.set_cons_zero, List.set_cons_succ]
  refine consR (fuel := 14) (i := 9) rfl (by kernel_rfl) (fun K hK => ?_)
  rw [if_neg (by first | exact Bool.false_ne_true | decide | (intro h; cases h))]
  refine hK.out _ _ hS (fun hS8 => ?_)
  clear hK
  try simp only [Act.put, List.setIfInBounds_toArray, List.set_cons_zero, List.set_cons_succ]
  refine takeR (fuel := 13) (i := 10) (v := undef) rfl (by kernel_rfl) (by kernel_rfl) (by kernel_rfl) (fun _ _ _ h => h) (Or.inr ⟨rfl, rfl⟩) hS8 ?_
  simp only [Act.put, List.setIfInBounds_toArray, List.set_cons_zero, List.set_cons_succ]
  refine takeR (fuel := 12) (i := 13) (v := undef) rfl (by kernel_rfl) (by kernel_rfl) (by kernel_rfl) (fun _ _ _ h => h) (Or.inr ⟨rfl, rfl⟩) hS8 ?_
  simp only [Act.put, List.setIfInBounds_toArray, List.set_cons_zero, List.set_cons_succ]
  refine takeR (fuel := 11) (i := 14) (v := undef) rfl (by kernel_rfl) (by kernel_rfl) (by kernel_rfl) (fun _ _ _ h => h) (Or.inr ⟨rfl, rfl⟩) hS8 ?_
  simp only [Act.put, List.setIfInBounds_toArray, List.set_cons_zero, List.set_cons_succ]
  refine takeR (fuel := 10) (i := 15) (v := .bool false) rfl (by kernel_rfl) (by kernel_rfl) (by kernel_rfl) (fun _ _ _ h => h) (Or.inl ⟨rfl, fun _ _ => rfl⟩) hS8 ?_
  simp only [Act.put, List.setIfInBounds_toArray, List.set_cons_zero, List.set_cons_succ]
  refine takeR (fuel := 9) (i := 16) (v := .bool false) rfl (by kernel_rfl) (by kernel_rfl) (by kernel_rfl) (fun _ _ _ h => h) (Or.inl ⟨rfl, fun _ _ => rfl⟩) hS8 ?_
  simp only [Act.put, List.setIfInBounds_toArray, List.set_cons_zero, List.set_cons_succ]
  refine takeR (fuel := 8) (i := 17) (v := .bool false) rfl (by kernel_rfl) (by kernel_rfl) (by kernel_rfl) (fun _ _ _ h => h) (Or.inl ⟨rfl, fun _ _ => rfl⟩) hS8 ?_
  simp only [Act.put, List.setIfInBounds_toArray, List.set_cons_zero, List.set_cons_succ]
  refine takeR (fuel := 7) (i := 18) (v := .bool true) rfl (by kernel_rfl) (by kernel_rfl) (by kernel_rfl) (fun _ _ _ h => h) (Or.inl ⟨rfl, fun W hW => by go_simp⟩) hS8 ?_
  simp only [Act.put, List.setIfInBounds_toArray, List.set_cons_zero, List.set_cons_succ]
  refine takeR (fuel := 6) (i := 19) (v := .bool true) rfl (by kernel_rfl) (by kernel_rfl) (by kernel_rfl) (fun _ _ _ h => h) (Or.inl ⟨rfl, fun _ _ => rfl⟩) hS8 ?_
  simp only [Act.put, List.setIfInBounds_toArray, List.set_cons_zero, List.set_cons_succ]
  refine takeR (fuel := 5) (i := 20) (v := .pointer (some ⟨po, 0, none⟩)) rfl (by kernel_rfl) (by kernel_rfl) (by kernel_rfl) (fun _ _ _ h => h) (Or.inl ⟨rfl, fun W hW => by go_simp⟩) hS8 ?_
  simp only [Act.put, List.setIfInBounds_toArray, List.set_cons_zero, List.set_cons_succ]
  refine takeR (fuel := 4) (i := 21) (v := .agg #[.int .i64 0, .int .i64 0, .int .i64 0, .int .i64 0, .int .i64 0, .int .i64 0, .int .i64 0, .int .i64 0]) rfl (by kernel_rfl) (by kernel_rfl) (by kernel_rfl) (fun _ _ _ h => h) (Or.inl ⟨rfl, fun W hW => exl _ _ _ _ rfl _ _ rfl (load30z W _ _ _ _ _ _ _ _ _ (hW.o.cell 0) (hW.o.cell 1) (hW.o.cell 2) (hW.o.cell 3) (hW.o.cell 4) (hW.o.cell 5) (hW.o.cell 6) (hW.o.cell 7))⟩) hS8 ?_
  simp only [Act.put, List.setIfInBounds_toArray, List.set_cons_zero, List.set_cons_succ]
  refine takeR (fuel := 3) (i := 22) (v := .agg #[.int .i64 0, .int .i64 0, .int .i64 0, .int .i64 0, .int .i64 0, .int .i64 0, .int .i64 0, .int .i64 0]) rfl (by kernel_rfl) (by kernel_rfl) (by kernel_rfl) (fun _ _ _ h => h) (Or.inl ⟨rfl, fun W hW => by first | go_simp | kernel_rfl⟩) hS8 ?_
  simp only [Act.put, List.setIfInBounds_toArray, List.set_cons_zero, List.set_cons_succ]
  refine takeR (fuel := 2) (i := 23) (v := .bool false) rfl (by kernel_rfl) (by kernel_rfl) (by kernel_rfl) (fun _ _ _ h => h) (Or.inl ⟨rfl, fun W hW => by go_simp⟩) hS8 ?_
  simp only [Act.put, List.setIfInBounds_toArray, List.set_cons_zero, List.set_cons_succ]
  refine takeR (fuel := 1) (i := 24) (v := .bool false) rfl (by kernel_rfl) (by kernel_rfl) (by kernel_rfl) (fun _ _ _ h => h) (Or.inl ⟨rfl, fun _ _ => rfl⟩) hS8 ?_
  simp only [Act.put, List.setIfInBounds_toArray, List.set_cons_zero, List.set_cons_succ]
  refine takeR (fuel := 0) (i := 25) (v := .bool false) rfl (by kernel_rfl) (by kernel_rfl) (by kernel_rfl) (fun _ _ _ h => h) (Or.inl ⟨rfl, fun _ _ => rfl⟩) hS8 ?_
  simp only [Act.put, List.setIfInBounds_toArray, List.set_cons_zero, List.set_cons_succ]
  refine wpAnyH_done (by kernel_rfl) ?_ _
  have HKn : Hid (Kn m pa ia ca ba pc ic cc bc w po ps #[.int .i64 0, .int .i64 0, .int .i64 0, .int .i64 0, .int .i64 0, .int .i64 0, .int .i64 0, .int .i64 0] #[.int .i64 0, .int .i64 0, .string ⟨#[]⟩, .int .i64 0, .slice sa 0 sc] (.slice sa 0 sc) [] v0) := hS8
  clear hS hS8 
  have s0 : v0.cell? ⟨ps, 0, none⟩ = some (.int .i64 0) := HKn.out.s.cell 0
  have s1 : v0.cell? ⟨ps, 1, none⟩ = some (.int .i64 0) := HKn.out.s.cell 1
  have s2 : v0.cell? ⟨ps, 2, none⟩ = some (.string ⟨#[]⟩) := HKn.out.s.cell 2
  have s3 : v0.cell? ⟨ps, 3, none⟩ = some (.int .i64 0) := HKn.out.s.cell 3
  have s4 : v0.cell? ⟨ps, 4, none⟩ = some (.slice sa 0 sc) := HKn.out.s.cell 4
  have HBn : Hid (Below w.heap.size w v0) := HKn.out.c
  clear HKn
  go_wp2_with fail
  refine (awake _).mono ?_
  rintro e w12 ⟨rfl, hb12⟩
  have HBZ : Hid (Below w.heap.size w w12) := bt HBn.out hb12.out
  clear hb12
  go_wp2_with fail
  go_ret
  exact KP.mk rfl HBZ.out
set_option maxHeartbeats 4000000 in
theorem lKinBig (M : Array Value) (hsz : M.size = 36) (w : World) (hsm : ∀ W, Calls Tryz.prog 9 #[.agg M] W (KP (.bool false) W)) : Calls Tryz.prog 8 #[.agg M] w (KP (.bool true) w) := by
  have HSM : Hid (∀ W, Calls Tryz.prog 9 #[.agg M] W (KP (.bool false) W)) := hsm
  have HX0 : Hid (Bx (w.alloc (.cells M 35)) w.heap.size M 35) := Bx.new _ _ _
  have HB0 : Hid (Below w.heap.size w (w.alloc (.cells M 35))) := below_a w _
  have HLD : Hid (∀ W, Bx W w.heap.size M 35 → (Instr.loadAt 35 (.pointer (some ⟨w.heap.size, 0, none⟩))).run Tryz.prog W = .ok (.agg M) W) := fun W h => hloadAt W w.heap.size M hsz h
  clear hsm
  go_enter Tryz.func8, Tryz.ntmps8
  go_upto_region 1 with fail
  generalize hw1 : w.alloc (.cells M 35) = w1 at *
  have HX : Hid (Bx w1 w.heap.size M 35) := HX0.out
  have HB : Hid (Below w.heap.size w w1) := HB0.out
  clear HX0 HB0 hw1
  go_wp2_with (guard_target =~ wpList _ _ _ (⟨_, Op.load 35 _, _, _, _, _⟩ :: _) _ _; refine wl_load _ rfl 35 _ rfl _ rfl _ (HLD.out _ HX.out) ?_; go_simp)
  refine (HSM.out _).mono ?_
  rintro e w2 ⟨rfl, hb2⟩
  have HB2 : Hid (Below w.heap.size w w2) := bt HB.out hb2.out
  clear hb2 HX HB HSM
  go_wp2_with fail
  refine (awake _).mono ?_
  rintro e w3 ⟨rfl, hb3⟩
  have HB3 : Hid (Below w.heap.size w w3) := bt HB2.out hb3.out
  clear hb3 HB2
  go_wp2_with fail
  go_ret
  exact KP.mk rfl HB3.out
theorem lKinds (m : Mg) (pa ia ca ba : Option Addr) (pc ic cc bc : Nat) (w : World) (hH : Hld w.heap.size w m pa ia ca ba) (hW : m.Wf) (hZ : Szd m) : Calls Tryz.prog 8 #[.agg (mcs m pa ia ca ba pc ic cc bc)] w (KP (.bool true) w) := by
  have h1 : m.name.length ≤ 9223372036854775807 := by have := hZ.name; omega
  have h2 : m.t.length ≤ 9223372036854775807 := by have := hZ.t; omega
  by_cases hS : smB m = true
  · have hsm : ∀ W, Calls Tryz.prog 9 #[.agg (mcs m pa ia ca ba pc ic cc bc)] W (KP (.bool true) W) := fun W => by have := rSmall m pa ia ca ba pc ic cc bc W h1 h2; rw [hS] at this; exact this
    have hn : m.ins.length ≤ 100 := by
      unfold smB at hS
      simp only [Bool.and_eq_true, decide_eq_true_eq] at hS
      exact hS.2.2.2.1
    rcases kinds m.k with h0 | hk | hk | hk | hk | hk | hk | hk | hk | hk | hk | hk | hk | hk | hk | hk
    · exact lKin0 m pa ia ca ba pc ic cc bc .nilIface (fun w => tz8 w) (fun w => tz11 w) (by rw [beq_eq_false_iff_ne]; exact not_kind h0 8 (by omega) (by omega)) (by rw [beq_eq_false_iff_ne]; exact not_kind h0 11 (by omega) (by omega)) w hH hZ hn hsm (fun W => of0 m pa ia ca ba pc ic cc bc W h0)
    · exact lKin0 m pa ia ca ba pc ic cc bc _ (fun w => tn1_8 w _) (fun w => tn1_11 w _) (by rw [hk]; rfl) (by rw [hk]; rfl) w hH hZ hn hsm (fun W => of1 m pa ia ca ba pc ic cc bc W hk)
    · exact lKin0 m pa ia ca ba pc ic cc bc _ (fun w => tn2_8 w _) (fun w => tn2_11 w _) (by rw [hk]; rfl) (by rw [hk]; rfl) w hH hZ hn hsm (fun W => of2 m pa ia ca ba pc ic cc bc W hk)
    · exact lKin0 m pa ia ca ba pc ic cc bc _ (fun w => tn3_8 w _) (fun w => tn3_11 w _) (by rw [hk]; rfl) (by rw [hk]; rfl) w hH hZ hn hsm (fun W => of3 m pa ia ca ba pc ic cc bc W hk)
    · exact lKin0 m pa ia ca ba pc ic cc bc _ (fun w => tn4_8 w _) (fun w => tn4_11 w _) (by rw [hk]; rfl) (by rw [hk]; rfl) w hH hZ hn hsm (fun W => of4 m pa ia ca ba pc ic cc bc W hk)
    · exact lKin0 m pa ia ca ba pc ic cc bc _ (fun w => tn5_8 w _) (fun w => tn5_11 w _) (by rw [hk]; rfl) (by rw [hk]; rfl) w hH hZ hn hsm (fun W => of5 m pa ia ca ba pc ic cc bc W hk)
    · exact lKin0 m pa ia ca ba pc ic cc bc _ (fun w => tn6_8 w _) (fun w => tn6_11 w _) (by rw [hk]; rfl) (by rw [hk]; rfl) w hH hZ hn hsm (fun W => of6 m pa ia ca ba pc ic cc bc W hk)
    · exact lKin0 m pa ia ca ba pc ic cc bc _ (fun w => tn7_8 w _) (fun w => tn7_11 w _) (by rw [hk]; rfl) (by rw [hk]; rfl) w hH hZ hn hsm (fun W => of7 m pa ia ca ba pc ic cc bc W hk)
    · exact lKin8 m pa ia ca ba pc ic cc bc hk w hH hZ hn hsm (fun W => of8 m pa ia ca ba pc ic cc bc W hk)
    · exact lKin0 m pa ia ca ba pc ic cc bc _ (fun w => tn9_8 w _) (fun w => tn9_11 w _) (by rw [hk]; rfl) (by rw [hk]; rfl) w hH hZ hn hsm (fun W => of9 m pa ia ca ba pc ic cc bc W hk)
    · exact lKin0 m pa ia ca ba pc ic cc bc _ (fun w => tn10_8 w _) (fun w => tn10_11 w _) (by rw [hk]; rfl) (by rw [hk]; rfl) w hH hZ hn hsm (fun W => of10 m pa ia ca ba pc ic cc bc W hk)
    · exact lKin11 m pa ia ca ba pc ic cc bc hk w hH hZ hn hsm (fun W => of11 m pa ia ca ba pc ic cc bc W hk)
    · exact lKin0 m pa ia ca ba pc ic cc bc _ (fun w => tn12_8 w _) (fun w => tn12_11 w _) (by rw [hk]; rfl) (by rw [hk]; rfl) w hH hZ hn hsm (fun W => of12 m pa ia ca ba pc ic cc bc W hk)
    · exact lKin0 m pa ia ca ba pc ic cc bc _ (fun w => tn13_8 w _) (fun w => tn13_11 w _) (by rw [hk]; rfl) (by rw [hk]; rfl) w hH hZ hn hsm (fun W => of13 m pa ia ca ba pc ic cc bc W hk)
    · exact lKin0 m pa ia ca ba pc ic cc bc _ (fun w => tn14_8 w _) (fun w => tn14_11 w _) (by rw [hk]; rfl) (by rw [hk]; rfl) w hH hZ hn hsm (fun W => of14 m pa ia ca ba pc ic cc bc W hk)
    · exact lKin0 m pa ia ca ba pc ic cc bc _ (fun w => tn15_8 w _) (fun w => tn15_11 w _) (by rw [hk]; rfl) (by rw [hk]; rfl) w hH hZ hn hsm (fun W => of15 m pa ia ca ba pc ic cc bc W hk)
  · have hS : smB m = false := by simpa using hS
    exact lKinBig (mcs m pa ia ca ba pc ic cc bc) (mcs_size m pa ia ca ba pc ic cc bc) w (fun W => by have := rSmall m pa ia ca ba pc ic cc bc W h1 h2; rw [hS] at this; exact this)
end Go.Proofs.YtdmlgheajblcdaaGreat
