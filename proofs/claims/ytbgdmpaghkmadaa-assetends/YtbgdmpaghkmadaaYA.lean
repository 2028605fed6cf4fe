/- layer 13: laws Tells and Ends -/
import Derived.Test.YtbgdmpaghkmadaaU
import Derived.WalkKit
import Derived.ProofKit
import Derived.Handy
import Derived.WalkLawsBesides
import Derived.WalkSpells
import Derived.BigQuiet
import Derived.BigCall
import Derived.Deep.QuietTactic
import Derived.Deep.Light
import Derived.Deep.OwnRows
import Derived.Laws.AppendOwnNone
import Derived.Laws.Strings3
import Derived.Laws.RangeAny
import Derived.Deep.RegionWith
import Derived.Lib.BitFns
import Derived.Lib.Walk
import Derived.Lib.Strings
import Derived.Lib.OthersKept
import Derived.Deep.CutBlock
import Derived.Deep.DeepCutAuto
import Derived.Deep.LoopGhost
import Derived.Deep.RegionHeld3
import Derived.Lib.SmallJoins
import Derived.Maps.AppendAt
import Derived.Laws.IdiomStrings
import Derived.Lib.AppendZeros
import Derived.Deep.WholeRow
import Derived.Laws.BitsAllLaws
import Derived.Lib.ConvBytes
import Derived.Deep.RegionLaw
import Derived.Maps.OwnSet
import Derived.Maps.OwnOps
import Derived.Maps.RangeWalk
import Derived.Maps.Ext
import Derived.DeepKeys4
import Derived.Laws.StructEq
import Derived.Deep.MidRow
import Derived.Lib.Bytealg
import Derived.Lib.Overlaps
import Derived.Lib.AppendZerosOnto
import Derived.Laws.MakeOwn
namespace Go.Proofs.Ytbgdmpaghkmadaa
open Go.RowKit
set_option linter.unusedVariables false
set_option linter.unusedSimpArgs false
open Num
set_option maxRecDepth 20000
theorem load27 (W : World) (b p : Nat) (v0 v1 v2 v3 v4 : Value) (c0 : W.cell? ⟨b, p, none⟩ = some v0) (c1 : W.cell? ⟨b, p + 1, none⟩ = some v1) (c2 : W.cell? ⟨b, p + 2, none⟩ = some v2) (c3 : W.cell? ⟨b, p + 3, none⟩ = some v3) (c4 : W.cell? ⟨b, p + 4, none⟩ = some v4) : (Instr.loadAt 27 (.pointer (some ⟨b, p, none⟩))).run Try.prog W = .ok (.agg #[v0, v1, v2, v3, v4]) W := by
  go_simp
set_option maxHeartbeats 16000000 in
theorem ltells (xs : List Ac) (a0 : Option Addr) (cap : Nat) (n : ByteArray) (w : World) (h : Acs w a0 xs) : Calls Try.prog 4 #[.slice a0 xs.length cap, .string n] w (OkP w) := by
  have HAw : Hid (∀ w, Calls Try.prog 12 #[] w (OkP w)) := fun w => xawake w
  have HFi : Hid (Calls Try.prog 13 #[.slice a0 xs.length cap] w (FiP w)) := xfilled xs a0 cap w h
  clear h
  go_enter Try.func4, Try.ntmps4
  go_wp2_with (go_at_call 13; refine HFi.out.mono ?_; clear HFi; rintro e w1 ⟨L, v, lp, al, cl, rfl, HZ⟩)
  have g := HZ.out.1
  have hd := HZ.out.2
  have HG : Hid (Num.Good L) := g
  have HD : Hid (Ds w w1 w.heap.size v lp L L al cl) := hd
  have HFx : Hid (Calls Try.prog 14 #[.slice al L.length cl, .string n] w1 (FxP (fx L n.toList) w1)) := rfind g.srt (by have := g.len; omega) n al cl w1 hd.rw
  have hlen : (L.length : Int) ≤ 64 := by have := g.len; omega
  cases hh : has L n.toList with
  | false =>
    have hf : fx L n.toList = -1 := by unfold fx; rw [hh]; rfl
    have hfc := hd.x.fnc g n
    rw [hh] at hfc
    rw [hf] at HFx
    have HGt : Hid (Calls Try.prog 15 #[.pointer (some ⟨w.heap.size, 0, none⟩), .string n] w1 fun e w2 => e = .returned (.tuple #[.agg #[.string ⟨#[]⟩, .int .i64 0, .int .i64 0, .int .i64 0, .string ⟨#[]⟩], .bool false]) ∧ Hid (Below w.heap.size w w2 ∧ Below w1.heap.size w1 w2)) := (xget_no w1 hfc).mono fun e w2 k => ⟨k.1, HD.out.b.trans (k.2.mono HD.out.b.size), k.2⟩
    have HPr : Hid (∀ w2, Below w1.heap.size w1 w2 → Calls Try.prog 16 #[.pointer (some ⟨w.heap.size, 0, none⟩), .string n] w2 fun e w3 => e = .returned (.tuple #[.int .i64 0, .bool false]) ∧ Hid (Below w2.heap.size w2 w3)) := fun w2 hb => (xprice_no w2 (fun w' hb' => hfc w' (hb.trans (hb'.mono hb.size)))).mono fun e w3 k => ⟨k.1, k.2⟩
    clear hh hf hfc g hd HZ
    go_wp2_with (first | (go_at_call 14; refine HFx.out.mono ?_; clear HFx; rintro e w2 ⟨rfl, rfl⟩) | (go_at_call 15; refine HGt.out.mono ?_; clear HGt; rintro e w2 ⟨rfl, HB2⟩) | (go_at_call 16; refine (HPr.out _ (HB2.out.2.alloc HB2.out.2.size _)).mono ?_; clear HPr; rintro e w3 ⟨rfl, HB3⟩; have HX3 : Bx w3 w2.heap.size #[.string ⟨#[]⟩, .int .i64 0, .int .i64 0, .int .i64 0, .string ⟨#[]⟩] 27 := (Bx.new w2 _ _).below HB3.out (Bx.new w2 _ _).lt; have HB4 : Hid (Below w.heap.size w w3) := (HB2.out.1.alloc HB2.out.1.size _).trans (HB3.out.mono (HB2.out.1.alloc HB2.out.1.size (.cells #[.string ⟨#[]⟩, .int .i64 0, .int .i64 0, .int .i64 0, .string ⟨#[]⟩] 27)).size); have q0 : w3.cell? ⟨w2.heap.size, 0, none⟩ = some (.string ⟨#[]⟩) := HX3.cell 0; have q1 : w3.cell? ⟨w2.heap.size, 1, none⟩ = some (.int .i64 0) := HX3.cell 1; have q2 : w3.cell? ⟨w2.heap.size, 2, none⟩ = some (.int .i64 0) := HX3.cell 2; have q3 : w3.cell? ⟨w2.heap.size, 3, none⟩ = some (.int .i64 0) := HX3.cell 3; have q4 : w3.cell? ⟨w2.heap.size, 4, none⟩ = some (.string ⟨#[]⟩) := HX3.cell 4; have hx3l : w2.heap.size < w3.heap.size := HX3.lt; clear HX3 HB2 HB3) | (go_at_call 12; refine (HAw.out _).mono ?_; rintro e w9 ⟨rfl, HB9⟩))
    go_ret
    exact ⟨by simp, HB4.out.trans (HB9.mono HB4.out.size)⟩
  | true =>
    have hp : pos L n.toList < L.length := (has_pos g.srt hh).1
    have hf : fx L n.toList = pos L n.toList := by unfold fx; rw [hh]; rfl
    rw [hf] at HFx
    have hgt := xget_yes hd.x g n hh hp
    have hpr := fun (w2 : World) (hb : Below w1.heap.size w1 w2) => xprice_yes (hd.x.below hb) g n hh hp
    rw [pri_at hp] at hpr
    have hrw := hd.rw
    obtain ⟨blk, off, rfl, hbl, hcs⟩ := hrw (by omega)
    have hrows := fun (w2 : World) (hb : Below w1.heap.size w1 w2) => Rw.at6 hcs hb hbl hp
    have f1 := (g.all L[pos L n.toList] (List.getElem_mem hp)).p0
    have hpz : (pos L n.toList : Int) < (L.length : Int) := by omega
    clear hh hf hcs hrw
    generalize L[pos L n.toList] = x at *
    obtain ⟨⟨xi, xa, xb, xc, xs⟩, xp⟩ := x
    simp only at *
    generalize pos L n.toList = P at *
    have hpn : ¬ (P : Int) < 0 := by omega
    have HRo : Hid (∀ w2, Below w1.heap.size w1 w2 → w2.cell? ⟨blk, off + P * 6, none⟩ = some (.string xi) ∧ w2.cell? ⟨blk, off + P * 6 + 1, none⟩ = some (.int .i64 xa) ∧ w2.cell? ⟨blk, off + P * 6 + 2, none⟩ = some (.int .i64 xb) ∧ w2.cell? ⟨blk, off + P * 6 + 3, none⟩ = some (.int .i64 xc) ∧ w2.cell? ⟨blk, off + P * 6 + 4, none⟩ = some (.string xs) ∧ w2.cell? ⟨blk, off + P * 6 + 5, none⟩ = some (.int .i64 xp)) := hrows
    have HGt : Hid (Calls Try.prog 15 #[.pointer (some ⟨w.heap.size, 0, none⟩), .string n] w1 fun e w2 => e = .returned (.tuple #[.agg #[.string xi, .int .i64 xa, .int .i64 xb, .int .i64 xc, .string xs], .bool true]) ∧ Hid (Below w.heap.size w w2 ∧ Below w1.heap.size w1 w2)) := hgt.mono fun e w2 k => ⟨k.1, HD.out.b.trans (k.2.mono HD.out.b.size), k.2⟩
    have HPr : Hid (∀ w2, Below w1.heap.size w1 w2 → Calls Try.prog 16 #[.pointer (some ⟨w.heap.size, 0, none⟩), .string n] w2 fun e w3 => e = .returned (.tuple #[.int .i64 xp, .bool (decide (xp ≠ 0))]) ∧ Hid (Below w2.heap.size w2 w3)) := fun w2 hb => (hpr w2 hb).mono fun e w3 k => ⟨k.1, k.2⟩
    have hdp : decide (xp ≠ 0) = decide (0 < xp) := by rw [decide_eq_decide]; omega
    rw [hdp] at HPr
    have HBL : Hid (blk < w1.heap.size) := hbl
    clear hgt hpr hrows g hd HZ hp hdp hbl
    go_wp2_with (first | (go_at_call 14; refine HFx.out.mono ?_; clear HFx; rintro e w2 ⟨rfl, rfl⟩) | (go_at_call 15; refine HGt.out.mono ?_; clear HGt; rintro e w2 ⟨rfl, HB2⟩) | (go_at_call 16; refine (HPr.out _ (HB2.out.2.alloc HB2.out.2.size _)).mono ?_; clear HPr; rintro e w3 ⟨rfl, HB3⟩; have HX3 : Bx w3 w2.heap.size #[.string xi, .int .i64 xa, .int .i64 xb, .int .i64 xc, .string xs] 27 := (Bx.new w2 _ _).below HB3.out (Bx.new w2 _ _).lt; have HB4 : Hid (Below w.heap.size w w3) := (HB2.out.1.alloc HB2.out.1.size _).trans (HB3.out.mono (HB2.out.1.alloc HB2.out.1.size (.cells #[.string xi, .int .i64 xa, .int .i64 xb, .int .i64 xc, .string xs] 27)).size); have q0 : w3.cell? ⟨w2.heap.size, 0, none⟩ = some (.string xi) := HX3.cell 0; have q1 : w3.cell? ⟨w2.heap.size, 1, none⟩ = some (.int .i64 xa) := HX3.cell 1; have q2 : w3.cell? ⟨w2.heap.size, 2, none⟩ = some (.int .i64 xb) := HX3.cell 2; have q3 : w3.cell? ⟨w2.heap.size, 3, none⟩ = some (.int .i64 xc) := HX3.cell 3; have q4 : w3.cell? ⟨w2.heap.size, 4, none⟩ = some (.string xs) := HX3.cell 4; have hbl3 : blk < w3.heap.size := Nat.lt_of_lt_of_le HBL.out ((HB2.out.2.alloc HB2.out.2.size _).trans (HB3.out.mono (HB2.out.2.alloc HB2.out.2.size (.cells #[.string xi, .int .i64 xa, .int .i64 xb, .int .i64 xc, .string xs] 27)).size)).size; obtain ⟨r0, r1, r2, r3, r4, r5⟩ := HRo.out w3 ((HB2.out.2.alloc HB2.out.2.size _).trans (HB3.out.mono (HB2.out.2.alloc HB2.out.2.size (.cells #[.string xi, .int .i64 xa, .int .i64 xb, .int .i64 xc, .string xs] 27)).size)); have hx3l : w2.heap.size < w3.heap.size := HX3.lt; clear HX3 HB2 HB3) | (go_at_call 12; refine (HAw.out _).mono ?_; rintro e w9 ⟨rfl, HB9⟩))
    have hl2 : w2.heap.size < w3.heap.size := hx3l
    have hS0 : Below w3.heap.size w3 w3.drew := (Below.refl _ w3).drew
    refine wp_region_held (S := fun W => Below w3.heap.size w3 W) (by kernel_rfl) ?_
    change wpAnyH _ _ _ _ _ 33 #[false, false, false, false, false, false, false, false, false, false, false, false, false, false, false, false, false, false, false, false, false, false, false, false, false, false, false, false, false, false, false, false, false] _ w3.drew
    obtain ⟨v0, hv0⟩ : ∃ v, v = w3.drew := ⟨_, rfl⟩
    rw [← hv0] at hS0 ⊢
    clear hv0
    refine takeR (fuel := 32) (i := 0) (v := .bool true) rfl (by kernel_rfl) (by kernel_rfl) (by kernel_rfl) (fun _ _ _ h => h) (Or.inl ⟨rfl, fun W hW => by go_simp⟩) hS0 ?_
    simp only [Act.put, List.setIfInBounds_toArray, List.set_cons_zero, List.set_cons_succ]
    refine takeR (fuel := 31) (i := 1) (v := .bool true) rfl (by kernel_rfl) (by kernel_rfl) (by kernel_rfl) (fun _ _ _ h => h) (Or.inl ⟨rfl, fun W hW => by go_simp⟩) hS0 ?_
    simp only [Act.put, List.setIfInBounds_toArray, List.set_cons_zero, List.set_cons_succ]
    refine takeR (fuel := 30) (i := 2) (v := .agg #[.string xi, .int .i64 xa, .int .i64 xb, .int .i64 xc, .string xs]) rfl (by kernel_rfl) (by kernel_rfl) (by kernel_rfl) (fun _ _ _ h => h) (Or.inl ⟨rfl, fun W hW => exl _ _ 27 _ rfl (.pointer (some ⟨w2.heap.size, 0, none⟩)) _ rfl (load27 W w2.heap.size 0 _ _ _ _ _ ((hW.cell (p := ⟨w2.heap.size, 0, none⟩) hl2).trans q0) ((hW.cell (p := ⟨w2.heap.size, 1, none⟩) hl2).trans q1) ((hW.cell (p := ⟨w2.heap.size, 2, none⟩) hl2).trans q2) ((hW.cell (p := ⟨w2.heap.size, 3, none⟩) hl2).trans q3) ((hW.cell (p := ⟨w2.heap.size, 4, none⟩) hl2).trans q4))⟩) hS0 ?_
    simp only [Act.put, List.setIfInBounds_toArray, List.set_cons_zero, List.set_cons_succ]
    refine takeR (fuel := 29) (i := 3) (v := .slice (some ⟨blk, off, none⟩) L.length cl) rfl (by kernel_rfl) (by kernel_rfl) (by kernel_rfl) (fun _ _ _ h => h) (Or.inl ⟨rfl, fun W hW => by go_simp⟩) hS0 ?_
    simp only [Act.put, List.setIfInBounds_toArray, List.set_cons_zero, List.set_cons_succ]
    refine takeR (fuel := 28) (i := 4) (v := .int .i64 P) rfl (by kernel_rfl) (by kernel_rfl) (by kernel_rfl) (fun _ _ _ h => h) (Or.inl ⟨rfl, fun W hW => by go_simp⟩) hS0 ?_
    simp only [Act.put, List.setIfInBounds_toArray, List.set_cons_zero, List.set_cons_succ]
    refine takeR (fuel := 27) (i := 5) (v := .pointer (some ⟨blk, off + P * 6, none⟩)) rfl (by kernel_rfl) (by kernel_rfl) (by kernel_rfl) (fun _ _ _ h => h) (Or.inl ⟨rfl, fun W hW => by go_simp⟩) hS0 ?_
    simp only [Act.put, List.setIfInBounds_toArray, List.set_cons_zero, List.set_cons_succ]
    refine takeR (fuel := 26) (i := 6) (v := .pointer (some ⟨blk, off + P * 6, none⟩)) rfl (by kernel_rfl) (by kernel_rfl) (by kernel_rfl) (fun _ _ _ h => h) (Or.inl ⟨rfl, fun W hW => by go_simp⟩) hS0 ?_
    simp only [Act.put, List.setIfInBounds_toArray, List.set_cons_zero, List.set_cons_succ]
    refine takeR (fuel := 25) (i := 7) (v := .agg #[.string xi, .int .i64 xa, .int .i64 xb, .int .i64 xc, .string xs]) rfl (by kernel_rfl) (by kernel_rfl) (by kernel_rfl) (fun _ _ _ h => h) (Or.inl ⟨rfl, fun W hW => exl _ _ 27 _ rfl (.pointer (some ⟨blk, off + P * 6, none⟩)) _ rfl (load27 W blk (off + P * 6) _ _ _ _ _ ((hW.cell (p := ⟨blk, off + P * 6, none⟩) hbl3).trans r0) ((hW.cell (p := ⟨blk, off + P * 6 + 1, none⟩) hbl3).trans r1) ((hW.cell (p := ⟨blk, off + P * 6 + 2, none⟩) hbl3).trans r2) ((hW.cell (p := ⟨blk, off + P * 6 + 3, none⟩) hbl3).trans r3) ((hW.cell (p := ⟨blk, off + P * 6 + 4, none⟩) hbl3).trans r4))⟩) hS0 ?_
    simp only [Act.put, List.setIfInBounds_toArray, List.set_cons_zero, List.set_cons_succ]
    refine takeR (fuel := 24) (i := 8) (v := .bool true) rfl (by kernel_rfl) (by kernel_rfl) (by kernel_rfl) (fun _ _ _ h => h) (Or.inl ⟨rfl, fun W hW => by go_simp⟩) hS0 ?_
    simp only [Act.put, List.setIfInBounds_toArray, List.set_cons_zero, List.set_cons_succ]
    refine takeR (fuel := 23) (i := 9) (v := .bool true) rfl (by kernel_rfl) (by kernel_rfl) (by kernel_rfl) (fun _ _ _ h => h) (Or.inl ⟨rfl, fun W hW => by go_simp⟩) hS0 ?_
    simp only [Act.put, List.setIfInBounds_toArray, List.set_cons_zero, List.set_cons_succ]
    refine takeR (fuel := 22) (i := 10) (v := .bool true) rfl (by kernel_rfl) (by kernel_rfl) (by kernel_rfl) (fun _ _ _ h => h) (Or.inl ⟨rfl, fun W hW => by go_simp⟩) hS0 ?_
    simp only [Act.put, List.setIfInBounds_toArray, List.set_cons_zero, List.set_cons_succ]
    refine takeR (fuel := 21) (i := 11) (v := .int .i64 xp) rfl (by kernel_rfl) (by kernel_rfl) (by kernel_rfl) (fun _ _ _ h => h) (Or.inl ⟨rfl, fun W hW => by go_simp⟩) hS0 ?_
    simp only [Act.put, List.setIfInBounds_toArray, List.set_cons_zero, List.set_cons_succ]
    refine takeR (fuel := 20) (i := 12) (v := .slice (some ⟨blk, off, none⟩) L.length cl) rfl (by kernel_rfl) (by kernel_rfl) (by kernel_rfl) (fun _ _ _ h => h) (Or.inl ⟨rfl, fun W hW => by go_simp⟩) hS0 ?_
    simp only [Act.put, List.setIfInBounds_toArray, List.set_cons_zero, List.set_cons_succ]
    refine takeR (fuel := 19) (i := 13) (v := .int .i64 P) rfl (by kernel_rfl) (by kernel_rfl) (by kernel_rfl) (fun _ _ _ h => h) (Or.inl ⟨rfl, fun W hW => by go_simp⟩) hS0 ?_
    simp only [Act.put, List.setIfInBounds_toArray, List.set_cons_zero, List.set_cons_succ]
    refine takeR (fuel := 18) (i := 14) (v := .pointer (some ⟨blk, off + P * 6, none⟩)) rfl (by kernel_rfl) (by kernel_rfl) (by kernel_rfl) (fun _ _ _ h => h) (Or.inl ⟨rfl, fun W hW => by go_simp⟩) hS0 ?_
    simp only [Act.put, List.setIfInBounds_toArray, List.set_cons_zero, List.set_cons_succ]
    refine takeR (fuel := 17) (i := 15) (v := .pointer (some ⟨blk, off + P * 6 + 5, none⟩)) rfl (by kernel_rfl) (by kernel_rfl) (by kernel_rfl) (fun _ _ _ h => h) (Or.inl ⟨rfl, fun W hW => by go_simp⟩) hS0 ?_
    simp only [Act.put, List.setIfInBounds_toArray, List.set_cons_zero, List.set_cons_succ]
    refine takeR (fuel := 16) (i := 16) (v := .int .i64 xp) rfl (by kernel_rfl) (by kernel_rfl) (by kernel_rfl) (fun _ _ _ h => h) (Or.inl ⟨rfl, fun W hW => by have cj : W.cell? ⟨blk, off + P * 6 + 5, none⟩ = some (.int .i64 xp) := (hW.cell (p := ⟨blk, off + P * 6 + 5, none⟩) hbl3).trans r5; go_simp⟩) hS0 ?_
    simp only [Act.put, List.setIfInBounds_toArray, List.set_cons_zero, List.set_cons_succ]
    refine takeR (fuel := 15) (i := 17) (v := .bool true) rfl (by kernel_rfl) (by kernel_rfl) (by kernel_rfl) (fun _ _ _ h => h) (Or.inl ⟨rfl, fun W hW => by go_simp⟩) hS0 ?_
    simp only [Act.put, List.setIfInBounds_toArray, List.set_cons_zero, List.set_cons_succ]
    refine takeR (fuel := 14) (i := 18) (v := .bool true) rfl (by kernel_rfl) (by kernel_rfl) (by kernel_rfl) (fun _ _ _ h => h) (Or.inl ⟨rfl, fun W hW => by go_simp⟩) hS0 ?_
    simp only [Act.put, List.setIfInBounds_toArray, List.set_cons_zero, List.set_cons_succ]
    refine takeR (fuel := 13) (i := 19) (v := .bool true) rfl (by kernel_rfl) (by kernel_rfl) (by kernel_rfl) (fun _ _ _ h => h) (Or.inl ⟨rfl, fun W hW => by go_simp⟩) hS0 ?_
    simp only [Act.put, List.setIfInBounds_toArray, List.set_cons_zero, List.set_cons_succ]
    refine takeR (fuel := 12) (i := 20) (v := .bool (decide (0 < xp))) rfl (by kernel_rfl) (by kernel_rfl) (by kernel_rfl) (fun _ _ _ h => h) (Or.inl ⟨rfl, fun W hW => by go_simp⟩) hS0 ?_
    simp only [Act.put, List.setIfInBounds_toArray, List.set_cons_zero, List.set_cons_succ]
    refine takeR (fuel := 11) (i := 21) (v := .slice (some ⟨blk, off, none⟩) L.length cl) rfl (by kernel_rfl) (by kernel_rfl) (by kernel_rfl) (fun _ _ _ h => h) (Or.inl ⟨rfl, fun W hW => by go_simp⟩) hS0 ?_
    simp only [Act.put, List.setIfInBounds_toArray, List.set_cons_zero, List.set_cons_succ]
    refine takeR (fuel := 10) (i := 22) (v := .int .i64 P) rfl (by kernel_rfl) (by kernel_rfl) (by kernel_rfl) (fun _ _ _ h => h) (Or.inl ⟨rfl, fun W hW => by go_simp⟩) hS0 ?_
    simp only [Act.put, List.setIfInBounds_toArray, List.set_cons_zero, List.set_cons_succ]
    refine takeR (fuel := 9) (i := 23) (v := .pointer (some ⟨blk, off + P * 6, none⟩)) rfl (by kernel_rfl) (by kernel_rfl) (by kernel_rfl) (fun _ _ _ h => h) (Or.inl ⟨rfl, fun W hW => by go_simp⟩) hS0 ?_
    simp only [Act.put, List.setIfInBounds_toArray, List.set_cons_zero, List.set_cons_succ]
    refine takeR (fuel := 8) (i := 24) (v := .pointer (some ⟨blk, off + P * 6 + 5, none⟩)) rfl (by kernel_rfl) (by kernel_rfl) (by kernel_rfl) (fun _ _ _ h => h) (Or.inl ⟨rfl, fun W hW => by go_simp⟩) hS0 ?_
    simp only [Act.put, List.setIfInBounds_toArray, List.set_cons_zero, List.set_cons_succ]
    refine takeR (fuel := 7) (i := 25) (v := .int .i64 xp) rfl (by kernel_rfl) (by kernel_rfl) (by kernel_rfl) (fun _ _ _ h => h) (Or.inl ⟨rfl, fun W hW => by have cj : W.cell? ⟨blk, off + P * 6 + 5, none⟩ = some (.int .i64 xp) := (hW.cell (p := ⟨blk, off + P * 6 + 5, none⟩) hbl3).trans r5; go_simp⟩) hS0 ?_
    simp only [Act.put, List.setIfInBounds_toArray, List.set_cons_zero, List.set_cons_succ]
    refine takeR (fuel := 6) (i := 26) (v := .bool (decide (0 < xp))) rfl (by kernel_rfl) (by kernel_rfl) (by kernel_rfl) (fun _ _ _ h => h) (Or.inl ⟨rfl, fun W hW => by go_simp⟩) hS0 ?_
    simp only [Act.put, List.setIfInBounds_toArray, List.set_cons_zero, List.set_cons_succ]
    refine takeR (fuel := 5) (i := 27) (v := .bool true) rfl (by kernel_rfl) (by kernel_rfl) (by kernel_rfl) (fun _ _ _ h => h) (Or.inl ⟨rfl, fun W hW => by go_simp⟩) hS0 ?_
    simp only [Act.put, List.setIfInBounds_toArray, List.set_cons_zero, List.set_cons_succ]
    refine takeR (fuel := 4) (i := 28) (v := .bool true) rfl (by kernel_rfl) (by kernel_rfl) (by kernel_rfl) (fun _ _ _ h => h) (Or.inl ⟨rfl, fun W hW => by go_simp⟩) hS0 ?_
    simp only [Act.put, List.setIfInBounds_toArray, List.set_cons_zero, List.set_cons_succ]
    refine takeR (fuel := 3) (i := 29) (v := .bool true) rfl (by kernel_rfl) (by kernel_rfl) (by kernel_rfl) (fun _ _ _ h => h) (Or.inl ⟨rfl, fun W hW => by go_simp⟩) hS0 ?_
    simp only [Act.put, List.setIfInBounds_toArray, List.set_cons_zero, List.set_cons_succ]
    refine consR (fuel := 2) (i := 30) rfl (by kernel_rfl) (fun K hK => ?_)
    rw [if_pos (by rfl)]
    go_simp
    refine (HAw.out _).mono ?_
    rintro e v1 ⟨rfl, hb9⟩
    refine hK.out _ _ (hS0.trans (hb9.mono hS0.size)) (fun hS1 => ?_)
    clear hK
    try simp only [Act.put, List.setIfInBounds_toArray, List.set_cons_zero, List.set_cons_succ]
    refine takeR (fuel := 1) (i := 31) (v := .bool true) rfl (by kernel_rfl) (by kernel_rfl) (by kernel_rfl) (fun _ _ _ h => h) (Or.inl ⟨rfl, fun W hW => by go_simp⟩) hS1 ?_
    simp only [Act.put, List.setIfInBounds_toArray, List.set_cons_zero, List.set_cons_succ]
    refine takeR (fuel := 0) (i := 32) (v := .bool true) rfl (by kernel_rfl) (by kernel_rfl) (by kernel_rfl) (fun _ _ _ h => h) (Or.inl ⟨rfl, fun W hW => by go_simp⟩) hS1 ?_
    simp only [Act.put, List.setIfInBounds_toArray, List.set_cons_zero, List.set_cons_succ]
    refine wpAnyH_done (by kernel_rfl) ?_ _
    go_wp2_with fail
    go_ret
    exact ⟨rfl, HB4.out.trans (hS1.mono HB4.out.size)⟩
end Go.Proofs.Ytbgdmpaghkmadaa
