/- Turn. -/
import Derived.Test.YteiilifljfagdaaP
import Derived.WalkKit
import Derived.ProofKit
import Derived.Handy
import Derived.WalkLawsBesides
import Derived.WalkSpells
import Derived.BigQuiet
import Derived.BigCall
import Derived.Deep.QuietTactic
import Derived.Deep.Light
import Derived.Deep.OwnRows
import Derived.Laws.AppendOwnNone
import Derived.Laws.Strings3
import Derived.Laws.RangeAny
import Derived.Deep.RegionWith
import Derived.Lib.BitFns
import Derived.Lib.Walk
import Derived.Lib.Strings
import Derived.Lib.OthersKept
import Derived.Deep.CutBlock
import Derived.Deep.DeepCutAuto
import Derived.Deep.LoopGhost
import Derived.Deep.RegionHeld3
import Derived.Lib.SmallJoins
import Derived.Maps.AppendAt
import Derived.Laws.IdiomStrings
import Derived.Lib.AppendZeros
import Derived.Deep.WholeRow
import Derived.Laws.BitsAllLaws
import Derived.Lib.ConvBytes
import Derived.Deep.RegionLaw
namespace Go.Proofs.Yteiilifljfagdaa
open Go.RowKit
set_option linter.unusedVariables false
set_option linter.unusedSimpArgs false
theorem Jm.drew {B q p f g a : Nat} {w : World} {br : Bool} {s : ByteArray} {v : Value} {cs : List ByteArray} (h : Jm B w q p br f g a s v cs) : Jm B w.drew q p br f g a s v cs := ⟨h.base, h.blk, h.own⟩
theorem Jm.drewN {B q p f g a : Nat} {w : World} {br : Bool} {s : ByteArray} {v : Value} {cs : List ByteArray} (h : Jm B w q p br f g a s v cs) (n : Nat) : Jm B (w.drewN n) q p br f g a s v cs := ⟨h.base, h.blk, h.own⟩
/-- a journal that is looked at, in a later world -/
structure Mm (B q p f g a : Nat) (s : ByteArray) (v : Value) (cs : List ByteArray) (w x : World) : Prop where
  j : Jm B x q p false f g a s v cs
  b : Below w.heap.size w x
section
variable {B q p f g a : Nat} {s : ByteArray} {v : Value} {cs : List ByteArray} {w x y : World}
theorem Mm.next (h : Mm B q p f g a s v cs w x) (hb : Below x.heap.size x y) : Mm B q p f g a s v cs w y := ⟨h.j.keep hb, h.b.trans (hb.mono h.b.size)⟩
theorem Mm.alloc (h : Mm B q p f g a s v cs w x) (o : Obj) : Mm B q p f g a s v cs w (x.alloc o) := h.next (below_new x o)
theorem Mm.drew (h : Mm B q p f g a s v cs w x) : Mm B q p f g a s v cs w x.drew := h.next (bdrew1 (Below.refl _ x))
def zero71 : Array Value := #[.int .i64 0, .int .i64 0, .string ⟨#[]⟩, .slice none 0 0]
/-- a block laid ahead of a call -/
theorem Mm.blk (h : Mm B q p f g a s v cs w x) (hb : Below (x.alloc (.cells zero71 71)).heap.size (x.alloc (.cells zero71 71)) y) : w.heap.size ≤ x.heap.size ∧ y.heap[x.heap.size]? = some (.cells zero71 71 (0, 0)) :=
  ⟨h.b.size, (hb.block _ (by simp)).trans (heap_alloc_new x _)⟩
theorem blk_next {z : Nat} (h : w.heap.size ≤ z ∧ x.heap[z]? = some (.cells zero71 71 (0, 0))) (hb : Below x.heap.size x y) : w.heap.size ≤ z ∧ y.heap[z]? = some (.cells zero71 71 (0, 0)) :=
  ⟨h.1, (hb.block _ (Array.getElem?_eq_some_iff.1 h.2).1).trans h.2⟩
theorem blk_cells {z : Nat} (h : w.heap.size ≤ z ∧ x.heap[z]? = some (.cells zero71 71 (0, 0))) : x.cell? ⟨z, 0, none⟩ = some (.int .i64 0) ∧ x.cell? ⟨z, 1, none⟩ = some (.int .i64 0) ∧ x.cell? ⟨z, 2, none⟩ = some (.string ⟨#[]⟩) ∧ x.cell? ⟨z, 3, none⟩ = some (.slice none 0 0) ∧ x.frozen? ⟨z, 0, none⟩ = false ∧ x.frozen? ⟨z, 1, none⟩ = false ∧ x.frozen? ⟨z, 2, none⟩ = false ∧ x.frozen? ⟨z, 3, none⟩ = false := by
  have hf : ∀ j, x.frozen? ⟨z, j, none⟩ = false := fun j => by simp [World.frozen?, h.2]
  exact ⟨cell_of_row x z 0 _ 71 (0, 0) h.2, cell_of_row x z 1 _ 71 (0, 0) h.2, cell_of_row x z 2 _ 71 (0, 0) h.2, cell_of_row x z 3 _ 71 (0, 0) h.2, hf 0, hf 1, hf 2, hf 3⟩
end
theorem Mm.set4 {B q p f g a : Nat} {s : ByteArray} {v : Value} {cs : List ByteArray} {w x : World} (h : Mm B q p f g a s v cs w x) {z : Nat} (hz : w.heap.size ≤ z ∧ x.heap[z]? = some (.cells zero71 71 (0, 0))) (y0 y1 y2 y3 : Value) : Mm B q p f g a s v cs w ((((x.setCell ⟨z, 0, none⟩ y0).setCell ⟨z, 1, none⟩ y1).setCell ⟨z, 2, none⟩ y2).setCell ⟨z, 3, none⟩ y3) := by
  have hq : q ≠ z := blk_ne h.j.blk hz.2 (by decide)
  exact ⟨⟨h.j.base, (four_other hq _ _ _ _).trans h.j.blk, own_blk h.j.own fun k hk => four_other (by intro e; exact own_ne9 h.j.own hz.2 (by decide) (by rw [hk, e])) _ _ _ _⟩, four_below h.b hz.1 _ _ _ _⟩
/-- ahead of the disk's changes in Turn -/
def Tm (B q p f g a : Nat) (S : St) (V : Nat → Value) (s : ByteArray) (v : Value) (cs : List ByteArray) (t : ByteArray) (w x : World) (z : Nat) : Prop :=
  Jm B x q p false f g a s v cs ∧ Dk B x p S V ∧ Jf B p q v.ownBlock w x ∧ x.heap[z]? = some (.cells #[.int .i64 ((g : Int) + 1), .int .i64 ((a : Int) + (cs.length : Int)), .string t, .slice none 0 0] 71 (0, 0))
section
variable {B q p f g a : Nat} {S : St} {V : Nat → Value} {s t : ByteArray} {v : Value} {cs : List ByteArray} {w x : World}
theorem Tm.of_alloc (hd : Dk B w p S V) (h : Mm B q p f g a s v cs w x) : Tm B q p f g a S V s v cs t w (x.alloc (.cells #[.int .i64 ((g : Int) + 1), .int .i64 ((a : Int) + (cs.length : Int)), .string t, .slice none 0 0] 71)) x.heap.size := by
  have h2 := h.alloc (.cells #[.int .i64 ((g : Int) + 1), .int .i64 ((a : Int) + (cs.length : Int)), .string t, .slice none 0 0] 71)
  exact ⟨h2.j, hd.below h2.b, Jf.of_below h2.b hd.bw, heap_alloc_new x _⟩
theorem Tm.of_set (hd : Dk B w p S V) (h : Mm B q p f g a s v cs w x) {z : Nat} (hz : w.heap.size ≤ z ∧ x.heap[z]? = some (.cells zero71 71 (0, 0))) : Tm B q p f g a S V s v cs t w ((((x.setCell ⟨z, 0, none⟩ (.int .i64 ((g : Int) + 1))).setCell ⟨z, 1, none⟩ (.int .i64 ((a : Int) + (cs.length : Int)))).setCell ⟨z, 2, none⟩ (.string t)).setCell ⟨z, 3, none⟩ (.slice none 0 0)) z := by
  have hb := four_below h.b hz.1 (.int .i64 ((g : Int) + 1)) (.int .i64 ((a : Int) + (cs.length : Int))) (.string t) (.slice none 0 0)
  have hq : q ≠ z := blk_ne h.j.blk hz.2 (by decide)
  refine ⟨⟨h.j.base, (four_other hq _ _ _ _).trans h.j.blk, own_blk h.j.own fun k hk => four_other (by intro e; exact own_ne9 h.j.own hz.2 (by decide) (by rw [hk, e])) _ _ _ _⟩, hd.below hb, Jf.of_below hb hd.bw, four_set hz.2 _ _ _ _⟩
end
theorem setq {B q p : Nat} {c : Option Nat} {S : St} {V : Nat → Value} {w x : World} {cs0 : Array Value} (hb : x.heap[q]? = some (.cells cs0 73 (0, 0))) (hd : Dk B x p S V) (hf : Jf B p q c w x) (hq : B ≤ q) (k : Nat) (u : Value) : (x.setCell ⟨q, k, none⟩ u).heap[q]? = some (.cells (cs0.setIfInBounds k u) 73 (0, 0)) ∧ Dk B (x.setCell ⟨q, k, none⟩ u) p S V ∧ Jf B p q c w (x.setCell ⟨q, k, none⟩ u) :=
  ⟨set_blk hb u, hd.setQ hb (by decide) (by decide) k u, hf.trans (Jf.set hq k u)⟩
theorem Tm.turned {B q p f g a : Nat} {S : St} {V : Nat → Value} {s t : ByteArray} {v : Value} {cs : List ByteArray} {w x : World} {z : Nat} (h : Tm B q p f g a S V s v cs t w x z) (hf : f ≤ 1) {y : World}
    (hy : y = (((((x.setCell ⟨q, 3, none⟩ (.int .i64 (1 - (f : Int)))).setCell ⟨q, 4, none⟩ (.int .i64 ((g : Int) + 1))).setCell ⟨q, 5, none⟩ (.int .i64 ((a : Int) + (cs.length : Int)))).setCell ⟨q, 6, none⟩ (.string t)).setCell ⟨q, 7, none⟩ (.slice none 0 0)).drew) :
    Dk B y p S V ∧ Jf B p q v.ownBlock w y ∧ Jm B y q p false (1 - f) (g + 1) (a + cs.length) t (.slice none 0 0) [] := by
  obtain ⟨h1, h2, h3, _⟩ := h
  have hq := h1.base
  have b0 := h1.blk
  obtain ⟨b1, d1, j1⟩ := setq b0 h2 h3 hq 3 (.int .i64 (1 - (f : Int)))
  generalize x.setCell ⟨q, 3, none⟩ (.int .i64 (1 - (f : Int))) = x1 at *
  obtain ⟨b2, d2, j2⟩ := setq b1 d1 j1 hq 4 (.int .i64 ((g : Int) + 1))
  generalize x1.setCell ⟨q, 4, none⟩ (.int .i64 ((g : Int) + 1)) = x2 at *
  obtain ⟨b3, d3, j3⟩ := setq b2 d2 j2 hq 5 (.int .i64 ((a : Int) + (cs.length : Int)))
  generalize x2.setCell ⟨q, 5, none⟩ (.int .i64 ((a : Int) + (cs.length : Int))) = x3 at *
  obtain ⟨b4, d4, j4⟩ := setq b3 d3 j3 hq 6 (.string t)
  generalize x3.setCell ⟨q, 6, none⟩ (.string t) = x4 at *
  obtain ⟨b5, d5, j5⟩ := setq b4 d4 j4 hq 7 (.slice none 0 0)
  generalize x4.setCell ⟨q, 7, none⟩ (.slice none 0 0) = x5 at *
  subst hy
  refine ⟨⟨d5.base, d5.blk, d5.own, d5.apart⟩, ⟨bdrew1 j5.1, j5.2⟩, h1.base, ?_, World.ownsRow_nil _ _ _ _⟩
  refine Eq.trans b5 ?_
  show some (Obj.cells #[.bool true, .bool false, .pointer (some ⟨p, 0, none⟩), .int .i64 (1 - (f : Int)), .int .i64 ((g : Int) + 1), .int .i64 ((a : Int) + (cs.length : Int)), .string t, .slice none 0 0] 73 (0, 0)) = _
  rw [show 1 - (f : Int) = ((1 - f : Nat) : Int) by omega, show (g : Int) + 1 = ((g + 1 : Nat) : Int) by omega, show (a : Int) + (cs.length : Int) = ((a + cs.length : Nat) : Int) by omega]
  rfl
def TnP (B p q f g a : Nat) (S : St) (v : Value) (cs : List ByteArray) (t : ByteArray) (w : World) (e : Ending) (w' : World) : Prop :=
  e = .returned (.int .i64 (tnR S (1 - f) (lay (g + 1) (a + cs.length) t.data.toList)).2) ∧ (∃ V', Hid (Dk B w' p (tnR S (1 - f) (lay (g + 1) (a + cs.length) t.data.toList)).1 V')) ∧ Hid (Jf B p q v.ownBlock w w') ∧
  ((tnR S (1 - f) (lay (g + 1) (a + cs.length) t.data.toList)).2 = 0 → Hid (Jm B w' q p false (1 - f) (g + 1) (a + cs.length) t (.slice none 0 0) []))
theorem tnR_wrt (S : St) (o : Nat) (s : List UInt8) : tnR S o s = thn (ctf S o 0) fun D => wrt D o (ba s) := by
  unfold tnR wrt
  by_cases h : (ctf S o 0).2 = 0
  · rw [thn_ok (r := ctf S o 0) h, thn_ok (r := ctf S o 0) h]
  · rw [thn_no (r := ctf S o 0) h, thn_no h, thn_no h]
set_option maxHeartbeats 4000000 in
set_option maxRecDepth 100000 in
theorem xturn (B q p f g a : Nat) (S : St) (V : Nat → Value) (s : ByteArray) (v : Value) (cs : List ByteArray) (w : World) (hj : Jm B w q p false f g a s v cs) (h : Dk B w p S V) (ok : Ok S) (t : ByteArray) (hf : f ≤ 1) (hl : cs.length ≤ 1048576) (ht : Fit (g + 1) (a + cs.length) t.data.toList) (hz : (lay (g + 1) (a + cs.length) t.data.toList).length ≤ 1048576) : Calls Try.prog 24 #[.pointer (some ⟨q, 0, none⟩), .string t] w (TnP B p q f g a S v cs t w) := by
  have HJ : Hid (Jm B w q p false f g a s v cs) := hj
  have HD : Hid (Dk B w p S V) := h
  have hts : t.size ≤ 1048576 := by
    have := lay_len (g + 1) (a + cs.length) t.data.toList
    have e : t.data.toList.length = t.size := rfl
    omega
  have hg1 : g ≤ 72057594037927936 := by have := ht.g; omega
  have ha1 : a ≤ 72057594037927936 := by have := ht.a; omega
  have HL : Hid (∀ w, Calls Try.prog 33 #[.agg #[.int .i64 ((g : Int) + 1), .int .i64 ((a : Int) + (cs.length : Int)), .string t, .slice none 0 0]] w fun e w' => e = .returned (.tuple #[.string ⟨(lay (g + 1) (a + cs.length) t.data.toList).toArray⟩, .int .i64 0]) ∧ Below w.heap.size w w') := fun w => by
    have := xlay (g + 1) (a + cs.length) t w ht hz
    rw [show ((g + 1 : Nat) : Int) = (g : Int) + 1 by omega, show ((a + cs.length : Nat) : Int) = (a : Int) + (cs.length : Int) by omega] at this
    exact this
  have HO : Hid (((1 - f : Nat) : Int) = 1 - (f : Int)) := by unfold Hid; omega
  have HK1 : Hid (Ok (ctf S ((1 - f : Nat) : Int) 0).1) := ctf_ok ok _ _
  have HC : Hid (∀ w1 V1, Dk B w1 p S V1 → Calls Try.prog 31 #[.pointer (some ⟨p, 0, none⟩), .int .i64 (1 - (f : Int)), .int .i64 0] w1 fun e w' => e = .returned (.int .i64 (ctf S ((1 - f : Nat) : Int) 0).2) ∧ ∃ V', Ch B p (ctf S ((1 - f : Nat) : Int) 0).1 V' w1 w') := fun w1 V1 hd => by
    rw [← HO.out]
    exact xcutD B p S V1 w1 hd ok ((1 - f : Nat) : Int) 0
  have HW : Hid (∀ w1 V1, Dk B w1 p (ctf S ((1 - f : Nat) : Int) 0).1 V1 → Calls Try.prog 34 #[.pointer (some ⟨p, 0, none⟩), .int .i64 (1 - (f : Int)), .string ⟨(lay (g + 1) (a + cs.length) t.data.toList).toArray⟩] w1 fun e w' => e = .returned (.int .i64 (wrt (ctf S ((1 - f : Nat) : Int) 0).1 ((1 - f : Nat) : Int) (ba (lay (g + 1) (a + cs.length) t.data.toList))).2) ∧ ∃ V', Ch B p (wrt (ctf S ((1 - f : Nat) : Int) 0).1 ((1 - f : Nat) : Int) (ba (lay (g + 1) (a + cs.length) t.data.toList))).1 V' w1 w') := fun w1 V1 hd => by
    rw [← HO.out]
    exact xwrite B p _ V1 w1 hd HK1.out ((1 - f : Nat) : Int) (ba (lay (g + 1) (a + cs.length) t.data.toList)) (by rw [ba_size]; unfold maxLen; omega)
  have HF : Hid (Calls Try.prog 45 #[.pointer (some ⟨q, 0, none⟩)] w (NP .i64 0 w)) := xfault B q p f g a s v cs w hj
  have HE : Hid (((g + 1 : Nat) : Int) = (g : Int) + 1 ∧ ((a + cs.length : Nat) : Int) = (a : Int) + (cs.length : Int)) := by unfold Hid; omega
  unfold TnP
  rw [tnR_wrt]
  generalize (⟨(lay (g + 1) (a + cs.length) t.data.toList).toArray⟩ : ByteArray) = Y at *
  generalize ctf S ((1 - f : Nat) : Int) 0 = R at *
  obtain ⟨R, x⟩ := R
  simp only at HC HW HK1
  clear hj h ok ht hz
  generalize hT : (fun D => wrt D ((1 - f : Nat) : Int) (ba (lay (g + 1) (a + cs.length) t.data.toList))) = T at *
  have HT : Hid (T R = wrt R ((1 - f : Nat) : Int) (ba (lay (g + 1) (a + cs.length) t.data.toList))) := by unfold Hid; rw [← hT]
  rw [← HT.out] at HW
  clear HT hT
  have HX0 : Hid (x = 0 → thn (R, x) T = T R) := fun h => thn_ok h
  have HX1 : Hid (¬ x = 0 → thn (R, x) T = (R, x)) := fun h => thn_no h
  generalize thn (R, x) T = F at *
  obtain ⟨F, y⟩ := F
  simp only at HX0 HX1 ⊢
  obtain ⟨xv, cv, rfl⟩ := own_slice HJ.out.own
  have c4 : w.cell? ⟨q, 4, none⟩ = some (.int .i64 g) := HJ.out.cell 4
  have c5 : w.cell? ⟨q, 5, none⟩ = some (.int .i64 a) := HJ.out.cell 5
  have c6 : w.cell? ⟨q, 6, none⟩ = some (.string s) := HJ.out.cell 6
  have c7 : w.cell? ⟨q, 7, none⟩ = some (.slice xv cs.length cv) := HJ.out.cell 7
  have M0 : Hid (Mm B q p f g a s (.slice xv cs.length cv) cs w w.drew) := (⟨HJ.out, Below.refl _ _⟩ : Mm B q p f g a s (.slice xv cs.length cv) cs w w).drew
  have HKP : Hid (∀ (y : World), Mm B q p f g a s (.slice xv cs.length cv) cs w y → (y.cell? ⟨q, 4, none⟩ = some (.int .i64 g) ∧ y.cell? ⟨q, 5, none⟩ = some (.int .i64 a) ∧ y.cell? ⟨q, 6, none⟩ = some (.string s) ∧ y.cell? ⟨q, 7, none⟩ = some (.slice xv cs.length cv))) := fun y h => ⟨h.j.cell 4, h.j.cell 5, h.j.cell 6, h.j.cell 7⟩
  go_enter Try.func24, Try.ntmps24
  go_wp2_with fail
  refine HF.out.mono ?_
  rintro e w1 ⟨rfl, rfl⟩
  have HWR : Hid (IntKind.i64.wrap ((g : Int) + 1) = (g : Int) + 1) := by unfold Hid; rw [IntKind.wrap_i64]; omega
  go_upto_region 4 with fail
  go_cut [6] from 17 to 30 (fun u wx => ∃ z, u = .pointer (some ⟨z, 0, none⟩) ∧ Hid (Tm B q p f g a S V s (.slice xv cs.length cv) cs t w wx z))
  case first =>
    go_wp2_with fail
    go_region_held3 (fun w' => w'.cell? ⟨q, 4, none⟩ = some (.int .i64 g) ∧ w'.cell? ⟨q, 5, none⟩ = some (.int .i64 a) ∧ w'.cell? ⟨q, 6, none⟩ = some (.string s) ∧ w'.cell? ⟨q, 7, none⟩ = some (.slice xv cs.length cv)) (first | go_keep | exact HKP.out _ j2 | exact HKP.out _ j3 | exact HKP.out _ (j2.alloc _) | exact HKP.out _ (j3.alloc _) | exact HKP.out _ (M0.out.alloc _) | exact HKP.out _ (j3.set4 b3 _ _ _ _) | exact HKP.out _ (j2.set4 b2 _ _ _ _)) (first | (go_at_call 47; go_must (refine (xseqC g a cs.length cv s xv ha1 (by omega) _).mono ?_; rintro e w2 ⟨rfl, h2⟩; have j2 : Mm B q p f g a s (.slice xv cs.length cv) cs w w2 := Mm.next (by first | exact j3.alloc _ | exact j3 | exact M0.out.alloc _ | exact M0.out) h2; (try (have b2 := j3.blk h2)); (try (have b2 : w.heap.size ≤ w.heap.size ∧ w2.heap[w.heap.size]? = some (.cells zero71 71 (0, 0)) := M0.out.blk h2)); (try (have b2 := blk_next b3 h2)); (try (have d0 := (blk_cells b2).1)); (try (have d1 := (blk_cells b2).2.1)); (try (have d2 := (blk_cells b2).2.2.1)); (try (have d3 := (blk_cells b2).2.2.2.1)); (try (have d4 := (blk_cells b2).2.2.2.2.1)); (try (have d5 := (blk_cells b2).2.2.2.2.2.1)); (try (have d6 := (blk_cells b2).2.2.2.2.2.2.1)); (try (have d7 := (blk_cells b2).2.2.2.2.2.2.2)))) | (go_at_call 32; go_must (refine (xclone t (by omega) _).mono ?_; rintro e w3 ⟨rfl, h3⟩; have j3 : Mm B q p f g a s (.slice xv cs.length cv) cs w w3 := Mm.next (by first | exact j2.alloc _ | exact j2 | exact M0.out.alloc _ | exact M0.out) h3; (try (have b3 := j2.blk h3)); (try (have b3 : w.heap.size ≤ w.heap.size ∧ w3.heap[w.heap.size]? = some (.cells zero71 71 (0, 0)) := M0.out.blk h3)); (try (have b3 := blk_next b2 h3)); (try (have y0 := (blk_cells b3).1)); (try (have y1 := (blk_cells b3).2.1)); (try (have y2 := (blk_cells b3).2.2.1)); (try (have y3 := (blk_cells b3).2.2.2.1)); (try (have y4 := (blk_cells b3).2.2.2.2.1)); (try (have y5 := (blk_cells b3).2.2.2.2.2.1)); (try (have y6 := (blk_cells b3).2.2.2.2.2.2.1)); (try (have y7 := (blk_cells b3).2.2.2.2.2.2.2)))))
    all_goals
      rw [HWR.out]
      go_wp2_with fail
      go_meet
      first | exact ⟨_, rfl, Tm.of_alloc HD.out j3⟩ | exact ⟨_, rfl, Tm.of_set HD.out j3 b3⟩
  case rest =>
    obtain ⟨z, rfl, HT⟩ := hcut
    have y0 : wc.cell? ⟨z, 0, none⟩ = some (.int .i64 ((g : Int) + 1)) := cell_of_row wc z 0 _ 71 (0, 0) HT.out.2.2.2
    have y1 : wc.cell? ⟨z, 1, none⟩ = some (.int .i64 ((a : Int) + (cs.length : Int))) := cell_of_row wc z 1 _ 71 (0, 0) HT.out.2.2.2
    have y2 : wc.cell? ⟨z, 2, none⟩ = some (.string t) := cell_of_row wc z 2 _ 71 (0, 0) HT.out.2.2.2
    have y3 : wc.cell? ⟨z, 3, none⟩ = some (.slice none 0 0) := cell_of_row wc z 3 _ 71 (0, 0) HT.out.2.2.2
    clear c4 c5 c6 c7 M0 HKP HF
    go_wp2_with fail
    refine (HL.out _).mono ?_
    rintro e w4 ⟨rfl, hb4⟩
    have HT4 : Hid (Tm B q p f g a S V s (.slice xv cs.length cv) cs t w w4 z) := by
      obtain ⟨t1, t2, t3, t4⟩ := HT.out
      exact ⟨t1.keep hb4, t2.below hb4, t3.trans (Jf.of_below hb4 t2.bw), (hb4.block z (Array.getElem?_eq_some_iff.1 t4).1).trans t4⟩
    have k2 : w4.cell? ⟨q, 2, none⟩ = some (.pointer (some ⟨p, 0, none⟩)) := HT4.out.1.cell 2
    have k3 : w4.cell? ⟨q, 3, none⟩ = some (.int .i64 f) := HT4.out.1.cell 3
    clear hb4 HT y0 y1 y2 y3
    by_cases hx : x = 0
    · have e1 := HX0.out hx
      rw [← e1] at HW
      subst hx
      clear e1 HX0 HX1
      go_wp2_with fail
      refine (HC.out _ _ HT4.out.2.1).mono ?_
      rintro e w5 ⟨rfl, V5, h5⟩
      have HT5 : Hid (Tm B q p f g a R V5 s (.slice xv cs.length cv) cs t w w5 z) := by
        obtain ⟨t1, t2, t3, t4⟩ := HT4.out
        exact ⟨t1.fr t2 h5.2, h5.1, t3.trans (Jf.of_fr h5.2), h5.2.keep t4 (by decide) (blk_ne t4 t2.blk (by decide))⟩
      have m2 : w5.cell? ⟨q, 2, none⟩ = some (.pointer (some ⟨p, 0, none⟩)) := HT5.out.1.cell 2
      clear h5 HT4 k2 k3 HC
      go_wp2_with fail
      refine (HW.out _ _ HT5.out.2.1).mono ?_
      rintro e w6 ⟨rfl, V6, h6⟩
      have HT6 : Hid (Tm B q p f g a F V6 s (.slice xv cs.length cv) cs t w w6 z) := by
        obtain ⟨t1, t2, t3, t4⟩ := HT5.out
        exact ⟨t1.fr t2 h6.2, h6.1, t3.trans (Jf.of_fr h6.2), h6.2.keep t4 (by decide) (blk_ne t4 t2.blk (by decide))⟩
      clear h6 HT5 m2 HW
      by_cases hy : y = 0
      · subst hy
        have y0 : w6.cell? ⟨z, 0, none⟩ = some (.int .i64 ((g : Int) + 1)) := cell_of_row w6 z 0 _ 71 (0, 0) HT6.out.2.2.2
        have y1 : w6.cell? ⟨z, 1, none⟩ = some (.int .i64 ((a : Int) + (cs.length : Int))) := cell_of_row w6 z 1 _ 71 (0, 0) HT6.out.2.2.2
        have y2 : w6.cell? ⟨z, 2, none⟩ = some (.string t) := cell_of_row w6 z 2 _ 71 (0, 0) HT6.out.2.2.2
        have y3 : w6.cell? ⟨z, 3, none⟩ = some (.slice none 0 0) := cell_of_row w6 z 3 _ 71 (0, 0) HT6.out.2.2.2
        have n3 : w6.cell? ⟨q, 3, none⟩ = some (.int .i64 f) := HT6.out.1.cell 3
        have n4 : w6.cell? ⟨q, 4, none⟩ = some (.int .i64 g) := HT6.out.1.cell 4
        have n5 : w6.cell? ⟨q, 5, none⟩ = some (.int .i64 a) := HT6.out.1.cell 5
        have n6 : w6.cell? ⟨q, 6, none⟩ = some (.string s) := HT6.out.1.cell 6
        have n7 : w6.cell? ⟨q, 7, none⟩ = some (.slice xv cs.length cv) := HT6.out.1.cell 7
        have f3 := HT6.out.1.froz 3
        have f4 := HT6.out.1.froz 4
        have f5 := HT6.out.1.froz 5
        have f6 := HT6.out.1.froz 6
        have f7 := HT6.out.1.froz 7
        have hqz : q ≠ z := blk_ne HT6.out.1.blk HT6.out.2.2.2 (by decide)
        have hzq : z ≠ q := fun e => hqz e.symm
        go_wp2_with fail
        go_region_held3 (fun w' => w'.cell? ⟨z, 0, none⟩ = some (.int .i64 ((g : Int) + 1)) ∧ w'.cell? ⟨z, 1, none⟩ = some (.int .i64 ((a : Int) + (cs.length : Int))) ∧ w'.cell? ⟨z, 2, none⟩ = some (.string t) ∧ w'.cell? ⟨z, 3, none⟩ = some (.slice none 0 0)) (first | go_keep) (first | fail)
        obtain ⟨r1, r2, r3⟩ := Tm.turned HT6.out hf rfl
        have HR : Hid _ := r1
        have HR2 : Hid _ := r2
        have HR3 : Hid _ := r3
        rename_i hHeld
        clear r1 r2 r3 hHeld y0 y1 y2 y3 n3 n4 n5 n6 n7 f3 f4 f5 f6 f7
        generalize (((((w6.setCell ⟨q, 3, none⟩ (.int .i64 (1 - (f : Int)))).setCell ⟨q, 4, none⟩ (.int .i64 ((g : Int) + 1))).setCell ⟨q, 5, none⟩ (.int .i64 ((a : Int) + (cs.length : Int)))).setCell ⟨q, 6, none⟩ (.string t)).setCell ⟨q, 7, none⟩ (.slice none 0 0)).drew = w9 at *
        go_wp2_with fail
        go_ret
        exact ⟨rfl, ⟨V6, HR.out⟩, HR2.out, HR3.out⟩
      · have hy1 : (y == 0) = false := by simpa using hy
        have hy2 : (y != 0) = true := by simpa using hy
        have HY : Hid (¬ y = 0) := hy
        clear hy
        go_wp2_with fail
        refine (xfailed B q p f g a s (.slice xv cs.length cv) cs _ HT6.out.1 y none).mono ?_
        rintro e w7 ⟨rfl, hw7⟩
        have HG : Hid (Dk B w7 p F V6 ∧ Jf B p q (Value.slice xv cs.length cv).ownBlock w w7) := by
          rcases hw7 with rfl | rfl
          · exact ⟨HT6.out.2.1, HT6.out.2.2.1⟩
          · exact ⟨HT6.out.2.1.setQ HT6.out.1.blk (by decide) (by decide) 1 _, HT6.out.2.2.1.trans (Jf.set HT6.out.1.base 1 _)⟩
        clear hw7
        go_wp2_with fail
        go_ret
        exact ⟨rfl, ⟨V6, HG.out.1⟩, HG.out.2, fun h => absurd h HY.out⟩
    · have e1 := HX1.out hx
      injection e1 with e1 e2
      subst e1; subst e2
      have hx1 : (y == 0) = false := by simpa using hx
      have hx2 : (y != 0) = true := by simpa using hx
      have HY : Hid (¬ y = 0) := hx
      clear hx HX0 HX1 HW
      go_wp2_with fail
      refine (HC.out _ _ HT4.out.2.1).mono ?_
      rintro e w5 ⟨rfl, V5, h5⟩
      have HT5 : Hid (Tm B q p f g a F V5 s (.slice xv cs.length cv) cs t w w5 z) := by
        obtain ⟨t1, t2, t3, t4⟩ := HT4.out
        exact ⟨t1.fr t2 h5.2, h5.1, t3.trans (Jf.of_fr h5.2), h5.2.keep t4 (by decide) (blk_ne t4 t2.blk (by decide))⟩
      clear h5 HT4 k2 k3 HC
      go_wp2_with fail
      refine (xfailed B q p f g a s (.slice xv cs.length cv) cs _ HT5.out.1 y none).mono ?_
      rintro e w7 ⟨rfl, hw7⟩
      have HG : Hid (Dk B w7 p F V5 ∧ Jf B p q (Value.slice xv cs.length cv).ownBlock w w7) := by
        rcases hw7 with rfl | rfl
        · exact ⟨HT5.out.2.1, HT5.out.2.2.1⟩
        · exact ⟨HT5.out.2.1.setQ HT5.out.1.blk (by decide) (by decide) 1 _, HT5.out.2.2.1.trans (Jf.set HT5.out.1.base 1 _)⟩
      clear hw7
      go_wp2_with fail
      go_ret
      exact ⟨rfl, ⟨V5, HG.out.1⟩, HG.out.2, fun h => absurd h HY.out⟩
end Go.Proofs.Yteiilifljfagdaa
