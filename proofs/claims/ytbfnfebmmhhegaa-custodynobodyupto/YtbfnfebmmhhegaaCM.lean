/- layer 12: a call of both -/
import Derived.Test.YtbfnfebmmhhegaaCL
import Derived.WalkKit
import Derived.ProofKit
import Derived.Handy
import Derived.WalkLawsBesides
import Derived.WalkSpells
import Derived.BigQuiet
import Derived.BigCall
import Derived.Deep.QuietTactic
import Derived.Deep.Light
import Derived.Deep.OwnRows
import Derived.Laws.AppendOwnNone
import Derived.Laws.Strings3
import Derived.Laws.RangeAny
import Derived.Deep.RegionWith
import Derived.Lib.BitFns
import Derived.Lib.Walk
import Derived.Lib.Strings
import Derived.Lib.OthersKept
import Derived.Deep.CutBlock
import Derived.Deep.DeepCutAuto
import Derived.Deep.LoopGhost
import Derived.Deep.RegionHeld3
import Derived.Lib.SmallJoins
import Derived.Maps.AppendAt
import Derived.Laws.IdiomStrings
import Derived.Lib.AppendZeros
import Derived.Deep.WholeRow
import Derived.Laws.BitsAllLaws
import Derived.Lib.ConvBytes
import Derived.Deep.RegionLaw
import Derived.Maps.OwnSet
import Derived.Maps.OwnOps
import Derived.Maps.RangeWalk
import Derived.Maps.Ext
import Derived.DeepKeys4
import Derived.Laws.StructEq
import Derived.Shelf.SlSortCmp.NoneTotal
import Derived.Deep.MidRow
import Derived.Laws.MakeOwn
namespace Go.Proofs.Ytbfnfebmmhhegaa
open Go.RowKit
set_option linter.unusedVariables false
set_option linter.unusedSimpArgs false
set_option maxRecDepth 20000
def DoP (w0 : World) (c q m lp : Nat) (L : List Num.Bal) (x : Ending) (w' : World) : Prop := x = .returned (.bool true) ∧ ∃ al cl, Ds w0 w' c q m lp L al cl
/-- behind both calls -/
theorem ds_fin {w0 W V : World} {c q m lp : Nat} {L L' : List Num.Bal} {al a' : Option Addr} {cl c' : Nat} (h : Ds w0 W c q m lp L al cl) (g : W.grownBy V (some m)) (hx : Cu V c q m L') (hk : L'.length ≤ c') (hr : Bs W a' L') :
    V.cell? ⟨lp, 0, none⟩ = some (.slice al L.length cl) ∧ V.frozen? ⟨lp, 0, none⟩ = false ∧ Ds w0 (V.setCell ⟨lp, 0, none⟩ (.slice a' L'.length c')) c q m lp L' a' c' := by
  have hlm : lp ≠ m := by
    intro e
    have h1 := mp_nocell h.x.l.m 0
    have h2 := h.p.cell 0
    rw [e, h1] at h2
    cases h2
  have hp : Bx V lp #[.slice al L.length cl] 25 := h.p.kept g (by simp [hlm])
  exact ⟨hp.cell 0, hp.froz 0, Ds.done rfl (h.b.grown g h.b.size (fun k e => by cases e; exact h.m0)) hx hp hk (bs_grown hr h.x.l.m g) h.m0 h.l0⟩
set_option maxHeartbeats 16000000 in
theorem xdoes0 (w0 : World) (c q m lp : Nat) (L : List Num.Bal) (g : Num.Good L) (hl : L.length ≤ 10000) (al : Option Addr) (cl : Nat) (k a b c9 : Int) (s : ByteArray) (n : Int) (l : List Ln) (la : Option Addr) (lc : Nat) (t : List Lot) (ta : Option Addr) (tc : Nat) (hl40 : l.length ≤ 40) (ht40 : t.length ≤ 40) (hk0 : (k == 0) = true) (w : World) (hD : Ds w0 w c q m lp L al cl) (hw : Aw w ⟨k, a, b, c9, s, n, l, la, lc, t, ta, tc⟩) :
    Calls Try.prog 11 #[.pointer (some ⟨c, 0, none⟩), .pointer (some ⟨lp, 0, none⟩), .agg #[.int .i64 k, .int .i64 a, .int .i64 b, .int .i64 c9, .string s, .int .i64 n, .slice la l.length lc, .slice ta t.length tc]] w (DoP w0 c q m lp (brL L a s.toList n)) := by
  obtain ⟨w1, hw1⟩ : ∃ w1, w1 = w.alloc (.cells #[.int .i64 k, .int .i64 a, .int .i64 b, .int .i64 c9, .string s, .int .i64 n, .slice la l.length lc, .slice ta t.length tc] 30) := ⟨_, rfl⟩
  have HW : Hid (w.alloc (.cells #[.int .i64 k, .int .i64 a, .int .i64 b, .int .i64 c9, .string s, .int .i64 n, .slice la l.length lc, .slice ta t.length tc] 30) = w1) := hw1.symm
  have hB1 : Below w.heap.size w w1 := by rw [hw1]; exact (Below.refl _ w).alloc (Nat.le_refl _) _
  have hX1 : Bx w1 w.heap.size #[.int .i64 k, .int .i64 a, .int .i64 b, .int .i64 c9, .string s, .int .i64 n, .slice la l.length lc, .slice ta t.length tc] 30 := by rw [hw1]; exact Bx.new w _ _
  have hP1 : Bx w1 lp #[.slice al L.length cl] 25 := hD.p.below hB1 hD.p.lt
  have hgl : w.heap.size < w1.heap.size := hX1.lt
  have hlpl : lp < w1.heap.size := hP1.lt
  have HR : Hid (∀ V, Below w.heap.size w V → Calls Try.prog 36 #[.slice al L.length cl, .int .i64 a, .string s, .int .i64 n] V fun e V' => ∃ a1 c1, e = .returned (.tuple #[.slice a1 (brL L a s.toList n).length c1, .int .i64 (brE L a s.toList n)]) ∧ Hid ((brL L a s.toList n).length ≤ c1 ∧ Bs V' a1 (brL L a s.toList n) ∧ Below V.heap.size V V')) := fun V hb => (rbring L g (by omega) al cl hD.k a s n hw.n V (hD.below hb).r).mono fun e V' hh => by
    obtain ⟨a1, c1, h1, h2, h3, h4⟩ := hh
    exact ⟨a1, c1, h1, h2, h3, h4⟩
  have HPc : Hid (∀ V, Below w.heap.size w V → Calls Try.prog 26 #[.pointer (some ⟨c, 0, none⟩), .int .i64 a, .string s, .int .i64 n] V fun e V2 => e = .returned (.int .i64 (brE L a s.toList n)) ∧ Hid (Cu V2 c q m (brL L a s.toList n) ∧ V.grownBy V2 (some m))) := fun V hb => by
    have hV := hD.below hb
    exact (xbring c q m L g (by omega) a s n V hV.x).mono fun e V2 kk => ⟨kk.1, kk.2.1, kk.2.2⟩
  have HFI : Hid (∀ (V V2 : World) (a1 : Option Addr) (c1 : Nat), Below w.heap.size w V → V.grownBy V2 (some m) → Cu V2 c q m (brL L a s.toList n) → (brL L a s.toList n).length ≤ c1 → Bs V a1 (brL L a s.toList n) → V2.cell? ⟨lp, 0, none⟩ = some (.slice al L.length cl) ∧ V2.frozen? ⟨lp, 0, none⟩ = false ∧ Hid (DoP w0 c q m lp (brL L a s.toList n) (.returned (.bool true)) (V2.setCell ⟨lp, 0, none⟩ (.slice a1 (brL L a s.toList n).length c1)))) := fun V V2 a1 c1 hb hg hx hk hr => by
    obtain ⟨h1, h2, h3⟩ := ds_fin (hD.below hb) hg hx hk hr
    exact ⟨h1, h2, rfl, _, _, h3⟩
  have hB1' : Hid (Below w.heap.size w w1) := hB1
  generalize brL L a s.toList n = L1 at *
  skip
  generalize brE L a s.toList n = E1 at *
  clear hw1 hD hw g hB1
  go_enter Try.func11, Try.ntmps11
  go_upto_region 8 with fail
  rw [HW.out]
  clear HW
  refine wp_region_held (S := fun W => Below w1.heap.size w1 W) (by kernel_rfl) ?_
  change wpAnyH _ _ _ _ _ 15 #[false, false, false, false, false, false, false, false, false, false, false, false, false, false, false] _ w1.drew
  have hS0 : Below w1.heap.size w1 w1.drew := ⟨rfl, rfl, rfl, Nat.le_refl _, fun _ _ => rfl⟩
  obtain ⟨v0, hv0⟩ : ∃ v, v = w1.drew := ⟨_, rfl⟩
  rw [← hv0] at hS0 ⊢
  clear hv0
  have hb0 : Below w.heap.size w v0 := hB1'.out.trans (hS0.mono hB1'.out.size)
  refine takeR (fuel := 14) (i := 0) (v := .pointer (some ⟨lp, 0, none⟩)) rfl (by kernel_rfl) (by kernel_rfl) (by kernel_rfl) (fun _ _ _ h => h) (Or.inl ⟨rfl, fun W hW => by go_simp⟩) hS0 ?_
  simp only [Act.put, List.setIfInBounds_toArray, List.set_cons_zero, List.set_cons_succ]
  refine takeR (fuel := 13) (i := 1) (v := .pointer (some ⟨lp, 0, none⟩)) rfl (by kernel_rfl) (by kernel_rfl) (by kernel_rfl) (fun _ _ _ h => h) (Or.inl ⟨rfl, fun W hW => by go_simp⟩) hS0 ?_
  simp only [Act.put, List.setIfInBounds_toArray, List.set_cons_zero, List.set_cons_succ]
  refine takeR (fuel := 12) (i := 2) (v := .slice al L.length cl) rfl (by kernel_rfl) (by kernel_rfl) (by kernel_rfl) (fun _ _ _ h => h) (Or.inl ⟨rfl, fun W hW => by have cj : W.cell? ⟨lp, 0, none⟩ = some (.slice al L.length cl) := (hP1.below hW hlpl).cell 0; go_simp⟩) hS0 ?_
  simp only [Act.put, List.setIfInBounds_toArray, List.set_cons_zero, List.set_cons_succ]
  refine takeR (fuel := 11) (i := 3) (v := .pointer (some ⟨w.heap.size, 1, none⟩)) rfl (by kernel_rfl) (by kernel_rfl) (by kernel_rfl) (fun _ _ _ h => h) (Or.inl ⟨rfl, fun W hW => by go_simp⟩) hS0 ?_
  simp only [Act.put, List.setIfInBounds_toArray, List.set_cons_zero, List.set_cons_succ]
  refine takeR (fuel := 10) (i := 4) (v := .int .i64 a) rfl (by kernel_rfl) (by kernel_rfl) (by kernel_rfl) (fun _ _ _ h => h) (Or.inl ⟨rfl, fun W hW => by have cj : W.cell? ⟨w.heap.size, 1, none⟩ = some (.int .i64 a) := (hX1.below hW hgl).cell 1; go_simp⟩) hS0 ?_
  simp only [Act.put, List.setIfInBounds_toArray, List.set_cons_zero, List.set_cons_succ]
  refine takeR (fuel := 9) (i := 5) (v := .pointer (some ⟨w.heap.size, 4, none⟩)) rfl (by kernel_rfl) (by kernel_rfl) (by kernel_rfl) (fun _ _ _ h => h) (Or.inl ⟨rfl, fun W hW => by go_simp⟩) hS0 ?_
  simp only [Act.put, List.setIfInBounds_toArray, List.set_cons_zero, List.set_cons_succ]
  refine takeR (fuel := 8) (i := 6) (v := .string s) rfl (by kernel_rfl) (by kernel_rfl) (by kernel_rfl) (fun _ _ _ h => h) (Or.inl ⟨rfl, fun W hW => by have cj : W.cell? ⟨w.heap.size, 4, none⟩ = some (.string s) := (hX1.below hW hgl).cell 4; go_simp⟩) hS0 ?_
  simp only [Act.put, List.setIfInBounds_toArray, List.set_cons_zero, List.set_cons_succ]
  refine takeR (fuel := 7) (i := 7) (v := .pointer (some ⟨w.heap.size, 5, none⟩)) rfl (by kernel_rfl) (by kernel_rfl) (by kernel_rfl) (fun _ _ _ h => h) (Or.inl ⟨rfl, fun W hW => by go_simp⟩) hS0 ?_
  simp only [Act.put, List.setIfInBounds_toArray, List.set_cons_zero, List.set_cons_succ]
  refine takeR (fuel := 6) (i := 8) (v := .int .i64 n) rfl (by kernel_rfl) (by kernel_rfl) (by kernel_rfl) (fun _ _ _ h => h) (Or.inl ⟨rfl, fun W hW => by have cj : W.cell? ⟨w.heap.size, 5, none⟩ = some (.int .i64 n) := (hX1.below hW hgl).cell 5; go_simp⟩) hS0 ?_
  simp only [Act.put, List.setIfInBounds_toArray, List.set_cons_zero, List.set_cons_succ]
  refine consR (fuel := 5) (i := 9) rfl (by kernel_rfl) (fun K hK => ?_)
  rw [if_pos (by rfl)]
  go_simp
  refine (HR.out v0 hb0).mono ?_
  rintro e v1 ⟨a1, c1, rfl, HZ⟩
  have hS1' : Below w1.heap.size w1 v1 := hS0.trans (HZ.out.2.2.mono hS0.size)
  refine hK.out _ _ hS1' (fun hS1 => ?_)
  clear hK
  try simp only [Act.put, List.setIfInBounds_toArray, List.set_cons_zero, List.set_cons_succ]
  refine takeR (fuel := 4) (i := 10) (v := .tuple #[.slice a1 L1.length c1, .int .i64 E1]) rfl (by kernel_rfl) (by kernel_rfl) (by kernel_rfl) (fun _ _ _ h => h) (Or.inl ⟨rfl, fun W hW => by go_simp⟩) hS1 ?_
  simp only [Act.put, List.setIfInBounds_toArray, List.set_cons_zero, List.set_cons_succ]
  refine takeR (fuel := 3) (i := 11) (v := .slice a1 L1.length c1) rfl (by kernel_rfl) (by kernel_rfl) (by kernel_rfl) (fun _ _ _ h => h) (Or.inl ⟨rfl, fun W hW => by go_simp⟩) hS1 ?_
  simp only [Act.put, List.setIfInBounds_toArray, List.set_cons_zero, List.set_cons_succ]
  refine takeR (fuel := 2) (i := 12) (v := .int .i64 E1) rfl (by kernel_rfl) (by kernel_rfl) (by kernel_rfl) (fun _ _ _ h => h) (Or.inl ⟨rfl, fun W hW => by go_simp⟩) hS1 ?_
  simp only [Act.put, List.setIfInBounds_toArray, List.set_cons_zero, List.set_cons_succ]
  refine takeR (fuel := 1) (i := 13) (v := .slice a1 L1.length c1) rfl (by kernel_rfl) (by kernel_rfl) (by kernel_rfl) (fun _ _ _ h => h) (Or.inl ⟨rfl, fun W hW => by go_simp⟩) hS1 ?_
  simp only [Act.put, List.setIfInBounds_toArray, List.set_cons_zero, List.set_cons_succ]
  refine takeR (fuel := 0) (i := 14) (v := .int .i64 E1) rfl (by kernel_rfl) (by kernel_rfl) (by kernel_rfl) (fun _ _ _ h => h) (Or.inl ⟨rfl, fun W hW => by go_simp⟩) hS1 ?_
  simp only [Act.put, List.setIfInBounds_toArray, List.set_cons_zero, List.set_cons_succ]
  refine wpAnyH_done (by kernel_rfl) ?_ _
  have hb1 : Below w.heap.size w v1 := hB1'.out.trans (hS1.mono hB1'.out.size)
  have k0 : v1.cell? ⟨w.heap.size, 0, none⟩ = some (.int .i64 k) := (hX1.below hS1 hgl).cell 0
  have k1 : v1.cell? ⟨w.heap.size, 1, none⟩ = some (.int .i64 a) := (hX1.below hS1 hgl).cell 1
  have k2 : v1.cell? ⟨w.heap.size, 2, none⟩ = some (.int .i64 b) := (hX1.below hS1 hgl).cell 2
  have k3 : v1.cell? ⟨w.heap.size, 3, none⟩ = some (.int .i64 c9) := (hX1.below hS1 hgl).cell 3
  have k4 : v1.cell? ⟨w.heap.size, 4, none⟩ = some (.string s) := (hX1.below hS1 hgl).cell 4
  have k5 : v1.cell? ⟨w.heap.size, 5, none⟩ = some (.int .i64 n) := (hX1.below hS1 hgl).cell 5
  have k6 : v1.cell? ⟨w.heap.size, 6, none⟩ = some (.slice la l.length lc) := (hX1.below hS1 hgl).cell 6
  have k7 : v1.cell? ⟨w.heap.size, 7, none⟩ = some (.slice ta t.length tc) := (hX1.below hS1 hgl).cell 7
  have HP1 : Hid (Calls Try.prog 26 #[.pointer (some ⟨c, 0, none⟩), .int .i64 a, .string s, .int .i64 n] v1 fun e V2 => e = .returned (.int .i64 E1) ∧ V2.cell? ⟨lp, 0, none⟩ = some (.slice al L.length cl) ∧ V2.frozen? ⟨lp, 0, none⟩ = false ∧ Hid (DoP w0 c q m lp L1 (.returned (.bool true)) (V2.setCell ⟨lp, 0, none⟩ (.slice a1 L1.length c1)))) := (HPc.out v1 hb1).mono fun e V2 k2 => by
    have := HFI.out v1 V2 a1 c1 hb1 k2.2.out.2 k2.2.out.1 HZ.out.1 HZ.out.2.1
    exact ⟨k2.1, this.1, this.2.1, this.2.2⟩
  clear HPc HFI HR hS0 hS1 hS1' hb0 hb1 HZ hX1 hP1 hB1'
  go_wp2_with (go_at_call 26; refine HP1.out.mono ?_; rintro e w3 ⟨rfl, z0, z1, HF⟩; clear HP1)
  go_ret
  exact HF.out
set_option maxHeartbeats 16000000 in
theorem xdoes1 (w0 : World) (c q m lp : Nat) (L : List Num.Bal) (g : Num.Good L) (hl : L.length ≤ 10000) (al : Option Addr) (cl : Nat) (k a b c9 : Int) (s : ByteArray) (n : Int) (l : List Ln) (la : Option Addr) (lc : Nat) (t : List Lot) (ta : Option Addr) (tc : Nat) (hl40 : l.length ≤ 40) (ht40 : t.length ≤ 40) (hk0 : (k == 0) = false) (hk1 : (k == 1) = true) (w : World) (hD : Ds w0 w c q m lp L al cl) (hw : Aw w ⟨k, a, b, c9, s, n, l, la, lc, t, ta, tc⟩) :
    Calls Try.prog 11 #[.pointer (some ⟨c, 0, none⟩), .pointer (some ⟨lp, 0, none⟩), .agg #[.int .i64 k, .int .i64 a, .int .i64 b, .int .i64 c9, .string s, .int .i64 n, .slice la l.length lc, .slice ta t.length tc]] w (DoP w0 c q m lp (mvL L l)) := by
  obtain ⟨w1, hw1⟩ : ∃ w1, w1 = w.alloc (.cells #[.int .i64 k, .int .i64 a, .int .i64 b, .int .i64 c9, .string s, .int .i64 n, .slice la l.length lc, .slice ta t.length tc] 30) := ⟨_, rfl⟩
  have HW : Hid (w.alloc (.cells #[.int .i64 k, .int .i64 a, .int .i64 b, .int .i64 c9, .string s, .int .i64 n, .slice la l.length lc, .slice ta t.length tc] 30) = w1) := hw1.symm
  have hB1 : Below w.heap.size w w1 := by rw [hw1]; exact (Below.refl _ w).alloc (Nat.le_refl _) _
  have hX1 : Bx w1 w.heap.size #[.int .i64 k, .int .i64 a, .int .i64 b, .int .i64 c9, .string s, .int .i64 n, .slice la l.length lc, .slice ta t.length tc] 30 := by rw [hw1]; exact Bx.new w _ _
  have hP1 : Bx w1 lp #[.slice al L.length cl] 25 := hD.p.below hB1 hD.p.lt
  have hgl : w.heap.size < w1.heap.size := hX1.lt
  have hlpl : lp < w1.heap.size := hP1.lt
  have HR : Hid (∀ V, Below w.heap.size w V → Calls Try.prog 37 #[.slice al L.length cl, .slice la l.length lc] V fun e V' => ∃ a1 c1, e = .returned (.tuple #[.slice a1 (mvL L l).length c1, .int .i64 (mvN L l), .int .i64 (mvE L l)]) ∧ Hid ((mvL L l).length ≤ c1 ∧ Bs V' a1 (mvL L l) ∧ Below V.heap.size V V')) := fun V hb => (rmv L g (by omega) l (by omega) al cl hD.k la lc V (hD.below hb).r (hw.ls.below hb)).mono fun e V' hh => by
    obtain ⟨a1, c1, h1, h2, h3, h4⟩ := hh
    exact ⟨a1, c1, h1, h2, h3, h4⟩
  have HLN : Hid (∀ V, Below w.heap.size w V → Calls Try.prog 28 #[.slice la l.length lc] V fun e V1 => ∃ v, e = .returned v ∧ Hid (Below w.heap.size w V1 ∧ Below V.heap.size V V1 ∧ Calls Try.prog 27 #[.pointer (some ⟨c, 0, none⟩), v] V1 fun e V2 => e = .returned (.tuple #[.int .i64 (mvN L l), .int .i64 (mvE L l)]) ∧ Hid (Cu V2 c q m (mvL L l) ∧ V1.grownBy V2 (some m)))) := fun V hb => (xlinesL l la lc V (hw.ls.below hb) (by omega)).mono fun e V1 hh => by
    obtain ⟨v, rfl, ho, hb1⟩ := hh
    obtain ⟨a2, k2, rfl, _, hls⟩ := lnp_rw ho
    have hb2 : Below w.heap.size w V1 := hb.trans (hb1.mono hb.size)
    refine ⟨_, rfl, hb2, hb1, (xmv c q m L g (by omega) l (by omega) a2 k2 V1 (hD.x.below hb2) hls).mono fun e V2 kk => ⟨kk.1, kk.2.1, kk.2.2⟩⟩
  have HFI : Hid (∀ (V V2 : World) (a1 : Option Addr) (c1 : Nat), Below w.heap.size w V → V.grownBy V2 (some m) → Cu V2 c q m (mvL L l) → (mvL L l).length ≤ c1 → Bs V a1 (mvL L l) → V2.cell? ⟨lp, 0, none⟩ = some (.slice al L.length cl) ∧ V2.frozen? ⟨lp, 0, none⟩ = false ∧ Hid (DoP w0 c q m lp (mvL L l) (.returned (.bool true)) (V2.setCell ⟨lp, 0, none⟩ (.slice a1 (mvL L l).length c1)))) := fun V V2 a1 c1 hb hg hx hk hr => by
    obtain ⟨h1, h2, h3⟩ := ds_fin (hD.below hb) hg hx hk hr
    exact ⟨h1, h2, rfl, _, _, h3⟩
  have hB1' : Hid (Below w.heap.size w w1) := hB1
  generalize mvL L l = L1 at *
  generalize mvN L l = N1 at *
  generalize mvE L l = E1 at *
  clear hw1 hD hw g hB1
  go_enter Try.func11, Try.ntmps11
  go_upto_region 11 with fail
  rw [HW.out]
  clear HW
  refine wp_region_held (S := fun W => Below w1.heap.size w1 W) (by kernel_rfl) ?_
  change wpAnyH _ _ _ _ _ 13 #[false, false, false, false, false, false, false, false, false, false, false, false, false] _ w1.drew
  have hS0 : Below w1.heap.size w1 w1.drew := ⟨rfl, rfl, rfl, Nat.le_refl _, fun _ _ => rfl⟩
  obtain ⟨v0, hv0⟩ : ∃ v, v = w1.drew := ⟨_, rfl⟩
  rw [← hv0] at hS0 ⊢
  clear hv0
  have hb0 : Below w.heap.size w v0 := hB1'.out.trans (hS0.mono hB1'.out.size)
  refine takeR (fuel := 12) (i := 0) (v := .pointer (some ⟨lp, 0, none⟩)) rfl (by kernel_rfl) (by kernel_rfl) (by kernel_rfl) (fun _ _ _ h => h) (Or.inl ⟨rfl, fun W hW => by go_simp⟩) hS0 ?_
  simp only [Act.put, List.setIfInBounds_toArray, List.set_cons_zero, List.set_cons_succ]
  refine takeR (fuel := 11) (i := 1) (v := .pointer (some ⟨lp, 0, none⟩)) rfl (by kernel_rfl) (by kernel_rfl) (by kernel_rfl) (fun _ _ _ h => h) (Or.inl ⟨rfl, fun W hW => by go_simp⟩) hS0 ?_
  simp only [Act.put, List.setIfInBounds_toArray, List.set_cons_zero, List.set_cons_succ]
  refine takeR (fuel := 10) (i := 2) (v := .slice al L.length cl) rfl (by kernel_rfl) (by kernel_rfl) (by kernel_rfl) (fun _ _ _ h => h) (Or.inl ⟨rfl, fun W hW => by have cj : W.cell? ⟨lp, 0, none⟩ = some (.slice al L.length cl) := (hP1.below hW hlpl).cell 0; go_simp⟩) hS0 ?_
  simp only [Act.put, List.setIfInBounds_toArray, List.set_cons_zero, List.set_cons_succ]
  refine takeR (fuel := 9) (i := 3) (v := .pointer (some ⟨w.heap.size, 6, none⟩)) rfl (by kernel_rfl) (by kernel_rfl) (by kernel_rfl) (fun _ _ _ h => h) (Or.inl ⟨rfl, fun W hW => by go_simp⟩) hS0 ?_
  simp only [Act.put, List.setIfInBounds_toArray, List.set_cons_zero, List.set_cons_succ]
  refine takeR (fuel := 8) (i := 4) (v := .slice la l.length lc) rfl (by kernel_rfl) (by kernel_rfl) (by kernel_rfl) (fun _ _ _ h => h) (Or.inl ⟨rfl, fun W hW => by have cj : W.cell? ⟨w.heap.size, 6, none⟩ = some (.slice la l.length lc) := (hX1.below hW hgl).cell 6; go_simp⟩) hS0 ?_
  simp only [Act.put, List.setIfInBounds_toArray, List.set_cons_zero, List.set_cons_succ]
  refine consR (fuel := 7) (i := 5) rfl (by kernel_rfl) (fun K hK => ?_)
  rw [if_pos (by rfl)]
  go_simp
  refine (HR.out v0 hb0).mono ?_
  rintro e v1 ⟨a1, c1, rfl, HZ⟩
  have hS1' : Below w1.heap.size w1 v1 := hS0.trans (HZ.out.2.2.mono hS0.size)
  refine hK.out _ _ hS1' (fun hS1 => ?_)
  clear hK
  try simp only [Act.put, List.setIfInBounds_toArray, List.set_cons_zero, List.set_cons_succ]
  refine takeR (fuel := 6) (i := 6) (v := .tuple #[.slice a1 L1.length c1, .int .i64 N1, .int .i64 E1]) rfl (by kernel_rfl) (by kernel_rfl) (by kernel_rfl) (fun _ _ _ h => h) (Or.inl ⟨rfl, fun W hW => by go_simp⟩) hS1 ?_
  simp only [Act.put, List.setIfInBounds_toArray, List.set_cons_zero, List.set_cons_succ]
  refine takeR (fuel := 5) (i := 7) (v := .slice a1 L1.length c1) rfl (by kernel_rfl) (by kernel_rfl) (by kernel_rfl) (fun _ _ _ h => h) (Or.inl ⟨rfl, fun W hW => by go_simp⟩) hS1 ?_
  simp only [Act.put, List.setIfInBounds_toArray, List.set_cons_zero, List.set_cons_succ]
  refine takeR (fuel := 4) (i := 8) (v := .int .i64 N1) rfl (by kernel_rfl) (by kernel_rfl) (by kernel_rfl) (fun _ _ _ h => h) (Or.inl ⟨rfl, fun W hW => by go_simp⟩) hS1 ?_
  simp only [Act.put, List.setIfInBounds_toArray, List.set_cons_zero, List.set_cons_succ]
  refine takeR (fuel := 3) (i := 9) (v := .int .i64 E1) rfl (by kernel_rfl) (by kernel_rfl) (by kernel_rfl) (fun _ _ _ h => h) (Or.inl ⟨rfl, fun W hW => by go_simp⟩) hS1 ?_
  simp only [Act.put, List.setIfInBounds_toArray, List.set_cons_zero, List.set_cons_succ]
  refine takeR (fuel := 2) (i := 10) (v := .slice a1 L1.length c1) rfl (by kernel_rfl) (by kernel_rfl) (by kernel_rfl) (fun _ _ _ h => h) (Or.inl ⟨rfl, fun W hW => by go_simp⟩) hS1 ?_
  simp only [Act.put, List.setIfInBounds_toArray, List.set_cons_zero, List.set_cons_succ]
  refine takeR (fuel := 1) (i := 11) (v := .int .i64 N1) rfl (by kernel_rfl) (by kernel_rfl) (by kernel_rfl) (fun _ _ _ h => h) (Or.inl ⟨rfl, fun W hW => by go_simp⟩) hS1 ?_
  simp only [Act.put, List.setIfInBounds_toArray, List.set_cons_zero, List.set_cons_succ]
  refine takeR (fuel := 0) (i := 12) (v := .int .i64 E1) rfl (by kernel_rfl) (by kernel_rfl) (by kernel_rfl) (fun _ _ _ h => h) (Or.inl ⟨rfl, fun W hW => by go_simp⟩) hS1 ?_
  simp only [Act.put, List.setIfInBounds_toArray, List.set_cons_zero, List.set_cons_succ]
  refine wpAnyH_done (by kernel_rfl) ?_ _
  have hb1 : Below w.heap.size w v1 := hB1'.out.trans (hS1.mono hB1'.out.size)
  have k0 : v1.cell? ⟨w.heap.size, 0, none⟩ = some (.int .i64 k) := (hX1.below hS1 hgl).cell 0
  have k1 : v1.cell? ⟨w.heap.size, 1, none⟩ = some (.int .i64 a) := (hX1.below hS1 hgl).cell 1
  have k2 : v1.cell? ⟨w.heap.size, 2, none⟩ = some (.int .i64 b) := (hX1.below hS1 hgl).cell 2
  have k3 : v1.cell? ⟨w.heap.size, 3, none⟩ = some (.int .i64 c9) := (hX1.below hS1 hgl).cell 3
  have k4 : v1.cell? ⟨w.heap.size, 4, none⟩ = some (.string s) := (hX1.below hS1 hgl).cell 4
  have k5 : v1.cell? ⟨w.heap.size, 5, none⟩ = some (.int .i64 n) := (hX1.below hS1 hgl).cell 5
  have k6 : v1.cell? ⟨w.heap.size, 6, none⟩ = some (.slice la l.length lc) := (hX1.below hS1 hgl).cell 6
  have k7 : v1.cell? ⟨w.heap.size, 7, none⟩ = some (.slice ta t.length tc) := (hX1.below hS1 hgl).cell 7
  have HLN1 : Hid (Calls Try.prog 28 #[.slice la l.length lc] v1 fun e V1 => ∃ v, e = .returned v ∧ Hid (Calls Try.prog 27 #[.pointer (some ⟨c, 0, none⟩), v] V1 fun e V2 => e = .returned (.tuple #[.int .i64 N1, .int .i64 E1]) ∧ V2.cell? ⟨lp, 0, none⟩ = some (.slice al L.length cl) ∧ V2.frozen? ⟨lp, 0, none⟩ = false ∧ Hid (DoP w0 c q m lp L1 (.returned (.bool true)) (V2.setCell ⟨lp, 0, none⟩ (.slice a1 L1.length c1))))) := (HLN.out v1 hb1).mono fun e V1 hh => by
    obtain ⟨v, rfl, hz⟩ := hh
    refine ⟨v, rfl, hz.2.2.mono fun e V2 k2 => ?_⟩
    have := HFI.out V1 V2 a1 c1 hz.1 k2.2.out.2 k2.2.out.1 HZ.out.1 (HZ.out.2.1.below hz.2.1)
    exact ⟨k2.1, this.1, this.2.1, this.2.2⟩
  clear HLN HFI HR hS0 hS1 hS1' hb0 hb1 HZ hX1 hP1 hB1'
  go_wp2_with (first | (go_at_call 28; refine HLN1.out.mono ?_; rintro e w2 ⟨v2, rfl, H27⟩; clear HLN1) | (go_at_call 27; refine H27.out.mono ?_; rintro e w3 ⟨rfl, z0, z1, HF⟩; clear H27))
  go_ret
  exact HF.out
set_option maxHeartbeats 16000000 in
theorem xdoes2 (w0 : World) (c q m lp : Nat) (L : List Num.Bal) (g : Num.Good L) (hl : L.length ≤ 10000) (al : Option Addr) (cl : Nat) (k a b c9 : Int) (s : ByteArray) (n : Int) (l : List Ln) (la : Option Addr) (lc : Nat) (t : List Lot) (ta : Option Addr) (tc : Nat) (hl40 : l.length ≤ 40) (ht40 : t.length ≤ 40) (hk0 : (k == 0) = false) (hk1 : (k == 1) = false) (hk2 : (k == 2) = true) (w : World) (hD : Ds w0 w c q m lp L al cl) (hw : Aw w ⟨k, a, b, c9, s, n, l, la, lc, t, ta, tc⟩) :
    Calls Try.prog 11 #[.pointer (some ⟨c, 0, none⟩), .pointer (some ⟨lp, 0, none⟩), .agg #[.int .i64 k, .int .i64 a, .int .i64 b, .int .i64 c9, .string s, .int .i64 n, .slice la l.length lc, .slice ta t.length tc]] w (DoP w0 c q m lp (mvL L (t.map (way a b a c9)))) := by
  obtain ⟨w1, hw1⟩ : ∃ w1, w1 = w.alloc (.cells #[.int .i64 k, .int .i64 a, .int .i64 b, .int .i64 c9, .string s, .int .i64 n, .slice la l.length lc, .slice ta t.length tc] 30) := ⟨_, rfl⟩
  have HW : Hid (w.alloc (.cells #[.int .i64 k, .int .i64 a, .int .i64 b, .int .i64 c9, .string s, .int .i64 n, .slice la l.length lc, .slice ta t.length tc] 30) = w1) := hw1.symm
  have hB1 : Below w.heap.size w w1 := by rw [hw1]; exact (Below.refl _ w).alloc (Nat.le_refl _) _
  have hX1 : Bx w1 w.heap.size #[.int .i64 k, .int .i64 a, .int .i64 b, .int .i64 c9, .string s, .int .i64 n, .slice la l.length lc, .slice ta t.length tc] 30 := by rw [hw1]; exact Bx.new w _ _
  have hP1 : Bx w1 lp #[.slice al L.length cl] 25 := hD.p.below hB1 hD.p.lt
  have hgl : w.heap.size < w1.heap.size := hX1.lt
  have hlpl : lp < w1.heap.size := hP1.lt
  have HR : Hid (∀ V, Below w.heap.size w V → Calls Try.prog 38 #[.slice al L.length cl, .int .i64 a, .int .i64 b, .int .i64 c9, .slice ta t.length tc] V fun e V' => ∃ a1 c1, e = .returned (.tuple #[.slice a1 (mvL L (t.map (way a b a c9))).length c1, .int .i64 (mvN L (t.map (way a b a c9))), .int .i64 (mvE L (t.map (way a b a c9)))]) ∧ Hid ((mvL L (t.map (way a b a c9))).length ≤ c1 ∧ Bs V' a1 (mvL L (t.map (way a b a c9))) ∧ Below V.heap.size V V')) := fun V hb => (rshift L g (by omega) al cl hD.k a b c9 t (by omega) ta tc V (hD.below hb).r (hw.ts.below hb)).mono fun e V' hh => by
    obtain ⟨a1, c1, h1, h2, h3, h4⟩ := hh
    exact ⟨a1, c1, h1, h2, h3, h4⟩
  have HPc : Hid (∀ V, Below w.heap.size w V → Calls Try.prog 29 #[.pointer (some ⟨c, 0, none⟩), .int .i64 a, .int .i64 b, .int .i64 c9, .slice ta t.length tc] V fun e V2 => e = .returned (.tuple #[.int .i64 (mvN L (t.map (way a b a c9))), .int .i64 (mvE L (t.map (way a b a c9)))]) ∧ Hid (Cu V2 c q m (mvL L (t.map (way a b a c9))) ∧ V.grownBy V2 (some m))) := fun V hb => by
    have hV := hD.below hb
    exact (xshift c q m L g (by omega) a b c9 t (by omega) ta tc V hV.x (hw.ts.below hb)).mono fun e V2 kk => ⟨kk.1, kk.2.1, kk.2.2⟩
  have HFI : Hid (∀ (V V2 : World) (a1 : Option Addr) (c1 : Nat), Below w.heap.size w V → V.grownBy V2 (some m) → Cu V2 c q m (mvL L (t.map (way a b a c9))) → (mvL L (t.map (way a b a c9))).length ≤ c1 → Bs V a1 (mvL L (t.map (way a b a c9))) → V2.cell? ⟨lp, 0, none⟩ = some (.slice al L.length cl) ∧ V2.frozen? ⟨lp, 0, none⟩ = false ∧ Hid (DoP w0 c q m lp (mvL L (t.map (way a b a c9))) (.returned (.bool true)) (V2.setCell ⟨lp, 0, none⟩ (.slice a1 (mvL L (t.map (way a b a c9))).length c1)))) := fun V V2 a1 c1 hb hg hx hk hr => by
    obtain ⟨h1, h2, h3⟩ := ds_fin (hD.below hb) hg hx hk hr
    exact ⟨h1, h2, rfl, _, _, h3⟩
  have hB1' : Hid (Below w.heap.size w w1) := hB1
  generalize mvL L (t.map (way a b a c9)) = L1 at *
  generalize mvN L (t.map (way a b a c9)) = N1 at *
  generalize mvE L (t.map (way a b a c9)) = E1 at *
  clear hw1 hD hw g hB1
  go_enter Try.func11, Try.ntmps11
  go_upto_region 14 with fail
  rw [HW.out]
  clear HW
  refine wp_region_held (S := fun W => Below w1.heap.size w1 W) (by kernel_rfl) ?_
  change wpAnyH _ _ _ _ _ 19 #[false, false, false, false, false, false, false, false, false, false, false, false, false, false, false, false, false, false, false] _ w1.drew
  have hS0 : Below w1.heap.size w1 w1.drew := ⟨rfl, rfl, rfl, Nat.le_refl _, fun _ _ => rfl⟩
  obtain ⟨v0, hv0⟩ : ∃ v, v = w1.drew := ⟨_, rfl⟩
  rw [← hv0] at hS0 ⊢
  clear hv0
  have hb0 : Below w.heap.size w v0 := hB1'.out.trans (hS0.mono hB1'.out.size)
  refine takeR (fuel := 18) (i := 0) (v := .pointer (some ⟨lp, 0, none⟩)) rfl (by kernel_rfl) (by kernel_rfl) (by kernel_rfl) (fun _ _ _ h => h) (Or.inl ⟨rfl, fun W hW => by go_simp⟩) hS0 ?_
  simp only [Act.put, List.setIfInBounds_toArray, List.set_cons_zero, List.set_cons_succ]
  refine takeR (fuel := 17) (i := 1) (v := .pointer (some ⟨lp, 0, none⟩)) rfl (by kernel_rfl) (by kernel_rfl) (by kernel_rfl) (fun _ _ _ h => h) (Or.inl ⟨rfl, fun W hW => by go_simp⟩) hS0 ?_
  simp only [Act.put, List.setIfInBounds_toArray, List.set_cons_zero, List.set_cons_succ]
  refine takeR (fuel := 16) (i := 2) (v := .slice al L.length cl) rfl (by kernel_rfl) (by kernel_rfl) (by kernel_rfl) (fun _ _ _ h => h) (Or.inl ⟨rfl, fun W hW => by have cj : W.cell? ⟨lp, 0, none⟩ = some (.slice al L.length cl) := (hP1.below hW hlpl).cell 0; go_simp⟩) hS0 ?_
  simp only [Act.put, List.setIfInBounds_toArray, List.set_cons_zero, List.set_cons_succ]
  refine takeR (fuel := 15) (i := 3) (v := .pointer (some ⟨w.heap.size, 1, none⟩)) rfl (by kernel_rfl) (by kernel_rfl) (by kernel_rfl) (fun _ _ _ h => h) (Or.inl ⟨rfl, fun W hW => by go_simp⟩) hS0 ?_
  simp only [Act.put, List.setIfInBounds_toArray, List.set_cons_zero, List.set_cons_succ]
  refine takeR (fuel := 14) (i := 4) (v := .int .i64 a) rfl (by kernel_rfl) (by kernel_rfl) (by kernel_rfl) (fun _ _ _ h => h) (Or.inl ⟨rfl, fun W hW => by have cj : W.cell? ⟨w.heap.size, 1, none⟩ = some (.int .i64 a) := (hX1.below hW hgl).cell 1; go_simp⟩) hS0 ?_
  simp only [Act.put, List.setIfInBounds_toArray, List.set_cons_zero, List.set_cons_succ]
  refine takeR (fuel := 13) (i := 5) (v := .pointer (some ⟨w.heap.size, 2, none⟩)) rfl (by kernel_rfl) (by kernel_rfl) (by kernel_rfl) (fun _ _ _ h => h) (Or.inl ⟨rfl, fun W hW => by go_simp⟩) hS0 ?_
  simp only [Act.put, List.setIfInBounds_toArray, List.set_cons_zero, List.set_cons_succ]
  refine takeR (fuel := 12) (i := 6) (v := .int .i64 b) rfl (by kernel_rfl) (by kernel_rfl) (by kernel_rfl) (fun _ _ _ h => h) (Or.inl ⟨rfl, fun W hW => by have cj : W.cell? ⟨w.heap.size, 2, none⟩ = some (.int .i64 b) := (hX1.below hW hgl).cell 2; go_simp⟩) hS0 ?_
  simp only [Act.put, List.setIfInBounds_toArray, List.set_cons_zero, List.set_cons_succ]
  refine takeR (fuel := 11) (i := 7) (v := .pointer (some ⟨w.heap.size, 3, none⟩)) rfl (by kernel_rfl) (by kernel_rfl) (by kernel_rfl) (fun _ _ _ h => h) (Or.inl ⟨rfl, fun W hW => by go_simp⟩) hS0 ?_
  simp only [Act.put, List.setIfInBounds_toArray, List.set_cons_zero, List.set_cons_succ]
  refine takeR (fuel := 10) (i := 8) (v := .int .i64 c9) rfl (by kernel_rfl) (by kernel_rfl) (by kernel_rfl) (fun _ _ _ h => h) (Or.inl ⟨rfl, fun W hW => by have cj : W.cell? ⟨w.heap.size, 3, none⟩ = some (.int .i64 c9) := (hX1.below hW hgl).cell 3; go_simp⟩) hS0 ?_
  simp only [Act.put, List.setIfInBounds_toArray, List.set_cons_zero, List.set_cons_succ]
  refine takeR (fuel := 9) (i := 9) (v := .pointer (some ⟨w.heap.size, 7, none⟩)) rfl (by kernel_rfl) (by kernel_rfl) (by kernel_rfl) (fun _ _ _ h => h) (Or.inl ⟨rfl, fun W hW => by go_simp⟩) hS0 ?_
  simp only [Act.put, List.setIfInBounds_toArray, List.set_cons_zero, List.set_cons_succ]
  refine takeR (fuel := 8) (i := 10) (v := .slice ta t.length tc) rfl (by kernel_rfl) (by kernel_rfl) (by kernel_rfl) (fun _ _ _ h => h) (Or.inl ⟨rfl, fun W hW => by have cj : W.cell? ⟨w.heap.size, 7, none⟩ = some (.slice ta t.length tc) := (hX1.below hW hgl).cell 7; go_simp⟩) hS0 ?_
  simp only [Act.put, List.setIfInBounds_toArray, List.set_cons_zero, List.set_cons_succ]
  refine consR (fuel := 7) (i := 11) rfl (by kernel_rfl) (fun K hK => ?_)
  rw [if_pos (by rfl)]
  go_simp
  refine (HR.out v0 hb0).mono ?_
  rintro e v1 ⟨a1, c1, rfl, HZ⟩
  have hS1' : Below w1.heap.size w1 v1 := hS0.trans (HZ.out.2.2.mono hS0.size)
  refine hK.out _ _ hS1' (fun hS1 => ?_)
  clear hK
  try simp only [Act.put, List.setIfInBounds_toArray, List.set_cons_zero, List.set_cons_succ]
  refine takeR (fuel := 6) (i := 12) (v := .tuple #[.slice a1 L1.length c1, .int .i64 N1, .int .i64 E1]) rfl (by kernel_rfl) (by kernel_rfl) (by kernel_rfl) (fun _ _ _ h => h) (Or.inl ⟨rfl, fun W hW => by go_simp⟩) hS1 ?_
  simp only [Act.put, List.setIfInBounds_toArray, List.set_cons_zero, List.set_cons_succ]
  refine takeR (fuel := 5) (i := 13) (v := .slice a1 L1.length c1) rfl (by kernel_rfl) (by kernel_rfl) (by kernel_rfl) (fun _ _ _ h => h) (Or.inl ⟨rfl, fun W hW => by go_simp⟩) hS1 ?_
  simp only [Act.put, List.setIfInBounds_toArray, List.set_cons_zero, List.set_cons_succ]
  refine takeR (fuel := 4) (i := 14) (v := .int .i64 N1) rfl (by kernel_rfl) (by kernel_rfl) (by kernel_rfl) (fun _ _ _ h => h) (Or.inl ⟨rfl, fun W hW => by go_simp⟩) hS1 ?_
  simp only [Act.put, List.setIfInBounds_toArray, List.set_cons_zero, List.set_cons_succ]
  refine takeR (fuel := 3) (i := 15) (v := .int .i64 E1) rfl (by kernel_rfl) (by kernel_rfl) (by kernel_rfl) (fun _ _ _ h => h) (Or.inl ⟨rfl, fun W hW => by go_simp⟩) hS1 ?_
  simp only [Act.put, List.setIfInBounds_toArray, List.set_cons_zero, List.set_cons_succ]
  refine takeR (fuel := 2) (i := 16) (v := .slice a1 L1.length c1) rfl (by kernel_rfl) (by kernel_rfl) (by kernel_rfl) (fun _ _ _ h => h) (Or.inl ⟨rfl, fun W hW => by go_simp⟩) hS1 ?_
  simp only [Act.put, List.setIfInBounds_toArray, List.set_cons_zero, List.set_cons_succ]
  refine takeR (fuel := 1) (i := 17) (v := .int .i64 N1) rfl (by kernel_rfl) (by kernel_rfl) (by kernel_rfl) (fun _ _ _ h => h) (Or.inl ⟨rfl, fun W hW => by go_simp⟩) hS1 ?_
  simp only [Act.put, List.setIfInBounds_toArray, List.set_cons_zero, List.set_cons_succ]
  refine takeR (fuel := 0) (i := 18) (v := .int .i64 E1) rfl (by kernel_rfl) (by kernel_rfl) (by kernel_rfl) (fun _ _ _ h => h) (Or.inl ⟨rfl, fun W hW => by go_simp⟩) hS1 ?_
  simp only [Act.put, List.setIfInBounds_toArray, List.set_cons_zero, List.set_cons_succ]
  refine wpAnyH_done (by kernel_rfl) ?_ _
  have hb1 : Below w.heap.size w v1 := hB1'.out.trans (hS1.mono hB1'.out.size)
  have k0 : v1.cell? ⟨w.heap.size, 0, none⟩ = some (.int .i64 k) := (hX1.below hS1 hgl).cell 0
  have k1 : v1.cell? ⟨w.heap.size, 1, none⟩ = some (.int .i64 a) := (hX1.below hS1 hgl).cell 1
  have k2 : v1.cell? ⟨w.heap.size, 2, none⟩ = some (.int .i64 b) := (hX1.below hS1 hgl).cell 2
  have k3 : v1.cell? ⟨w.heap.size, 3, none⟩ = some (.int .i64 c9) := (hX1.below hS1 hgl).cell 3
  have k4 : v1.cell? ⟨w.heap.size, 4, none⟩ = some (.string s) := (hX1.below hS1 hgl).cell 4
  have k5 : v1.cell? ⟨w.heap.size, 5, none⟩ = some (.int .i64 n) := (hX1.below hS1 hgl).cell 5
  have k6 : v1.cell? ⟨w.heap.size, 6, none⟩ = some (.slice la l.length lc) := (hX1.below hS1 hgl).cell 6
  have k7 : v1.cell? ⟨w.heap.size, 7, none⟩ = some (.slice ta t.length tc) := (hX1.below hS1 hgl).cell 7
  have HP1 : Hid (Calls Try.prog 29 #[.pointer (some ⟨c, 0, none⟩), .int .i64 a, .int .i64 b, .int .i64 c9, .slice ta t.length tc] v1 fun e V2 => e = .returned (.tuple #[.int .i64 N1, .int .i64 E1]) ∧ V2.cell? ⟨lp, 0, none⟩ = some (.slice al L.length cl) ∧ V2.frozen? ⟨lp, 0, none⟩ = false ∧ Hid (DoP w0 c q m lp L1 (.returned (.bool true)) (V2.setCell ⟨lp, 0, none⟩ (.slice a1 L1.length c1)))) := (HPc.out v1 hb1).mono fun e V2 k2 => by
    have := HFI.out v1 V2 a1 c1 hb1 k2.2.out.2 k2.2.out.1 HZ.out.1 HZ.out.2.1
    exact ⟨k2.1, this.1, this.2.1, this.2.2⟩
  clear HPc HFI HR hS0 hS1 hS1' hb0 hb1 HZ hX1 hP1 hB1'
  go_wp2_with (go_at_call 29; refine HP1.out.mono ?_; rintro e w3 ⟨rfl, z0, z1, HF⟩; clear HP1)
  go_ret
  exact HF.out
set_option maxHeartbeats 16000000 in
theorem xdoes3 (w0 : World) (c q m lp : Nat) (L : List Num.Bal) (g : Num.Good L) (hl : L.length ≤ 10000) (al : Option Addr) (cl : Nat) (k a b c9 : Int) (s : ByteArray) (n : Int) (l : List Ln) (la : Option Addr) (lc : Nat) (t : List Lot) (ta : Option Addr) (tc : Nat) (hl40 : l.length ≤ 40) (ht40 : t.length ≤ 40) (hk0 : (k == 0) = false) (hk1 : (k == 1) = false) (hk2 : (k == 2) = false) (w : World) (hD : Ds w0 w c q m lp L al cl) (hw : Aw w ⟨k, a, b, c9, s, n, l, la, lc, t, ta, tc⟩) :
    Calls Try.prog 11 #[.pointer (some ⟨c, 0, none⟩), .pointer (some ⟨lp, 0, none⟩), .agg #[.int .i64 k, .int .i64 a, .int .i64 b, .int .i64 c9, .string s, .int .i64 n, .slice la l.length lc, .slice ta t.length tc]] w (DoP w0 c q m lp (mvL L (trl a b t s n))) := by
  obtain ⟨w1, hw1⟩ : ∃ w1, w1 = w.alloc (.cells #[.int .i64 k, .int .i64 a, .int .i64 b, .int .i64 c9, .string s, .int .i64 n, .slice la l.length lc, .slice ta t.length tc] 30) := ⟨_, rfl⟩
  have HW : Hid (w.alloc (.cells #[.int .i64 k, .int .i64 a, .int .i64 b, .int .i64 c9, .string s, .int .i64 n, .slice la l.length lc, .slice ta t.length tc] 30) = w1) := hw1.symm
  have hB1 : Below w.heap.size w w1 := by rw [hw1]; exact (Below.refl _ w).alloc (Nat.le_refl _) _
  have hX1 : Bx w1 w.heap.size #[.int .i64 k, .int .i64 a, .int .i64 b, .int .i64 c9, .string s, .int .i64 n, .slice la l.length lc, .slice ta t.length tc] 30 := by rw [hw1]; exact Bx.new w _ _
  have hP1 : Bx w1 lp #[.slice al L.length cl] 25 := hD.p.below hB1 hD.p.lt
  have hgl : w.heap.size < w1.heap.size := hX1.lt
  have hlpl : lp < w1.heap.size := hP1.lt
  have HR : Hid (∀ V, Below w.heap.size w V → Calls Try.prog 39 #[.slice al L.length cl, .int .i64 a, .int .i64 b, .slice ta t.length tc, .string s, .int .i64 n] V fun e V' => ∃ a1 c1, e = .returned (.tuple #[.slice a1 (mvL L (trl a b t s n)).length c1, .int .i64 (mvN L (trl a b t s n)), .int .i64 (mvE L (trl a b t s n))]) ∧ Hid ((mvL L (trl a b t s n)).length ≤ c1 ∧ Bs V' a1 (mvL L (trl a b t s n)) ∧ Below V.heap.size V V')) := fun V hb => (rtrade L g (by omega) al cl hD.k a b s n t (by omega) ta tc V (hD.below hb).r (hw.ts.below hb)).mono fun e V' hh => by
    obtain ⟨a1, c1, h1, h2, h3, h4⟩ := hh
    exact ⟨a1, c1, h1, h2, h3, h4⟩
  have HPc : Hid (∀ V, Below w.heap.size w V → Calls Try.prog 30 #[.pointer (some ⟨c, 0, none⟩), .int .i64 a, .int .i64 b, .slice ta t.length tc, .string s, .int .i64 n] V fun e V2 => e = .returned (.tuple #[.int .i64 (mvN L (trl a b t s n)), .int .i64 (mvE L (trl a b t s n))]) ∧ Hid (Cu V2 c q m (mvL L (trl a b t s n)) ∧ V.grownBy V2 (some m))) := fun V hb => by
    have hV := hD.below hb
    exact (xtrade c q m L g (by omega) a b t (by omega) s n ta tc V hV.x (hw.ts.below hb)).mono fun e V2 kk => ⟨kk.1, kk.2.1, kk.2.2⟩
  have HFI : Hid (∀ (V V2 : World) (a1 : Option Addr) (c1 : Nat), Below w.heap.size w V → V.grownBy V2 (some m) → Cu V2 c q m (mvL L (trl a b t s n)) → (mvL L (trl a b t s n)).length ≤ c1 → Bs V a1 (mvL L (trl a b t s n)) → V2.cell? ⟨lp, 0, none⟩ = some (.slice al L.length cl) ∧ V2.frozen? ⟨lp, 0, none⟩ = false ∧ Hid (DoP w0 c q m lp (mvL L (trl a b t s n)) (.returned (.bool true)) (V2.setCell ⟨lp, 0, none⟩ (.slice a1 (mvL L (trl a b t s n)).length c1)))) := fun V V2 a1 c1 hb hg hx hk hr => by
    obtain ⟨h1, h2, h3⟩ := ds_fin (hD.below hb) hg hx hk hr
    exact ⟨h1, h2, rfl, _, _, h3⟩
  have hB1' : Hid (Below w.heap.size w w1) := hB1
  generalize mvL L (trl a b t s n) = L1 at *
  generalize mvN L (trl a b t s n) = N1 at *
  generalize mvE L (trl a b t s n) = E1 at *
  clear hw1 hD hw g hB1
  go_enter Try.func11, Try.ntmps11
  go_upto_region 5 with fail
  rw [HW.out]
  clear HW
  refine wp_region_held (S := fun W => Below w1.heap.size w1 W) (by kernel_rfl) ?_
  change wpAnyH _ _ _ _ _ 21 #[false, false, false, false, false, false, false, false, false, false, false, false, false, false, false, false, false, false, false, false, false] _ w1.drew
  have hS0 : Below w1.heap.size w1 w1.drew := ⟨rfl, rfl, rfl, Nat.le_refl _, fun _ _ => rfl⟩
  obtain ⟨v0, hv0⟩ : ∃ v, v = w1.drew := ⟨_, rfl⟩
  rw [← hv0] at hS0 ⊢
  clear hv0
  have hb0 : Below w.heap.size w v0 := hB1'.out.trans (hS0.mono hB1'.out.size)
  refine takeR (fuel := 20) (i := 0) (v := .pointer (some ⟨lp, 0, none⟩)) rfl (by kernel_rfl) (by kernel_rfl) (by kernel_rfl) (fun _ _ _ h => h) (Or.inl ⟨rfl, fun W hW => by go_simp⟩) hS0 ?_
  simp only [Act.put, List.setIfInBounds_toArray, List.set_cons_zero, List.set_cons_succ]
  refine takeR (fuel := 19) (i := 1) (v := .pointer (some ⟨lp, 0, none⟩)) rfl (by kernel_rfl) (by kernel_rfl) (by kernel_rfl) (fun _ _ _ h => h) (Or.inl ⟨rfl, fun W hW => by go_simp⟩) hS0 ?_
  simp only [Act.put, List.setIfInBounds_toArray, List.set_cons_zero, List.set_cons_succ]
  refine takeR (fuel := 18) (i := 2) (v := .slice al L.length cl) rfl (by kernel_rfl) (by kernel_rfl) (by kernel_rfl) (fun _ _ _ h => h) (Or.inl ⟨rfl, fun W hW => by have cj : W.cell? ⟨lp, 0, none⟩ = some (.slice al L.length cl) := (hP1.below hW hlpl).cell 0; go_simp⟩) hS0 ?_
  simp only [Act.put, List.setIfInBounds_toArray, List.set_cons_zero, List.set_cons_succ]
  refine takeR (fuel := 17) (i := 3) (v := .pointer (some ⟨w.heap.size, 1, none⟩)) rfl (by kernel_rfl) (by kernel_rfl) (by kernel_rfl) (fun _ _ _ h => h) (Or.inl ⟨rfl, fun W hW => by go_simp⟩) hS0 ?_
  simp only [Act.put, List.setIfInBounds_toArray, List.set_cons_zero, List.set_cons_succ]
  refine takeR (fuel := 16) (i := 4) (v := .int .i64 a) rfl (by kernel_rfl) (by kernel_rfl) (by kernel_rfl) (fun _ _ _ h => h) (Or.inl ⟨rfl, fun W hW => by have cj : W.cell? ⟨w.heap.size, 1, none⟩ = some (.int .i64 a) := (hX1.below hW hgl).cell 1; go_simp⟩) hS0 ?_
  simp only [Act.put, List.setIfInBounds_toArray, List.set_cons_zero, List.set_cons_succ]
  refine takeR (fuel := 15) (i := 5) (v := .pointer (some ⟨w.heap.size, 2, none⟩)) rfl (by kernel_rfl) (by kernel_rfl) (by kernel_rfl) (fun _ _ _ h => h) (Or.inl ⟨rfl, fun W hW => by go_simp⟩) hS0 ?_
  simp only [Act.put, List.setIfInBounds_toArray, List.set_cons_zero, List.set_cons_succ]
  refine takeR (fuel := 14) (i := 6) (v := .int .i64 b) rfl (by kernel_rfl) (by kernel_rfl) (by kernel_rfl) (fun _ _ _ h => h) (Or.inl ⟨rfl, fun W hW => by have cj : W.cell? ⟨w.heap.size, 2, none⟩ = some (.int .i64 b) := (hX1.below hW hgl).cell 2; go_simp⟩) hS0 ?_
  simp only [Act.put, List.setIfInBounds_toArray, List.set_cons_zero, List.set_cons_succ]
  refine takeR (fuel := 13) (i := 7) (v := .pointer (some ⟨w.heap.size, 7, none⟩)) rfl (by kernel_rfl) (by kernel_rfl) (by kernel_rfl) (fun _ _ _ h => h) (Or.inl ⟨rfl, fun W hW => by go_simp⟩) hS0 ?_
  simp only [Act.put, List.setIfInBounds_toArray, List.set_cons_zero, List.set_cons_succ]
  refine takeR (fuel := 12) (i := 8) (v := .slice ta t.length tc) rfl (by kernel_rfl) (by kernel_rfl) (by kernel_rfl) (fun _ _ _ h => h) (Or.inl ⟨rfl, fun W hW => by have cj : W.cell? ⟨w.heap.size, 7, none⟩ = some (.slice ta t.length tc) := (hX1.below hW hgl).cell 7; go_simp⟩) hS0 ?_
  simp only [Act.put, List.setIfInBounds_toArray, List.set_cons_zero, List.set_cons_succ]
  refine takeR (fuel := 11) (i := 9) (v := .pointer (some ⟨w.heap.size, 4, none⟩)) rfl (by kernel_rfl) (by kernel_rfl) (by kernel_rfl) (fun _ _ _ h => h) (Or.inl ⟨rfl, fun W hW => by go_simp⟩) hS0 ?_
  simp only [Act.put, List.setIfInBounds_toArray, List.set_cons_zero, List.set_cons_succ]
  refine takeR (fuel := 10) (i := 10) (v := .string s) rfl (by kernel_rfl) (by kernel_rfl) (by kernel_rfl) (fun _ _ _ h => h) (Or.inl ⟨rfl, fun W hW => by have cj : W.cell? ⟨w.heap.size, 4, none⟩ = some (.string s) := (hX1.below hW hgl).cell 4; go_simp⟩) hS0 ?_
  simp only [Act.put, List.setIfInBounds_toArray, List.set_cons_zero, List.set_cons_succ]
  refine takeR (fuel := 9) (i := 11) (v := .pointer (some ⟨w.heap.size, 5, none⟩)) rfl (by kernel_rfl) (by kernel_rfl) (by kernel_rfl) (fun _ _ _ h => h) (Or.inl ⟨rfl, fun W hW => by go_simp⟩) hS0 ?_
  simp only [Act.put, List.setIfInBounds_toArray, List.set_cons_zero, List.set_cons_succ]
  refine takeR (fuel := 8) (i := 12) (v := .int .i64 n) rfl (by kernel_rfl) (by kernel_rfl) (by kernel_rfl) (fun _ _ _ h => h) (Or.inl ⟨rfl, fun W hW => by have cj : W.cell? ⟨w.heap.size, 5, none⟩ = some (.int .i64 n) := (hX1.below hW hgl).cell 5; go_simp⟩) hS0 ?_
  simp only [Act.put, List.setIfInBounds_toArray, List.set_cons_zero, List.set_cons_succ]
  refine consR (fuel := 7) (i := 13) rfl (by kernel_rfl) (fun K hK => ?_)
  rw [if_pos (by rfl)]
  go_simp
  refine (HR.out v0 hb0).mono ?_
  rintro e v1 ⟨a1, c1, rfl, HZ⟩
  have hS1' : Below w1.heap.size w1 v1 := hS0.trans (HZ.out.2.2.mono hS0.size)
  refine hK.out _ _ hS1' (fun hS1 => ?_)
  clear hK
  try simp only [Act.put, List.setIfInBounds_toArray, List.set_cons_zero, List.set_cons_succ]
  refine takeR (fuel := 6) (i := 14) (v := .tuple #[.slice a1 L1.length c1, .int .i64 N1, .int .i64 E1]) rfl (by kernel_rfl) (by kernel_rfl) (by kernel_rfl) (fun _ _ _ h => h) (Or.inl ⟨rfl, fun W hW => by go_simp⟩) hS1 ?_
  simp only [Act.put, List.setIfInBounds_toArray, List.set_cons_zero, List.set_cons_succ]
  refine takeR (fuel := 5) (i := 15) (v := .slice a1 L1.length c1) rfl (by kernel_rfl) (by kernel_rfl) (by kernel_rfl) (fun _ _ _ h => h) (Or.inl ⟨rfl, fun W hW => by go_simp⟩) hS1 ?_
  simp only [Act.put, List.setIfInBounds_toArray, List.set_cons_zero, List.set_cons_succ]
  refine takeR (fuel := 4) (i := 16) (v := .int .i64 N1) rfl (by kernel_rfl) (by kernel_rfl) (by kernel_rfl) (fun _ _ _ h => h) (Or.inl ⟨rfl, fun W hW => by go_simp⟩) hS1 ?_
  simp only [Act.put, List.setIfInBounds_toArray, List.set_cons_zero, List.set_cons_succ]
  refine takeR (fuel := 3) (i := 17) (v := .int .i64 E1) rfl (by kernel_rfl) (by kernel_rfl) (by kernel_rfl) (fun _ _ _ h => h) (Or.inl ⟨rfl, fun W hW => by go_simp⟩) hS1 ?_
  simp only [Act.put, List.setIfInBounds_toArray, List.set_cons_zero, List.set_cons_succ]
  refine takeR (fuel := 2) (i := 18) (v := .slice a1 L1.length c1) rfl (by kernel_rfl) (by kernel_rfl) (by kernel_rfl) (fun _ _ _ h => h) (Or.inl ⟨rfl, fun W hW => by go_simp⟩) hS1 ?_
  simp only [Act.put, List.setIfInBounds_toArray, List.set_cons_zero, List.set_cons_succ]
  refine takeR (fuel := 1) (i := 19) (v := .int .i64 N1) rfl (by kernel_rfl) (by kernel_rfl) (by kernel_rfl) (fun _ _ _ h => h) (Or.inl ⟨rfl, fun W hW => by go_simp⟩) hS1 ?_
  simp only [Act.put, List.setIfInBounds_toArray, List.set_cons_zero, List.set_cons_succ]
  refine takeR (fuel := 0) (i := 20) (v := .int .i64 E1) rfl (by kernel_rfl) (by kernel_rfl) (by kernel_rfl) (fun _ _ _ h => h) (Or.inl ⟨rfl, fun W hW => by go_simp⟩) hS1 ?_
  simp only [Act.put, List.setIfInBounds_toArray, List.set_cons_zero, List.set_cons_succ]
  refine wpAnyH_done (by kernel_rfl) ?_ _
  have hb1 : Below w.heap.size w v1 := hB1'.out.trans (hS1.mono hB1'.out.size)
  have k0 : v1.cell? ⟨w.heap.size, 0, none⟩ = some (.int .i64 k) := (hX1.below hS1 hgl).cell 0
  have k1 : v1.cell? ⟨w.heap.size, 1, none⟩ = some (.int .i64 a) := (hX1.below hS1 hgl).cell 1
  have k2 : v1.cell? ⟨w.heap.size, 2, none⟩ = some (.int .i64 b) := (hX1.below hS1 hgl).cell 2
  have k3 : v1.cell? ⟨w.heap.size, 3, none⟩ = some (.int .i64 c9) := (hX1.below hS1 hgl).cell 3
  have k4 : v1.cell? ⟨w.heap.size, 4, none⟩ = some (.string s) := (hX1.below hS1 hgl).cell 4
  have k5 : v1.cell? ⟨w.heap.size, 5, none⟩ = some (.int .i64 n) := (hX1.below hS1 hgl).cell 5
  have k6 : v1.cell? ⟨w.heap.size, 6, none⟩ = some (.slice la l.length lc) := (hX1.below hS1 hgl).cell 6
  have k7 : v1.cell? ⟨w.heap.size, 7, none⟩ = some (.slice ta t.length tc) := (hX1.below hS1 hgl).cell 7
  have HP1 : Hid (Calls Try.prog 30 #[.pointer (some ⟨c, 0, none⟩), .int .i64 a, .int .i64 b, .slice ta t.length tc, .string s, .int .i64 n] v1 fun e V2 => e = .returned (.tuple #[.int .i64 N1, .int .i64 E1]) ∧ V2.cell? ⟨lp, 0, none⟩ = some (.slice al L.length cl) ∧ V2.frozen? ⟨lp, 0, none⟩ = false ∧ Hid (DoP w0 c q m lp L1 (.returned (.bool true)) (V2.setCell ⟨lp, 0, none⟩ (.slice a1 L1.length c1)))) := (HPc.out v1 hb1).mono fun e V2 k2 => by
    have := HFI.out v1 V2 a1 c1 hb1 k2.2.out.2 k2.2.out.1 HZ.out.1 HZ.out.2.1
    exact ⟨k2.1, this.1, this.2.1, this.2.2⟩
  clear HPc HFI HR hS0 hS1 hS1' hb0 hb1 HZ hX1 hP1 hB1'
  go_wp2_with (go_at_call 30; refine HP1.out.mono ?_; rintro e w3 ⟨rfl, z0, z1, HF⟩; clear HP1)
  go_ret
  exact HF.out
theorem xdoes (w0 : World) (c q m lp : Nat) (L : List Num.Bal) (g : Num.Good L) (hl : L.length ≤ 10000) (al : Option Addr) (cl : Nat) (x : Ac) (hs : x.sh = true) (w : World) (hD : Ds w0 w c q m lp L al cl) (hw : Aw w x) :
    Calls Try.prog 11 #[.pointer (some ⟨c, 0, none⟩), .pointer (some ⟨lp, 0, none⟩), .agg #[.int .i64 x.k, .int .i64 x.a, .int .i64 x.b, .int .i64 x.c, .string x.s, .int .i64 x.n, .slice x.la x.l.length x.lc, .slice x.ta x.t.length x.tc]] w (DoP w0 c q m lp (Ac.L L x)) := by
  unfold Ac.sh at hs
  simp only [Bool.and_eq_true, decide_eq_true_eq] at hs
  unfold Ac.L
  by_cases h0 : x.k = 0
  · rw [if_pos h0]
    exact xdoes0 w0 c q m lp L g hl al cl x.k x.a x.b x.c x.s x.n x.l x.la x.lc x.t x.ta x.tc hs.1 hs.2 (by simp [h0]) w hD hw
  rw [if_neg h0]
  by_cases h1 : x.k = 1
  · rw [if_pos h1]
    exact xdoes1 w0 c q m lp L g hl al cl x.k x.a x.b x.c x.s x.n x.l x.la x.lc x.t x.ta x.tc hs.1 hs.2 (by simp [h0]) (by simp [h1]) w hD hw
  rw [if_neg h1]
  by_cases h2 : x.k = 2
  · rw [if_pos h2]
    exact xdoes2 w0 c q m lp L g hl al cl x.k x.a x.b x.c x.s x.n x.l x.la x.lc x.t x.ta x.tc hs.1 hs.2 (by simp [h0]) (by simp [h1]) (by simp [h2]) w hD hw
  rw [if_neg h2]
  exact xdoes3 w0 c q m lp L g hl al cl x.k x.a x.b x.c x.s x.n x.l x.la x.lc x.t x.ta x.tc hs.1 hs.2 (by simp [h0]) (by simp [h1]) (by simp [h2]) w hD hw
end Go.Proofs.Ytbfnfebmmhhegaa
