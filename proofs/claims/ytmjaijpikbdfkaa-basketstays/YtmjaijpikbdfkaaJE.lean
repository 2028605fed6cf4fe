/- layer 14: Takes of the program -/
import Derived.Test.YtmjaijpikbdfkaaIE
import Derived.Test.YtmjaijpikbdfkaaJB
import Derived.WalkKit
import Derived.ProofKit
import Derived.Handy
import Derived.WalkLawsBesides
import Derived.WalkSpells
import Derived.BigQuiet
import Derived.BigCall
import Derived.Deep.QuietTactic
import Derived.Deep.Light
import Derived.Deep.OwnRows
import Derived.Laws.AppendOwnNone
import Derived.Laws.Strings3
import Derived.Laws.RangeAny
import Derived.Deep.RegionWith
import Derived.Lib.BitFns
import Derived.Lib.Walk
import Derived.Lib.Strings
import Derived.Lib.OthersKept
import Derived.Deep.CutBlock
import Derived.Deep.DeepCutAuto
import Derived.Deep.LoopGhost
import Derived.Deep.RegionHeld3
import Derived.Lib.SmallJoins
import Derived.Maps.AppendAt
import Derived.Laws.IdiomStrings
import Derived.Lib.AppendZeros
import Derived.Deep.WholeRow
import Derived.Laws.BitsAllLaws
import Derived.Lib.ConvBytes
import Derived.Deep.RegionLaw
import Derived.Maps.OwnSet
import Derived.Maps.OwnOps
import Derived.Maps.RangeWalk
import Derived.Maps.Ext
import Derived.DeepKeys4
import Derived.Laws.StructEq
import Derived.Deep.MidRow
import Derived.Lib.Bytealg
import Derived.Lib.Overlaps
import Derived.Lib.AppendZerosOnto
import Derived.Laws.MakeOwn
import Derived.Deep.Upon
import Derived.Sort.OwnSortedInts
namespace Go.Proofs.Ytmjaijpikbdfkaa
open Go.RowKit
set_option linter.unusedVariables false
set_option linter.unusedSimpArgs false
set_option maxRecDepth 20000
theorem keysT {C : List Kv} {S : List Int} (T : Int → Bool) (h : (C.map Prod.fst).mergeSort (fun x y => decide (x ≤ y)) = S) (hup : S.Pairwise (· < ·)) (hn : (C.map Prod.fst).Nodup) : ((C.map Prod.fst).filter T).mergeSort (fun x y => decide (x ≤ y)) = S.filter T := by
  refine sorted_ext (hn.filter _) (fun n => ?_) (hup.filter _) (List.mergeSort_perm _ _) ?_
  · rw [List.mem_filter, List.mem_filter, ← h]
    have := (List.mergeSort_perm (C.map Prod.fst) (fun x y => decide (x ≤ y))).mem_iff (a := n)
    rw [this]
  · have := List.pairwise_mergeSort (le := fun x y : Int => decide (x ≤ y)) (by intro a b c h1 h2; simp at *; omega) (by intro a b; simp; omega) ((C.map Prod.fst).filter T)
    refine this.imp ?_
    intro a b h
    simpa using h
theorem below_grown {w w' : World} (hb : Below w.heap.size w w') : w.grownBy w' none := ⟨hb.os, hb.tape, hb.output, hb.size, fun k hk _ => hb.block k hk⟩
theorem kload27 {W : World} {b : Nat} {v0 v1 v2 v3 v4 : Value} (h : Bx W b #[v0, v1, v2, v3, v4] 27) : (Instr.loadAt 27 (.pointer (some ⟨b, 0, none⟩))).run Try.prog W = .ok (.agg #[v0, v1, v2, v3, v4]) W := load27 h
set_option maxHeartbeats 16000000 in
theorem xtakes0 {F : Nat → Prop} {w : World} {p mm : Nat} {L : List En} (ai ac : ByteArray) (a1 a2 m day : Int) (S : List Int) (T : Int → Bool) (h : Bo F w p mm L) (hL : L.length ≤ 1000000) (hup : S.Pairwise (· < ·))
    (hk : ∀ C : List Kv, C.Perm (L.map kv) → (C.map Prod.fst).Nodup → (C.map Prod.fst).mergeSort (fun x y => decide (x ≤ y)) = S)
    (hE : ∀ q ∈ L.map kv, ∃ (blk off n cap j : Nat) (x : Bm), q.2 = .slice (some ⟨blk, off, none⟩) n cap ∧ n ≤ 1000000 ∧ (n : Int) - 1 = (j : Int) ∧ (∀ W, Below w.heap.size w W → (Instr.loadAt 25 (.pointer (some ⟨blk, off + j * 10, none⟩))).run Try.prog W = .ok (.agg (bcs x).toArray) W) ∧ (∀ W, Below w.heap.size w W → Calls Try.prog 12 #[.agg (bcs x).toArray, .agg #[.string ai, .int .i64 a1, .int .i64 a2, .int .i64 m, .string ac], .int .i64 day] W (KP (.bool (T q.1)) W)))
    : Calls Try.prog 25 #[.pointer (some ⟨p, 0, none⟩), .agg #[.string ai, .int .i64 a1, .int .i64 a2, .int .i64 m, .string ac], .int .i64 day] w (IdP (S.filter T) w) := by
  obtain ⟨w0, hw0⟩ : ∃ w0, w0 = w.alloc (.cells #[.string ai, .int .i64 a1, .int .i64 a2, .int .i64 m, .string ac] 27) := ⟨_, rfl⟩
  have hb0 : Below w.heap.size w w0 := by rw [hw0]; exact below_a w _
  have hs0 : w0.heap.size = w.heap.size + 1 := by rw [hw0]; simp
  have HX0 : Hid (Bx w0 w.heap.size #[.string ai, .int .i64 a1, .int .i64 a2, .int .i64 m, .string ac] 27) := by rw [hw0]; exact Bx.new w _ _
  have h0 := h.below hb0
  have HL : Hid (Calls Try.prog 41 #[.pointer (some ⟨p, 0, none⟩)] w0 (BP false w0)) := xlack h0.bx
  have cq : w0.cell? ⟨p, 0, none⟩ = some (.map (some mm)) := h0.bx.cell 0
  have hml : mm < w0.heap.size := h0.mp.lt
  obtain ⟨w1, hrg, hrv, hg, hsz⟩ := h0.mp.range
  have HR1 : Hid (Rg w1 mm w0.heap.size (L.map kv) [] (L.map kv).length) := hrv
  have HB01 : Hid (Below w0.heap.size w0 w1) := ⟨hg.os, hg.tape, hg.output, hg.size, fun k hk => hg.block k hk (by simp)⟩
  have HB1 : Hid (Below w.heap.size w w1) := hb0.trans (HB01.out.mono hb0.size)
  have HX1 : Hid (Bx w1 w.heap.size #[.string ai, .int .i64 a1, .int .i64 a2, .int .i64 m, .string ac] 27) := HX0.out.keep HB01.out
  have HS1 : Hid (w0.heap.size + 1 ≤ w1.heap.size) := by unfold Hid; omega
  have HK : Hid (∀ C : List Kv, C.Perm (L.map kv) → (C.map Prod.fst).Nodup → ((C.map Prod.fst).filter T).mergeSort (fun x y => decide (x ≤ y)) = S.filter T) := fun C hC hn => keysT T (hk C hC hn) hup hn
  have HE : Hid (∀ q ∈ L.map kv, ∃ (blk off n cap j : Nat) (x : Bm), q.2 = .slice (some ⟨blk, off, none⟩) n cap ∧ n ≤ 1000000 ∧ (n : Int) - 1 = (j : Int) ∧ (∀ W, Below w.heap.size w W → (Instr.loadAt 25 (.pointer (some ⟨blk, off + j * 10, none⟩))).run Try.prog W = .ok (.agg (bcs x).toArray) W) ∧ (∀ W, Below w.heap.size w W → Calls Try.prog 12 #[.agg (bcs x).toArray, .agg #[.string ai, .int .i64 a1, .int .i64 a2, .int .i64 m, .string ac], .int .i64 day] W (KP (.bool (T q.1)) W))) := hE
  have HW : Hid (w.alloc (.cells #[.string ai, .int .i64 a1, .int .i64 a2, .int .i64 m, .string ac] 27) = w0) := hw0.symm
  have HS0 : Hid (w0.heap.size = w.heap.size + 1) := hs0
  generalize S.filter T = Q at *
  clear h hk hup hE hrv hg hsz h0 hb0 hw0 hs0
  go_enter Try.func25, Try.ntmps25
  go_upto_region 1 with fail
  rw [HW.out]
  clear HW
  go_wp2_with (go_at_call 41; refine HL.out.mono ?_; clear HL; rintro e w2 ⟨rfl, rfl⟩)
  go_loopw [7] (fun v wr => ∃ (C : List Kv) (cnt : Nat), Hid (Rg wr mm w0.heap.size (L.map kv) C cnt ∧ wr.ownsRow (w0.heap.size + 1) 3 1 v ((C.map Prod.fst).filter T).length (rcs ics ((C.map Prod.fst).filter T)) ∧ Below w.heap.size w wr ∧ Bx wr w.heap.size #[.string ai, .int .i64 a1, .int .i64 a2, .int .i64 m, .string ac] 27 ∧ w0.heap.size + 1 ≤ wr.heap.size))
    (fun _ wr => wr.rangeLeft mm w0.heap.size)
  case atStart => exact ⟨[], _, HR1.out, World.ownsRow_nil _ _ _ _, HB1.out, HX1.out, HS1.out⟩
  case round =>
    obtain ⟨C, cnt, HR⟩ := hrel
    rcases HR.out.1.next 0 with ⟨hC, hn⟩ | ⟨q, w2, cnt', hp, hn, hrv, hlt, hgr, hsz, hen, hnc⟩
    · have hCl : ((C.map Prod.fst).filter T).length ≤ 1000000 := Nat.le_trans (List.length_filter_le _ _) (by rw [List.length_map, hC.length_eq, List.length_map]; exact hL)
      have hso := xsortI HR.out.2.1 rfl hCl HR.out.2.2.2.2
      have hSl : Q.length = ((C.map Prod.fst).filter T).length := by rw [← HK.out C hC HR.out.1.nodup, List.length_mergeSort]
      rw [HK.out C hC HR.out.1.nodup, ← hSl] at hso
      have HSO : Hid (Calls Try.prog 47 #[u7] wr fun e w' => e = .returned (.tuple #[]) ∧ Hid (IdP Q w (.returned u7) w')) := hso.mono fun e w' hh => by
        obtain ⟨h1, h2, h3⟩ := hh
        have h4 := own_mono h2 (show w.heap.size ≤ w0.heap.size + 1 by have := HS0.out; omega)
        obtain ⟨a, c, hv, _⟩ := own_read h4 h4.1
        refine ⟨h1, a, c, by rw [hv], ?_, HR.out.2.2.1.trans (h3.mono (by have := HS0.out; omega))⟩
        rw [← hv]
        exact h4
      clear hC hCl hso hSl HR
      go_wp2_with (go_at_call 47; refine HSO.out.mono ?_; clear HSO; rintro e w5 ⟨rfl, HF⟩)
      go_ret
      exact HF.out
    · obtain ⟨qk, qv⟩ := q
      have hqm : (qk, qv) ∈ L.map kv := by
        obtain ⟨_, _, _, _, _, _, h5, h6, _⟩ := hrv
        exact h5 _ (List.mem_append_right _ (List.mem_singleton.2 rfl))
      obtain ⟨blk, off, n, cap, j, x, hqv, hnl, hjz, hld, hfit⟩ := HE.out _ hqm
      have hqv : qv = .slice (some ⟨blk, off, none⟩) n cap := hqv
      subst hqv
      have hn' : (Instr.next (.pointer (some ⟨w0.heap.size, 0, none⟩)) false 0).run Try.prog wr = .ok (.tuple #[.bool true, .int .i64 qk, .slice (some ⟨blk, off, none⟩) n cap]) w2 := hn
      have hen' : (Instr.entry (.pointer (some ⟨w0.heap.size, 0, none⟩))).run Try.prog w2 = .ok (.tuple #[.int .i64 qk, .slice (some ⟨blk, off, none⟩) n cap]) w2 := hen
      have HO2 : Hid (w2.ownsRow (w0.heap.size + 1) 3 1 u7 ((C.map Prod.fst).filter T).length (rcs ics ((C.map Prod.fst).filter T))) := own_grown HR.out.2.1 hgr (fun e => by have := (HR.out.2.1.lt w0.heap.size e.symm).1; omega)
      have HBW : Hid (Below w.heap.size w w2) := HR.out.2.2.1.grown hgr HR.out.2.2.1.size (fun k e => by cases e; have := HS0.out; omega)
      have HX2 : Hid (Bx w2 w.heap.size #[.string ai, .int .i64 a1, .int .i64 a2, .int .i64 m, .string ac] 27) := HR.out.2.2.2.1.kept hgr (fun e => by injection e with e; have := HS0.out; omega)
      have HS2 : Hid (w0.heap.size + 1 ≤ w2.heap.size) := by have := hgr.size; have := HR.out.2.2.2.2; unfold Hid; omega
      have HRV : Hid (Rg w2 mm w0.heap.size (L.map kv) (C ++ [(qk, .slice (some ⟨blk, off, none⟩) n cap)]) cnt') := hrv
      have HLT : Hid (cnt' < wr.rangeLeft mm w0.heap.size) := by unfold Hid; rw [HR.out.1.left]; exact hlt
      have HCL : Hid (C.length ≤ 1000000) := by
        obtain ⟨_, _, _, _, _, _, h5, h6, _⟩ := HR.out.1
        have h2 := nd_len h6 h5
        rw [List.length_map] at h2
        exact Nat.le_trans h2 hL
      have HLD : Hid (∀ W, Below w2.heap.size w2 W → (Instr.loadAt 25 (.pointer (some ⟨blk, off + j * 10, none⟩))).run Try.prog W = .ok (.agg (bcs x).toArray) W) := fun W hW => hld W (HBW.out.trans (hW.mono HBW.out.size))
      have HFT : Hid (∀ W, Below w2.heap.size w2 W → Calls Try.prog 12 #[.agg (bcs x).toArray, .agg #[.string ai, .int .i64 a1, .int .i64 a2, .int .i64 m, .string ac], .int .i64 day] W (KP (.bool (T qk)) W)) := fun W hW => hfit W (HBW.out.trans (hW.mono HBW.out.size))
      have hjl : (j : Int) < (n : Int) := by omega
      have hj0 : (0 : Int) ≤ j := by omega
      have hwj : IntKind.i64.wrap (j : Int) = j := by rw [IntKind.wrap_i64]; omega
      generalize (bcs x).toArray = Mx at *
      clear hn hen hp hrv hlt hgr hsz hnc HR HR1 HB1 HX1 HB01 HX0 HE hqm hld hfit
      go_upto_region 7 with fail
      refine wp_region_held (S := fun W => Below w2.heap.size w2 W) (by kernel_rfl) ?_
      change wpAnyH _ _ _ _ _ 9 #[false, false, false, false, false, false, false, false, false] _ w2.drew
      obtain ⟨v0, hv0⟩ : ∃ v, v = w2.drew := ⟨_, rfl⟩
      have hS0 : Below w2.heap.size w2 v0 := by rw [hv0]; exact ⟨rfl, rfl, rfl, Nat.le_refl _, fun _ _ => rfl⟩
      rw [← hv0]
      clear hv0
      refine takeR (fuel := 8) (i := 0) (v := .slice (some ⟨blk, off, none⟩) n cap) rfl (by kernel_rfl) (by kernel_rfl) (by kernel_rfl) (fun _ _ _ h => h) (Or.inl ⟨rfl, fun W hW => by go_simp⟩) hS0 ?_
      simp only [Act.put, List.setIfInBounds_toArray, List.set_cons_zero, List.set_cons_succ]
      refine takeR (fuel := 7) (i := 1) (v := .slice (some ⟨blk, off, none⟩) n cap) rfl (by kernel_rfl) (by kernel_rfl) (by kernel_rfl) (fun _ _ _ h => h) (Or.inl ⟨rfl, fun W hW => by go_simp⟩) hS0 ?_
      simp only [Act.put, List.setIfInBounds_toArray, List.set_cons_zero, List.set_cons_succ]
      refine takeR (fuel := 6) (i := 2) (v := .int .i64 n) rfl (by kernel_rfl) (by kernel_rfl) (by kernel_rfl) (fun _ _ _ h => h) (Or.inl ⟨rfl, fun W hW => by go_simp⟩) hS0 ?_
      simp only [Act.put, List.setIfInBounds_toArray, List.set_cons_zero, List.set_cons_succ]
      refine takeR (fuel := 5) (i := 3) (v := .int .i64 j) rfl (by kernel_rfl) (by kernel_rfl) (by kernel_rfl) (fun _ _ _ h => h) (Or.inl ⟨rfl, fun W hW => by go_simp⟩) hS0 ?_
      simp only [Act.put, List.setIfInBounds_toArray, List.set_cons_zero, List.set_cons_succ]
      refine takeR (fuel := 4) (i := 4) (v := .pointer (some ⟨blk, off + j * 10, none⟩)) rfl (by kernel_rfl) (by kernel_rfl) (by kernel_rfl) (fun _ _ _ h => h) (Or.inl ⟨rfl, fun W hW => by go_simp⟩) hS0 ?_
      simp only [Act.put, List.setIfInBounds_toArray, List.set_cons_zero, List.set_cons_succ]
      refine takeR (fuel := 3) (i := 5) (v := .agg Mx) rfl (by kernel_rfl) (by kernel_rfl) (by kernel_rfl) (fun _ _ _ h => h) (Or.inl ⟨rfl, fun W hW => exl _ _ _ _ rfl (.pointer (some ⟨blk, off + j * 10, none⟩)) _ rfl (HLD.out W hW)⟩) hS0 ?_
      simp only [Act.put, List.setIfInBounds_toArray, List.set_cons_zero, List.set_cons_succ]
      refine takeR (fuel := 2) (i := 6) (v := .agg #[.string ai, .int .i64 a1, .int .i64 a2, .int .i64 m, .string ac]) rfl (by kernel_rfl) (by kernel_rfl) (by kernel_rfl) (fun _ _ _ h => h) (Or.inl ⟨rfl, fun W hW => exl _ _ _ _ rfl (.pointer (some ⟨w.heap.size, 0, none⟩)) _ rfl (kload27 (HX2.out.keep hW))⟩) hS0 ?_
      simp only [Act.put, List.setIfInBounds_toArray, List.set_cons_zero, List.set_cons_succ]
      refine takeR (fuel := 1) (i := 7) (v := .int .i64 day) rfl (by kernel_rfl) (by kernel_rfl) (by kernel_rfl) (fun _ _ _ h => h) (Or.inl ⟨rfl, fun W hW => by go_simp⟩) hS0 ?_
      simp only [Act.put, List.setIfInBounds_toArray, List.set_cons_zero, List.set_cons_succ]
      refine consR (fuel := 0) (i := 8) rfl (by kernel_rfl) (fun K hK => ?_)
      rw [if_pos (by rfl)]
      go_simp
      refine (HFT.out _ hS0).mono ?_
      rintro e v1 ⟨rfl, hk1⟩
      refine hK.out _ _ (hS0.trans (hk1.out.mono hS0.size)) (fun hS1 => ?_)
      clear hK
      try simp only [Act.put, List.setIfInBounds_toArray, List.set_cons_zero, List.set_cons_succ]
      clear hk1 hS0 HFT HLD
      refine wpAnyH_done (by kernel_rfl) ?_ _
      have HRW : Hid (Rg v1 mm w0.heap.size (L.map kv) (C ++ [(qk, .slice (some ⟨blk, off, none⟩) n cap)]) cnt') := HRV.out.kept (below_grown hS1) (by simp) (by simp)
      have HO3 : Hid (v1.ownsRow (w0.heap.size + 1) 3 1 u7 ((C.map Prod.fst).filter T).length (rcs ics ((C.map Prod.fst).filter T))) := own_below HO2.out hS1
      have HBW3 : Hid (Below w.heap.size w v1) := HBW.out.trans (hS1.mono HBW.out.size)
      have HX3 : Hid (Bx v1 w.heap.size #[.string ai, .int .i64 a1, .int .i64 a2, .int .i64 m, .string ac] 27) := HX2.out.keep hS1
      have HS3 : Hid (w0.heap.size + 1 ≤ v1.heap.size) := Nat.le_trans HS2.out hS1.size
      clear hS1 HRV HO2 HBW HX2 HS2
      have hfm : ((C ++ [(qk, (.slice (some ⟨blk, off, none⟩) n cap : Value))]).map Prod.fst).filter T = if T qk = true then (C.map Prod.fst).filter T ++ [qk] else (C.map Prod.fst).filter T := by
        rw [List.map_append, List.filter_append]
        cases hT : T qk <;> simp [hT]
      cases hT : T qk with
      | false =>
        have HF : Hid (Rg v1 mm w0.heap.size (L.map kv) (C ++ [(qk, .slice (some ⟨blk, off, none⟩) n cap)]) cnt' ∧ v1.ownsRow (w0.heap.size + 1) 3 1 u7 (((C ++ [(qk, (.slice (some ⟨blk, off, none⟩) n cap : Value))]).map Prod.fst).filter T).length (rcs ics (((C ++ [(qk, (.slice (some ⟨blk, off, none⟩) n cap : Value))]).map Prod.fst).filter T)) ∧ Below w.heap.size w v1 ∧ Bx v1 w.heap.size #[.string ai, .int .i64 a1, .int .i64 a2, .int .i64 m, .string ac] 27 ∧ w0.heap.size + 1 ≤ v1.heap.size) := by
          refine ⟨HRW.out, ?_, HBW3.out, HX3.out, HS3.out⟩
          rw [hfm, if_neg (by rw [hT]; simp)]
          exact HO3.out
        have HM : Hid (v1.rangeLeft mm w0.heap.size < wr.rangeLeft mm w0.heap.size) := by unfold Hid; rw [HRW.out.left]; exact HLT.out
        clear HRW HO3 HBW3 HX3 HS3 hfm hT
        go_wp2_with fail
        go_roundw
        case rel => exact ⟨_, _, HF.out⟩
        case measure => exact HM.out
      | true =>
        obtain ⟨v', w4, hr4, ho4, hg4⟩ := app_gen (T := 3) (Sl := 23) (k := 1) (bytes := 8) Try.underlying23 info3 rfl (by omega) (ics qk) rfl (ics_one qk) HO3.out HS3.out (by have := HCL.out; have := List.length_filter_le T (C.map Prod.fst); rw [List.length_map] at this; omega) (by have := HCL.out; have := List.length_filter_le T (C.map Prod.fst); rw [List.length_map] at this; unfold maxLen; omega)
        have hr4' : (Builtin.append_ #[23, 23] 23 #[u7, .slice (some ⟨v1.heap.size, 0, none⟩) 1 1]).run Try.prog (v1.alloc (.cells #[.int .i64 qk] 3)) = .ok v' w4 := hr4
        have hown : ∀ g, u7.ownBlock = some g → w0.heap.size + 1 ≤ g := fun g hg => (HO3.out.lt g hg).1
        have hrv4 : Rg w4 mm w0.heap.size (L.map kv) (C ++ [(qk, .slice (some ⟨blk, off, none⟩) n cap)]) cnt' := (HRW.out.kept (grown_alloc _ _ none) (by simp) (by simp)).kept hg4 (fun e => by have := hown mm e.symm; omega) (fun e => by have := hown _ e.symm; omega)
        have HF : Hid (Rg w4 mm w0.heap.size (L.map kv) (C ++ [(qk, .slice (some ⟨blk, off, none⟩) n cap)]) cnt' ∧ w4.ownsRow (w0.heap.size + 1) 3 1 v' (((C ++ [(qk, (.slice (some ⟨blk, off, none⟩) n cap : Value))]).map Prod.fst).filter T).length (rcs ics (((C ++ [(qk, (.slice (some ⟨blk, off, none⟩) n cap : Value))]).map Prod.fst).filter T)) ∧ Below w.heap.size w w4 ∧ Bx w4 w.heap.size #[.string ai, .int .i64 a1, .int .i64 a2, .int .i64 m, .string ac] 27 ∧ w0.heap.size + 1 ≤ w4.heap.size) := by
          refine ⟨hrv4, ?_, ?_, ?_, ?_⟩
          · rw [hfm, if_pos hT, List.length_append, rcs_snoc]
            exact ho4
          · exact (HBW3.out.alloc HBW3.out.size _).grown hg4 (by simp; have := HBW3.out.size; omega) (fun j hj => by have := hown j hj; have := HS0.out; omega)
          · exact (HX3.out.keep (below_a _ _)).kept hg4 (fun e => by have := hown _ e.symm; have := HS0.out; omega)
          · have := hg4.size; have := HS3.out; simp at *; omega
        have HM : Hid (w4.rangeLeft mm w0.heap.size < wr.rangeLeft mm w0.heap.size) := by unfold Hid; rw [hrv4.left]; exact HLT.out
        clear HRW HO3 HBW3 HX3 HS3 hfm hT hr4 ho4 hg4 hown hrv4 HLT HCL
        go_wp2_with (at_builtin; refine Lib.wpList_append_run _ rfl _ _ 23 23 rfl _ _ rfl rfl _ w4 hr4' ?_)
        go_roundw
        case rel => exact ⟨_, _, HF.out⟩
        case measure => exact HM.out
theorem xtakes {F : Nat → Prop} {w : World} {p m : Nat} {L : List En} {r : List Bk} (h : Bo F w p m L) (g : Gr L r) (a : As) (day : Int) (hm : 0 ≤ a.mat ∧ a.mat ≤ 200000) : Calls Try.prog 25 #[.pointer (some ⟨p, 0, none⟩), .agg (acs a), .int .i64 day] w (IdP (takes r a day) w) :=
  xtakes0 a.i a.c a.iss a.rat a.mat day (ids r) (tkB r a day) h g.l (ids_up g.s) (fun C hC hn => keys_ids g.rl g.s (fun e he => (h.en e he).len) hC hn) (fun q hq => by
    obtain ⟨e, he, rfl⟩ := List.mem_map.1 hq
    have ho := h.en e he
    have hl := ho.len
    obtain ⟨ad, cap, hv, _, hrw⟩ := own_rw bcs_len ho.row.1 rfl
    have hof := g.rl.of e he
    have hxl : e.xs.length ≤ 1000000 := by
      have h1 := congrArg List.length hof
      rw [List.length_map] at h1
      have h2 := of_len r e.id
      have h3 := g.n
      omega
    have hlt : e.xs.length - 1 < e.xs.length := by omega
    obtain ⟨blk, off, rfl, hbl, hc⟩ := hrw hl
    have hmx : e.xs[e.xs.length - 1] ∈ e.xs := List.getElem_mem hlt
    have hbe := sm_of (g.e e.xs[e.xs.length - 1].b (of_mem (r := r) (id := e.id) (by rw [hof]; exact List.mem_map.2 ⟨_, hmx, rfl⟩)).1)
    refine ⟨blk, off, e.xs.length, cap, e.xs.length - 1, e.xs[e.xs.length - 1], hv, hxl, by omega, fun W hW => ?_, fun W hW => ?_⟩
    · exact row_load (fun j hj => (hW.cell (p := ⟨blk, off + (e.xs.length - 1) * 10 + j, none⟩) hbl).trans (hc _ hlt j hj))
    · have ht : tkB r a day e.id = decide (why e.xs[e.xs.length - 1].b a day = 0) := by
        unfold tkB
        rw [hof, List.getLast?_map, List.getLast?_eq_getElem?, List.getElem?_eq_getElem hlt]
        rfl
      have := xfits e.xs[e.xs.length - 1] a day hm W ((ho.hx _ hmx).ha.on hW (Nat.le_refl _)) hbe.2.2
      rw [← ht] at this
      exact this)
end Go.Proofs.Ytmjaijpikbdfkaa
