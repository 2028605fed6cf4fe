/- layer 11: All walked -/
import Derived.Test.YtbfnfebmmhhegaaQ
import Derived.Test.YtbfnfebmmhhegaaShelf2
import Derived.WalkKit
import Derived.ProofKit
import Derived.Handy
import Derived.WalkLawsBesides
import Derived.WalkSpells
import Derived.BigQuiet
import Derived.BigCall
import Derived.Deep.QuietTactic
import Derived.Deep.Light
import Derived.Deep.OwnRows
import Derived.Laws.AppendOwnNone
import Derived.Laws.Strings3
import Derived.Laws.RangeAny
import Derived.Deep.RegionWith
import Derived.Lib.BitFns
import Derived.Lib.Walk
import Derived.Lib.Strings
import Derived.Lib.OthersKept
import Derived.Deep.CutBlock
import Derived.Deep.DeepCutAuto
import Derived.Deep.LoopGhost
import Derived.Deep.RegionHeld3
import Derived.Lib.SmallJoins
import Derived.Maps.AppendAt
import Derived.Laws.IdiomStrings
import Derived.Lib.AppendZeros
import Derived.Deep.WholeRow
import Derived.Laws.BitsAllLaws
import Derived.Lib.ConvBytes
import Derived.Deep.RegionLaw
import Derived.Maps.OwnSet
import Derived.Maps.OwnOps
import Derived.Maps.RangeWalk
import Derived.Maps.Ext
import Derived.DeepKeys4
import Derived.Laws.StructEq
import Derived.Shelf.SlSortCmp.NoneTotal
namespace Go.Proofs.Ytbfnfebmmhhegaa
open Go.RowKit
set_option linter.unusedVariables false
set_option linter.unusedSimpArgs false
open Go.Sort (grow SWO PermIn SortedIn HoldsK putRowK ahead)
theorem Mp.len {w : World} {m : Nat} {L : List Num.Bal} (h : Mp w m L) (ty : TypeId) : (Builtin.len_ #[107] ty #[.map (some m)]).run Try.prog w = .ok (.int .i64 L.length) w := by
  obtain ⟨es, h1, h2, _⟩ := h
  have := h1.len Try.underlying107 ty
  rw [Maps.size_eq, h2.length_eq, List.length_map] at this
  exact this
theorem Rv.apart {w : World} {m r : Nat} {L C : List Num.Bal} {cnt : Nat} (h : Rv w m r L C cnt) {B e k n : Nat} {v : Value} {cs : List Value} (ho : w.ownsRow B e k v n cs) : some m ≠ v.ownBlock ∧ some r ≠ v.ownBlock := by
  obtain ⟨es, left, ⟨xs, clock, since, seen, c0, hb, _, _, _, hr, _⟩, _⟩ := h
  rcases ho.2 with ⟨rfl, _⟩ | ⟨g, cap, cur, rfl, _, hg, _⟩
  · exact ⟨by simp [Value.ownBlock], by simp [Value.ownBlock]⟩
  · constructor
    · intro h; have h' : m = g := by simpa [Value.ownBlock] using h
      rw [h', hg] at hb; cases hb
    · intro h; have h' : r = g := by simpa [Value.ownBlock] using h
      rw [h', hg] at hr; cases hr
theorem own_froz {w : World} {B e k n : Nat} {g cap : Nat} {cs : List Value} (ho : w.ownsRow B e k (.slice (some ⟨g, 0, none⟩) n cap) n cs) (i : Nat) : w.frozen? ⟨g, i, none⟩ = false := by
  rcases ho.2 with ⟨h, _⟩ | ⟨g', cap', cur, hv, _, hg, _⟩
  · cases h
  · injection hv with h1 h2 h3
    injection h1 with h1
    injection h1 with h1
    subst h1
    simp [World.frozen?, hg]
theorem own_grown {w w' : World} {B e k n : Nat} {v : Value} {cs : List Value} {r : Nat} (ho : w.ownsRow B e k v n cs) (hg : w.grownBy w' (some r)) (hr : some r ≠ v.ownBlock) : w'.ownsRow B e k v n cs := by
  refine ⟨ho.1, ?_⟩
  rcases ho.2 with h2 | ⟨g, cap, cur, rfl, hB, hgc, hq⟩
  · exact .inl h2
  · refine .inr ⟨g, cap, cur, rfl, hB, (hg.block g (Array.getElem?_eq_some_iff.1 hgc).1 (fun e => hr (by rw [← e]; simp [Value.ownBlock]))).trans hgc, hq⟩
theorem bcells_app (C : List Num.Bal) (p : Num.Bal) : bcells (C ++ [p]) = bcells C ++ bcs p := by simp [bcells]
theorem xsort (w : World) (g n cap : Nat) (C L : List Num.Bal) (hC : C.Perm L) (hs : Num.Srt L) (hn : n = C.length) (hl : L.length ≤ 1000000) (B : Nat) (ho : w.ownsRow B 71 4 (.slice (some ⟨g, 0, none⟩) n cap) n (bcells C)) (hB : B ≤ w.heap.size) :
    Calls Try.prog 74 #[.slice (some ⟨g, 0, none⟩) n cap, .func (.func 75) #[] #[]] w fun e w' => e = .returned (.tuple #[]) ∧ Bs w' (some ⟨g, 0, none⟩) L ∧ Below B w w' := by
  obtain ⟨a, c, e0, hc, hrd⟩ := own_read ho (by rw [hn]; unfold bcells; rw [← hn]; exact ho.1)
  injection e0 with e1 e2 e3
  subst e1 e3
  by_cases h0 : n = 0
  · have hL : L.length = 0 := by rw [← hC.length_eq, ← hn, h0]
    have h1 := Go.Proofs.AnyF.slices_SortFunc_none (P := Try.prog) { Try.sortFn with } (some ⟨g, 0, none⟩) cap (.func (.func 75) #[] #[]) w
    rw [h0]
    refine Calls.mono (show Calls Try.prog 74 _ _ _ from h1) ?_
    rintro e w' ⟨rfl, rfl⟩
    exact ⟨rfl, fun h => by omega, Below.refl _ _⟩
  · obtain ⟨g', eg, hgB, hgl, hcell⟩ := hrd (by omega)
    injection eg with eg
    injection eg with eg
    subst eg
    have hH := holdsB (C := C) hcell (fun i => own_froz ho i)
    have hsz : C.toArray.size < 4611686018427387904 := by have := hC.length_eq; simp; omega
    have h1 := Go.Proofs.AnyQ.slices_SortFunc (P := Try.prog) Try.sortFn 4 Try.isAgg71 Try.sizeOf71 bcs bcs_len (fun x v hv => by simp [bcs] at hv; rcases hv with rfl | rfl | rfl | rfl <;> rfl) cfB swoB 75 #[] g 0 cap C.toArray w (enters_of Try.func75 (by kernel_rfl) rfl) (clays g 0 C.toArray.size w) hH hgl hsz
    have e4 : C.toArray.size = n := by simp [hn]
    rw [e4] at h1
    refine Calls.mono (show Calls Try.prog 74 _ _ _ from h1) ?_
    rintro e w' ⟨rfl, d', q, os, hp, hso, rfl⟩
    have hd : d'.size = C.length := by have := hp.1; simpa using this
    have hpp : d'.toList.Perm L := by
      have h2 := hp.2.2
      rw [show d'.extract 0 n = d' by rw [← e4, ← hp.1]; simp, show C.toArray.extract 0 n = C.toArray by rw [← e4]; simp] at h2
      exact (by simpa using h2 : d'.toList.Perm C).trans hC
    have hdl : d'.toList = L := perm_srt hs hpp (by rw [hd, ← hn]; exact hso)
    refine ⟨rfl, fun _ => ⟨g, 0, rfl, Nat.lt_of_lt_of_le hgl (sortW_size _ _ _ _ _), fun i hi k hk => ?_⟩, below_sortW (Below.refl _ _) hB hgB⟩
    have := sortW_cells (n := q) (os := os) hH hgl hd (i := i) (by rw [hdl]; exact hi) hk
    rw [this]
    simp only [hdl]
set_option maxRecDepth 20000 in
set_option maxHeartbeats 4000000 in
theorem xall (q m : Nat) (L : List Num.Bal) (hl : L.length ≤ 1000000) (hb : ∀ p ∈ L, p.1.2.2.length ≤ 281474976710656) (w : World) (h : Lg w q m L) : Calls Try.prog 58 #[.pointer (some ⟨q, 0, none⟩)] w (AllP L w) := by
  have HC : Hid (Calls Try.prog 60 #[.pointer (some ⟨q, 0, none⟩)] w fun e w' => e = .returned (.bool false) ∧ w = w') := (xlack q m L w h).mono fun _ _ h => ⟨h.1, h.2.symm⟩
  have cq : w.cell? ⟨q, 0, none⟩ = some (.map (some m)) := h.b.cell 0
  have hml : m < w.heap.size := h.m.lt
  have hln := h.m.len 3
  obtain ⟨i0, hi, hz0, hz1, hz2⟩ := info_parts info46
  obtain ⟨w1, hmk, hown1, hg1⟩ := run_make_own (P := Try.prog) w w.heap.size 66 71 i0 _ 4 Try.underlying66 hi hz0 hz1 .i64 .i64 L.length (by rw [hz2]; omega) (by unfold maxLen; omega) (Nat.le_refl _)
  have h1 := h.kept hg1 (by simp) (by simp)
  have cq1 : w1.cell? ⟨q, 0, none⟩ = some (.map (some m)) := h1.b.cell 0
  obtain ⟨w2, hr, hrv, hg2, hs2⟩ := h1.m.range
  have HS : Hid (Num.Srt L) := let ⟨_, _, _, _, h4⟩ := h.m; h4
  have HBd : Hid (∀ p ∈ L, p.1.2.2.length ≤ 281474976710656) := hb
  have HB2 : Hid (Below w.heap.size w w2) := ((Below.refl _ w).grown hg1 (Nat.le_refl _) (fun k e => by cases e)).grown hg2 hg1.size (fun k e => by cases e)
  have HO2 : Hid (w2.ownsRow w.heap.size 71 4 (.slice (some ⟨w.heap.size, 0, none⟩) 0 L.length) 0 []) := own_below hown1 ⟨hg2.os, hg2.tape, hg2.output, hg2.size, fun k hk => hg2.block k hk (by simp)⟩
  have HR2 : Hid (Rv w2 m w1.heap.size L [] L.length) := hrv
  obtain ⟨r, hrr⟩ : ∃ r, r = w1.heap.size := ⟨_, rfl⟩
  rw [← hrr] at HR2 hr
  have hrw : w.heap.size ≤ r := by rw [hrr]; exact hg1.size
  clear h h1 hown1 hg1 hg2 hrv hs2 hrr hi hz0 hz1 hz2 hb
  go_enter Try.func58, Try.ntmps58
  go_wp2_with (go_at_call 60; refine HC.out.mono ?_; rintro e w3 ⟨rfl, rfl⟩)
  clear HC hln hmk hr cq cq1
  go_loopw [3] (fun v wr => ∃ (C : List Num.Bal) (cnt : Nat), Hid (Rv wr m r L C cnt ∧ wr.ownsRow w.heap.size 71 4 v C.length (bcells C) ∧ Below w.heap.size w wr ∧ cnt + C.length ≤ L.length))
    (fun _ wr => wr.rangeLeft m r)
  case atStart => exact ⟨[], _, HR2.out, HO2.out, HB2.out, by simp⟩
  case round =>
    obtain ⟨C, cnt, HR⟩ := hrel
    clear HO2 HB2 HR2
    rcases HR.out.1.next 0 with ⟨hC, hn⟩ | ⟨p, w3, cnt', hp, hn, hrv, hlt, hgr, hsz, hen⟩
    · obtain ⟨a, cap, hv, hcap, hrd⟩ := own_read HR.out.2.1 HR.out.2.1.1
      subst hv
      have HF : Hid (Calls Try.prog 74 #[.slice a C.length cap, .func (.func 75) #[] #[]] wr fun e w' => e = .returned (.tuple #[]) ∧ Hid (AllP L w (.returned (.slice a C.length cap)) w')) := by
        have hlen := hC.length_eq
        rcases HR.out.2.1.2 with ⟨hv, hn0⟩ | ⟨g, cap', cur, hv, _⟩
        · injection hv with h1 h2 h3
          subst h1
          have h4 := Go.Proofs.AnyF.slices_SortFunc_none (P := Try.prog) { Try.sortFn with } none cap (.func (.func 75) #[] #[]) wr
          rw [hn0]
          refine Calls.mono (show Calls Try.prog 74 _ _ _ from h4) ?_
          rintro e w' ⟨rfl, rfl⟩
          exact ⟨rfl, none, cap, by rw [← hlen, hn0], by omega, fun h => by omega, HR.out.2.2.1⟩
        · injection hv with h1 h2 h3
          subst h1
          refine (xsort wr g C.length cap C L hC HS.out rfl hl w.heap.size HR.out.2.1 HR.out.2.2.1.size).mono ?_
          rintro e w' ⟨rfl, k1, k2⟩
          exact ⟨rfl, _, cap, by rw [hlen], by omega, k1, HR.out.2.2.1.trans k2⟩
      clear hrd hcap hC
      go_wp2_with (go_at_call 74; refine HF.out.mono ?_; rintro e w4 ⟨rfl, HZ⟩)
      go_ret
      exact HZ.out
    · obtain ⟨⟨po, pb, pt⟩, pn⟩ := p
      have hpt : pt.length ≤ 281474976710656 := HBd.out _ hp
      have hap := HR.out.1.apart HR.out.2.1
      have hO3 : w3.ownsRow w.heap.size 71 4 u3 C.length (bcells C) := own_grown HR.out.2.1 hgr hap.2
      have hB3 : Below w.heap.size w w3 := HR.out.2.2.1.grown hgr HR.out.2.2.1.size (fun k e => by cases e; exact hrw)
      obtain ⟨T, hT⟩ : ∃ T, T = S pt := ⟨_, rfl⟩
      have hTs : T.size ≤ 281474976710656 := by rw [hT, S_size]; exact hpt
      have hTp : bcs ((po, pb, pt), pn) = [.int .i64 po, .int .i64 pb, .string T, .int .i64 pn] := by rw [hT]; rfl
      have hn' : (Instr.next (.pointer (some ⟨r, 0, none⟩)) false 0).run Try.prog wr = .ok (.tuple #[.bool true, .agg #[.int .i64 po, .int .i64 pb, .string T], .int .i64 pn]) w3 := by rw [hT]; exact hn
      have hen' : (Instr.entry (.pointer (some ⟨r, 0, none⟩))).run Try.prog w3 = .ok (.tuple #[.agg #[.int .i64 po, .int .i64 pb, .string T], .int .i64 pn]) w3 := by rw [hT]; exact hen
      have hcl : cnt' + (C.length + 1) ≤ L.length := by have := HR.out.2.2.2; omega
      have HK : Hid (∀ w5, Below (w3.alloc (.cells #[.int .i64 po, .int .i64 pb, .string T] 69)).heap.size (w3.alloc (.cells #[.int .i64 po, .int .i64 pb, .string T] 69)) w5 → ∃ v' w6, (Builtin.append_ #[66, 66] 66 #[u3, .slice (some ⟨w5.heap.size, 0, none⟩) 1 1]).run Try.prog (w5.alloc (.cells #[.int .i64 po, .int .i64 pb, .string T, .int .i64 pn] 71)) = .ok v' w6 ∧
          Hid ((Rv w6 m r L (C ++ [((po, pb, pt), pn)]) cnt' ∧ w6.ownsRow w.heap.size 71 4 v' (C ++ [((po, pb, pt), pn)]).length (bcells (C ++ [((po, pb, pt), pn)])) ∧ Below w.heap.size w w6 ∧ cnt' + (C ++ [((po, pb, pt), pn)]).length ≤ L.length) ∧ w6.rangeLeft m r < wr.rangeLeft m r)) := by
        intro w5 hb5
        have hb35 : Below w3.heap.size w3 w5 := ((Below.refl _ w3).alloc (Nat.le_refl _) _).trans (hb5.mono (by simp))
        have hO5 := own_below hO3 hb35
        have hB5 : Below w.heap.size w w5 := hB3.trans (hb35.mono hB3.size)
        obtain ⟨v', w6, hr6, ho6, hg6⟩ := app_gen (T := 71) (Sl := 66) (k := 4) (bytes := 40) Try.underlying66 info46 rfl (by omega) [.int .i64 po, .int .i64 pb, .string T, .int .i64 pn] rfl (by intro u hu; simp at hu; rcases hu with rfl | rfl | rfl | rfl <;> rfl) hO5 hB5.size (by omega) (by unfold maxLen; omega)
        have hR5 : Rv w5 m r L (C ++ [((po, pb, pt), pn)]) cnt' := hrv.kept (grown_of_below hb35 none) (by simp) (by simp)
        have hR5a : Rv (w5.alloc (.cells #[.int .i64 po, .int .i64 pb, .string T, .int .i64 pn] 71)) m r L (C ++ [((po, pb, pt), pn)]) cnt' := hR5.kept (grown_alloc _ _ none) (by simp) (by simp)
        have hap5 := hR5.apart hO5
        have hR6 := hR5a.kept hg6 hap5.1 hap5.2
        have hB6 : Below w.heap.size w w6 := (hB5.alloc hB5.size _).grown hg6 (by have := hB5.size; simp; omega) (fun j hj => (hO5.lt j hj).1)
        refine ⟨v', w6, hr6, ⟨hR6, ?_, hB6, by simpa using hcl⟩, ?_⟩
        · rw [bcells_app, hTp, List.length_append]; exact ho6
        · rw [hR6.left, HR.out.1.left]; exact hlt
      have HAP : Hid (∀ w, Calls Try.prog 73 #[.agg #[.int .i64 po, .int .i64 pb, .string T]] w fun e w' => e = .returned (.agg #[.int .i64 po, .int .i64 pb, .string T]) ∧ Below w.heap.size w w') := fun w => xapart po pb T hTs w
      clear hn hen hp hrv hlt hgr hsz hO3 hB3 hT hTs hTp hcl hap hpt HR
      go_wp2_with (first | (go_at_call 73; refine (HAP.out _).mono ?_; rintro e w5 ⟨rfl, hb5⟩; obtain ⟨v', w6, hr6, HZ⟩ := HK.out w5 hb5; clear hb5) | (at_builtin; refine Lib.wpList_append_run _ rfl _ _ 66 66 rfl _ _ rfl rfl _ w6 hr6 ?_))
      go_roundw
      case rel => exact ⟨_, _, HZ.out.1⟩
      case measure => exact HZ.out.2
end Go.Proofs.Ytbfnfebmmhhegaa
