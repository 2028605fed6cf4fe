/- layer 11: rows read as balances and as entries; a clone -/
import Derived.Test.YtbfnfebmmhhegaaR
import Derived.WalkKit
import Derived.ProofKit
import Derived.Handy
import Derived.WalkLawsBesides
import Derived.WalkSpells
import Derived.BigQuiet
import Derived.BigCall
import Derived.Deep.QuietTactic
import Derived.Deep.Light
import Derived.Deep.OwnRows
import Derived.Laws.AppendOwnNone
import Derived.Laws.Strings3
import Derived.Laws.RangeAny
import Derived.Deep.RegionWith
import Derived.Lib.BitFns
import Derived.Lib.Walk
import Derived.Lib.Strings
import Derived.Lib.OthersKept
import Derived.Deep.CutBlock
import Derived.Deep.DeepCutAuto
import Derived.Deep.LoopGhost
import Derived.Deep.RegionHeld3
import Derived.Lib.SmallJoins
import Derived.Maps.AppendAt
import Derived.Laws.IdiomStrings
import Derived.Lib.AppendZeros
import Derived.Deep.WholeRow
import Derived.Laws.BitsAllLaws
import Derived.Lib.ConvBytes
import Derived.Deep.RegionLaw
import Derived.Maps.OwnSet
import Derived.Maps.OwnOps
import Derived.Maps.RangeWalk
import Derived.Maps.Ext
import Derived.DeepKeys4
import Derived.Laws.StructEq
import Derived.Shelf.SlSortCmp.NoneTotal
namespace Go.Proofs.Ytbfnfebmmhhegaa
open Go.RowKit
set_option linter.unusedVariables false
set_option linter.unusedSimpArgs false
set_option maxRecDepth 20000
theorem own_bs {w : World} {B n : Nat} {v : Value} {L : List Num.Bal} (h : w.ownsRow B 68 4 v n (bcells L)) (hn : n = L.length) : ∃ a cap, v = .slice a L.length cap ∧ L.length ≤ cap ∧ Bs w a L := by
  subst hn
  obtain ⟨a, cap, hv, hc, hr⟩ := own_read h h.1
  refine ⟨a, cap, hv, hc, fun h0 => ?_⟩
  obtain ⟨g, hg, _, hgl, hcell⟩ := hr h0
  refine ⟨g, 0, hg, hgl, fun i hi k hk => ?_⟩
  have h1 := flat_at bcs 4 bcs_len L i hi k hk
  have h3 : k < (bcs L[i]).length := hk
  rw [List.getElem?_eq_getElem h3] at h1 ⊢
  rw [Nat.zero_add]
  exact hcell _ _ h1
theorem own_es {w : World} {B n m e : Nat} {v : Value} {xs : List Ex} (h : w.ownsRow B e 7 v n (ecs xs)) (hn : n = xs.length) (hm : m < B ∨ w.heap.size ≤ m) : ∃ a cap, v = .slice a xs.length cap ∧ xs.length ≤ cap ∧ Es w.heap.size m w (.slice a xs.length cap) xs := by
  subst hn
  obtain ⟨a, cap, hv, hc, hr⟩ := own_read h h.1
  refine ⟨a, cap, hv, hc, a, cap, rfl, fun h0 => ?_⟩
  obtain ⟨g, hg, hgB, hgl, hcell⟩ := hr h0
  refine ⟨g, 0, hg, hgl, by omega, fun i hi k hk => ?_⟩
  have h1 := flat_at (fun x : Ex => x.cs.toList) 7 Ex.len xs i hi k hk
  have h3 : k < xs[i].cs.toList.length := hk
  rw [List.getElem?_eq_getElem h3] at h1
  rw [Nat.zero_add]
  rw [hcell _ _ h1]
  rw [← Array.getElem?_toList, List.getElem?_eq_getElem h3]
/-- balances put one behind the other -/
def bld (C : List Num.Bal) : List Num.Bal := C.foldl (fun M p => Num.set M p.1 p.2) []
theorem bld_app (C : List Num.Bal) (p : Num.Bal) : bld (C ++ [p]) = Num.set (bld C) p.1 p.2 := by unfold bld; rw [List.foldl_append]; rfl
theorem bld_facts {L : List Num.Bal} : ∀ (n : Nat) (C : List Num.Bal), C.length = n → (∀ p ∈ C, Num.get L p.1 = p.2) → Num.Srt (bld C) ∧ Num.Nz (bld C) ∧ (bld C).length ≤ C.length ∧ (∀ a, Num.get (bld C) a = if a ∈ C.map (·.1) then Num.get L a else 0)
  | 0, C, hn, _ => by
    obtain rfl := List.length_eq_zero_iff.1 hn
    exact ⟨List.Pairwise.nil, by simp [Num.Nz, bld], by simp [bld], fun a => by simp [bld, Num.get]⟩
  | n + 1, C, hn, h => by
    obtain ⟨pre, p, rfl⟩ : ∃ pre p, C = pre ++ [p] := by
      rcases List.eq_nil_or_concat C with rfl | ⟨pre, e, he⟩
      · cases hn
      · exact ⟨pre, e, by simpa using he⟩
    obtain ⟨i1, i2, i3, i4⟩ := bld_facts n pre (by simpa using hn) (fun q hq => h q (by simp [hq]))
    have hp := h p (by simp)
    rw [bld_app]
    refine ⟨Num.srt_set i1 _ _, Num.nz_set i2 _ _, ?_, fun a => ?_⟩
    · have := Num.length_set (bld pre) p.1 p.2
      simp only [List.length_append, List.length_singleton]; omega
    · rw [Num.get_set, i4]
      by_cases e : p.1 = a
      · rw [if_pos e, if_pos (by simp [e]), ← e, hp]
      · rw [if_neg e]
        have e2 : ¬ a = p.1 := fun h => e h.symm
        by_cases c : a ∈ pre.map (·.1)
        · rw [if_pos c, if_pos (by simp only [List.map_append, List.mem_append]; exact .inl c)]
        · rw [if_neg c, if_neg (by simp only [List.map_append, List.mem_append, List.map_cons, List.map_nil, List.mem_singleton]; rintro (h | h); exact c h; exact e2 h)]
theorem bld_perm {L C : List Num.Bal} (hs : Num.Srt L) (hz : Num.Nz L) (hp : C.Perm L) : bld C = L := by
  obtain ⟨i1, i2, _, i4⟩ := bld_facts (L := L) C.length C rfl (fun p h => Num.get_mem hs (hp.mem_iff.1 h))
  refine Num.get_ext i1 hs i2 hz (fun a => ?_)
  rw [i4]
  by_cases c : a ∈ C.map (·.1)
  · rw [if_pos c]
  · rw [if_neg c]
    refine (Num.get_none (fun p h e => c ?_)).symm
    exact List.mem_map.2 ⟨p, hp.mem_iff.2 h, e⟩
def ClP (L : List Num.Bal) (w : World) (e : Ending) (w' : World) : Prop := ∃ q' m', e = .returned (.pointer (some ⟨q', 0, none⟩)) ∧ w.heap.size ≤ q' ∧ w.heap.size ≤ m' ∧ Lg w' q' m' L ∧ Below w.heap.size w w'
set_option maxHeartbeats 4000000 in
theorem xcln (q m : Nat) (L : List Num.Bal) (g : Num.Good L) (hl : L.length ≤ 1000000) (w : World) (h : Lg w q m L) : Calls Try.prog 57 #[.pointer (some ⟨q, 0, none⟩)] w (ClP L w) := by
  have HC : Hid (Calls Try.prog 60 #[.pointer (some ⟨q, 0, none⟩)] w fun e w' => e = .returned (.bool false) ∧ w = w') := (xlack q m L w h).mono fun _ _ h => ⟨h.1, h.2.symm⟩
  have hml : m < w.heap.size := h.m.lt
  have hql : q < w.heap.size := h.b.lt
  have HG : Hid (Num.Good L) := g
  have HLl : Hid (L.length ≤ 1000000) := hl
  have HNW : Hid (Calls Try.prog 35 #[] w fun e w1 => e = .returned (.pointer (some ⟨w.heap.size + 1, 0, none⟩)) ∧ w1.cell? ⟨q, 0, none⟩ = some (.map (some m)) ∧ ∃ w2, (Instr.range 107 (.map (some m))).run Try.prog w1 = .ok (.pointer (some ⟨w1.heap.size, 0, none⟩)) w2 ∧ Hid (w.heap.size + 2 ≤ w1.heap.size ∧ Rv w2 m w1.heap.size L [] L.length ∧ Lg w2 (w.heap.size + 1) w.heap.size [] ∧ Below w.heap.size w w2)) := by
    refine (xnew w).mono ?_
    rintro e w1 ⟨rfl, hL1, hB1⟩
    have h1 := h.below hB1
    obtain ⟨w2, hr, hrv, hg2, hs2⟩ := h1.m.range
    have hz := hL1.b.lt
    exact ⟨rfl, h1.b.cell 0, w2, hr, by omega, hrv, hL1.kept hg2 (by simp) (by simp), hB1.grown hg2 hB1.size (fun k e => by cases e)⟩
  clear h g hl
  go_enter Try.func57, Try.ntmps57
  go_wp2_with (first | (go_at_call 60; refine HC.out.mono ?_; rintro e w3 ⟨rfl, rfl⟩) | (go_at_call 35; refine HNW.out.mono ?_; rintro e w1 ⟨rfl, cq, w2, hr, HZ⟩))
  clear HC HNW
  obtain ⟨r, hrr⟩ : ∃ r, r = w1.heap.size := ⟨_, rfl⟩
  rw [← hrr] at HZ ⊢
  have hrw : w.heap.size + 2 ≤ r := HZ.out.1
  have HR2 : Hid (Rv w2 m r L [] L.length ∧ Lg w2 (w.heap.size + 1) w.heap.size (bld []) ∧ Below w.heap.size w w2) := HZ.out.2
  clear HZ hr cq hrr
  go_loopw [5] (fun v wr => ∃ (C : List Num.Bal) (cnt : Nat), Hid (Rv wr m r L C cnt ∧ Lg wr (w.heap.size + 1) w.heap.size (bld C) ∧ Below w.heap.size w wr ∧ (∀ p ∈ C, p ∈ L) ∧ cnt + C.length ≤ L.length))
    (fun _ wr => wr.rangeLeft m r)
  case atStart => exact ⟨[], _, HR2.out.1, HR2.out.2.1, HR2.out.2.2, by simp, by simp⟩
  case round =>
    obtain ⟨C, cnt, HR⟩ := hrel
    clear HR2
    rcases HR.out.1.next 0 with ⟨hC, hn⟩ | ⟨p, w3, cnt', hp, hn, hrv, hlt, hgr, hsz, hen⟩
    · have HF : Hid (ClP L w (.returned (.pointer (some ⟨w.heap.size + 1, 0, none⟩))) wr) := by
        refine ⟨_, _, rfl, by omega, Nat.le_refl _, ?_, HR.out.2.2.1⟩
        have := HR.out.2.1
        rw [bld_perm HG.out.srt HG.out.nz hC] at this
        exact this
      clear hC
      go_wp2_with fail
      go_ret
      exact HF.out
    · obtain ⟨⟨po, pb, pt⟩, pn⟩ := p
      have hws := HG.out.wr _ hp
      have hok := Num.wr_ok.1 hws
      obtain ⟨T, hT⟩ : ∃ T, T = S pt := ⟨_, rfl⟩
      have hTl : T.toList = pt := by rw [hT, S_toList]
      have hTs : T.size ≤ 281474976710656 := by rw [hT, S_size]; have := hok.2.2.2.2.2; simp only at this; omega
      have hwf : (Lit.int .i64 pn).wf = true := WalkArith.wf_i64 (by have h1 := HG.out.lo _ hp; have h2 := HG.out.hi _ hp; simp only at h1 h2; omega)
      have hL3 : Lg w3 (w.heap.size + 1) w.heap.size (bld C) := HR.out.2.1.kept hgr (by simp; omega) (by simp; omega)
      have hB3 : Below w.heap.size w w3 := HR.out.2.2.1.grown hgr HR.out.2.2.1.size (fun k e => by cases e; omega)
      have hCL : ∀ p ∈ C ++ [((po, pb, pt), pn)], p ∈ L := by
        intro p h
        rcases List.mem_append.1 h with h | h
        · exact HR.out.2.2.2.1 p h
        · rw [List.mem_singleton.1 h]; exact hp
      have hlen : (bld C).length < maxLen := by
        have h1 := (bld_facts (L := L) C.length C rfl (fun p h => Num.get_mem HG.out.srt (HR.out.2.2.2.1 p h))).2.2.1
        have h2 : C.length ≤ 1000000 := by have := HR.out.2.2.2.2; have := HLl.out; omega
        unfold maxLen; omega
      have hn' : (Instr.next (.pointer (some ⟨r, 0, none⟩)) false 0).run Try.prog wr = .ok (.tuple #[.bool true, .agg #[.int .i64 po, .int .i64 pb, .string T], .int .i64 pn]) w3 := by rw [hT]; exact hn
      have hen' : (Instr.entry (.pointer (some ⟨r, 0, none⟩))).run Try.prog w3 = .ok (.tuple #[.agg #[.int .i64 po, .int .i64 pb, .string T], .int .i64 pn]) w3 := by rw [hT]; exact hen
      have HP : Hid (Calls Try.prog 69 #[.pointer (some ⟨w.heap.size + 1, 0, none⟩), .agg #[.int .i64 po, .int .i64 pb, .string T], .int .i64 pn] (w3.alloc (.cells #[.int .i64 po, .int .i64 pb, .string T] 69)) fun e w6 => e = .returned (.tuple #[]) ∧ Hid ((Rv w6 m r L (C ++ [((po, pb, pt), pn)]) cnt' ∧ Lg w6 (w.heap.size + 1) w.heap.size (bld (C ++ [((po, pb, pt), pn)])) ∧ Below w.heap.size w w6 ∧ (∀ p ∈ C ++ [((po, pb, pt), pn)], p ∈ L) ∧ cnt' + (C ++ [((po, pb, pt), pn)]).length ≤ L.length) ∧ w6.rangeLeft m r < wr.rangeLeft m r)) := by
        refine (xput (w.heap.size + 1) w.heap.size (bld C) po pb pn T _ (hL3.alloc _) (wa_of (by rw [hTl]; exact hws)) hTs hwf hlen).mono ?_
        rintro e w6 ⟨rfl, k1, k2⟩
        have hR6 : Rv w6 m r L (C ++ [((po, pb, pt), pn)]) cnt' := (hrv.kept (grown_alloc _ _ none) (by simp) (by simp)).kept k2 (by simp; omega) (by simp; omega)
        refine ⟨rfl, ⟨hR6, ?_, (hB3.alloc hB3.size _).grown k2 (by have := hB3.size; simp; omega) (fun k e => by cases e; exact Nat.le_refl _), hCL, by have := HR.out.2.2.2.2; simp; omega⟩, ?_⟩
        · rw [bld_app]; rw [hTl] at k1; exact k1
        · rw [hR6.left, HR.out.1.left]; exact hlt
      clear hn hen hp hrv hlt hgr hsz hL3 hB3 hT hTs hTl hwf hCL hlen hws hok HR
      go_wp2_with (go_at_call 69; refine HP.out.mono ?_; rintro e w6 ⟨rfl, HZ⟩)
      go_roundw
      case rel => exact ⟨_, _, HZ.out.1⟩
      case measure => exact HZ.out.2
end Go.Proofs.Ytbfnfebmmhhegaa
