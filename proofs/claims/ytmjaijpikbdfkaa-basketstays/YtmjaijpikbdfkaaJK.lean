/- layer 14: Clone of the program -/
import Derived.Test.YtmjaijpikbdfkaaJE
import Derived.WalkKit
import Derived.ProofKit
import Derived.Handy
import Derived.WalkLawsBesides
import Derived.WalkSpells
import Derived.BigQuiet
import Derived.BigCall
import Derived.Deep.QuietTactic
import Derived.Deep.Light
import Derived.Deep.OwnRows
import Derived.Laws.AppendOwnNone
import Derived.Laws.Strings3
import Derived.Laws.RangeAny
import Derived.Deep.RegionWith
import Derived.Lib.BitFns
import Derived.Lib.Walk
import Derived.Lib.Strings
import Derived.Lib.OthersKept
import Derived.Deep.CutBlock
import Derived.Deep.DeepCutAuto
import Derived.Deep.LoopGhost
import Derived.Deep.RegionHeld3
import Derived.Lib.SmallJoins
import Derived.Maps.AppendAt
import Derived.Laws.IdiomStrings
import Derived.Lib.AppendZeros
import Derived.Deep.WholeRow
import Derived.Laws.BitsAllLaws
import Derived.Lib.ConvBytes
import Derived.Deep.RegionLaw
import Derived.Maps.OwnSet
import Derived.Maps.OwnOps
import Derived.Maps.RangeWalk
import Derived.Maps.Ext
import Derived.DeepKeys4
import Derived.Laws.StructEq
import Derived.Deep.MidRow
import Derived.Lib.Bytealg
import Derived.Lib.Overlaps
import Derived.Lib.AppendZerosOnto
import Derived.Laws.MakeOwn
import Derived.Deep.Upon
import Derived.Sort.OwnSortedInts
namespace Go.Proofs.Ytmjaijpikbdfkaa
open Go.RowKit
set_option linter.unusedVariables false
set_option linter.unusedSimpArgs false
set_option maxRecDepth 20000
/-- a basket's row of its own is put into the book -/
theorem Bo.add {F : Nat → Prop} {w w1 w2 : World} {p m : Nat} {L : List En} {id : Int} {v : Value} {ys : List Bm} (h : Bo F w p m L) (hb : Below w.heap.size w w1) (hn : Nb w.heap.size w1 v ys) (hl : 0 < ys.length) (g2 : w1.grownBy w2 (some m)) (hm : Mp w2 m (pt (L.map kv) id v)) :
    Bo (fun k => F k ∨ w.heap.size ≤ k) w2 p m (Go.Proofs.Ytmjaijpikbdfkaa.put L ⟨id, v, ys⟩) := by
  have h1 := h.below hb
  have hpm : p ≠ m := fun e => h1.mp.nb h1.bx e
  have omv : ∀ {e k n : Nat} {G : Nat → Prop} {u : Value} {cs : List Value}, Ow G w1 e k u n cs → Ow G w2 e k u n cs := fun {e k n G u cs} hu => hu.grown g2 (fun q hq he => Mp.no (g := m) h1.mp hu (by rw [← he, hq]))
  have ov : Ow (fun k => F k ∨ w.heap.size ≤ k) w1 25 10 v ys.length (rcs bcs ys) := ⟨own_mono hn.o (Nat.zero_le _), fun g hg => .inr (hn.o.lt g hg).1⟩
  refine ⟨h1.bx.kept g2 (by simpa using hpm), ?_, .inl h.fp, .inl h.fm, ?_, ?_⟩
  · rw [put_kv]; exact hm
  · intro e he
    rcases List.mem_cons.1 he with rfl | he
    · exact ⟨omv ov, fun x hx => ⟨(omv (hn.h x hx).1).mono (fun k hk => .inr hk), (omv (hn.h x hx).2).mono (fun k hk => .inr hk)⟩, hl⟩
    · obtain ⟨he, hne⟩ := List.mem_filter.1 he
      have h5 := h1.en e he
      exact ⟨(omv h5.row).mono (fun k hk => .inl hk), fun x hx => ⟨(omv (h5.hx x hx).1).mono (fun k hk => .inl hk), (omv (h5.hx x hx).2).mono (fun k hk => .inl hk)⟩, h5.len⟩
  · refine List.pairwise_cons.2 ⟨fun e he g hg hg2 => ?_, h.ap.filter _⟩
    obtain ⟨he, hne⟩ := List.mem_filter.1 he
    have hg : v.ownBlock = some g := hg
    obtain ⟨c, hc⟩ := (h.en e he).row.block hg2
    have h6 := (Array.getElem?_eq_some_iff.1 hc).1
    have h7 := (hn.o.lt g hg).1
    omega
/-- what a clone has, of the entries that have come -/
def Cl (L : List En) (C : List Kv) (M : List En) : Prop := (∀ e ∈ M, ∃ d ∈ L, d.id = e.id ∧ e.xs.map (fun y : Bm => y.b) = d.xs.map (fun y : Bm => y.b)) ∧ (∀ q ∈ C, ∃ e ∈ M, e.id = q.1) ∧ M.length ≤ C.length
theorem Cl.nil (L : List En) : Cl L [] [] := ⟨fun e he => (List.not_mem_nil he).elim, fun q hq => (List.not_mem_nil hq).elim, Nat.le_refl _⟩
theorem Cl.snoc {L M : List En} {C : List Kv} {d : En} {v : Value} {ys : List Bm} (h : Cl L C M) (hd : d ∈ L) (hy : ys.map (fun y : Bm => y.b) = d.xs.map (fun y : Bm => y.b)) : Cl L (C ++ [(d.id, d.v)]) (put M ⟨d.id, v, ys⟩) := by
  refine ⟨fun e he => ?_, fun q hq => ?_, ?_⟩
  · rcases List.mem_cons.1 he with rfl | he
    · exact ⟨d, hd, rfl, hy⟩
    · exact h.1 e (List.mem_filter.1 he).1
  · rcases List.mem_append.1 hq with hq | hq
    · obtain ⟨e, he, h2⟩ := h.2.1 q hq
      by_cases h3 : e.id = d.id
      · exact ⟨_, List.mem_cons_self .., h3.symm.trans h2⟩
      · exact ⟨e, List.mem_cons_of_mem _ (List.mem_filter.2 ⟨he, by simpa using h3⟩), h2⟩
    · simp at hq
      subst hq
      exact ⟨_, List.mem_cons_self .., rfl⟩
  · have := put_len M ⟨d.id, v, ys⟩
    have := h.2.2
    rw [List.length_append]
    simp
    omega
theorem Cl.rel {L M : List En} {C : List Kv} {r : List Bk} (h : Cl L C M) (hr : Rel L r) (hC : C.Perm (L.map kv)) : Rel M r := by
  refine ⟨fun e he => ?_, fun b hb => ?_⟩
  · obtain ⟨d, hd, h1, h2⟩ := h.1 e he
    rw [← h1, hr.of d hd]
    exact h2.symm
  · obtain ⟨d, hd, h1⟩ := hr.all b hb
    obtain ⟨e, he, h2⟩ := h.2.1 (kv d) (hC.mem_iff.2 (List.mem_map.2 ⟨d, hd, rfl⟩))
    exact ⟨e, he, h2.trans h1⟩
def ClP (r : List Bk) (k : Nat) (w : World) (e : Ending) (w' : World) : Prop := e = .returned (.pointer (some ⟨w.heap.size + 1, 0, none⟩)) ∧ Hid (∃ M, Bo (fun q => w.heap.size ≤ q) w' (w.heap.size + 1) w.heap.size M ∧ Rel M r ∧ M.length ≤ k ∧ Below w.heap.size w w')
set_option maxHeartbeats 16000000 in
theorem xclone28 {F : Nat → Prop} {w : World} {p m : Nat} {L : List En} {r : List Bk} (h : Bo F w p m L) (g : Gr L r) : Calls Try.prog 28 #[.pointer (some ⟨p, 0, none⟩)] w (ClP r L.length w) := by
  have HL : Hid (Calls Try.prog 41 #[.pointer (some ⟨p, 0, none⟩)] w (BP false w)) := xlack h.bx
  have HNW : Hid (Calls Try.prog 15 #[] w (NwP w)) := xnew w
  have HO : Hid (Bo F w p m L) := h
  have HG : Hid (Gr L r) := g
  have HPL : Hid (p < w.heap.size ∧ m < w.heap.size) := ⟨h.lt, h.mp.lt⟩
  clear h g
  go_enter Try.func28, Try.ntmps28
  go_upto_region 4 with (first | (go_at_call 41; refine HL.out.mono ?_; clear HL; rintro e w2 ⟨rfl, rfl⟩) | (go_at_call 15; refine HNW.out.mono ?_; clear HNW; rintro e w1 ⟨rfl, HN⟩))
  have hO1 := HO.out.below HN.out.2
  have cq : w1.cell? ⟨p, 0, none⟩ = some (.map (some m)) := hO1.bx.cell 0
  have hml : m < w1.heap.size := hO1.mp.lt
  obtain ⟨w3, hrg, hrv, hg, hsz⟩ := hO1.mp.range
  have hb13 : Below w1.heap.size w1 w3 := ⟨hg.os, hg.tape, hg.output, hg.size, fun k hk => hg.block k hk (by simp)⟩
  have HR1 : Hid (Rg w3 m w1.heap.size (L.map kv) [] (L.map kv).length) := hrv
  have HB1 : Hid (Below w.heap.size w w3) := HN.out.2.trans (hb13.mono HN.out.2.size)
  have HS1 : Hid (w.heap.size ≤ w1.heap.size ∧ w1.heap.size + 1 ≤ w3.heap.size) := ⟨HN.out.2.size, by omega⟩
  have HN3 : Hid (Bo (fun k => w.heap.size ≤ k ∧ k ≠ w1.heap.size) w3 (w.heap.size + 1) w.heap.size []) := (HN.out.1.tight.below hb13).mono (fun k hk => ⟨hk.1, by omega⟩)
  clear hO1 hrv hg hsz hb13 HN
  go_wp2_with fail
  generalize w1.heap.size = rb at *
  go_loopw [4] (fun v wr => ∃ (C : List Kv) (M : List En) (cnt : Nat), Hid (Rg wr m rb (L.map kv) C cnt ∧ Bo (fun k => w.heap.size ≤ k ∧ k ≠ rb) wr (w.heap.size + 1) w.heap.size M ∧ Cl L C M ∧ Below w.heap.size w wr ∧ rb + 1 ≤ wr.heap.size))
    (fun _ wr => wr.rangeLeft m rb)
  case atStart => exact ⟨[], [], _, HR1.out, HN3.out, Cl.nil L, HB1.out, HS1.out.2⟩
  case round =>
    obtain ⟨C, M, cnt, HR⟩ := hrel
    rcases HR.out.1.next 0 with ⟨hC, hn⟩ | ⟨q, w2, cnt', hp, hn, hrv, hlt, hgr, hsz, hen, hnc⟩
    · have HF : Hid (ClP r L.length w (.returned (.pointer (some ⟨w.heap.size + 1, 0, none⟩))) wr) := ⟨rfl, M, HR.out.2.1.mono (fun k hk => hk.1), HR.out.2.2.1.rel HG.out.rl hC, by have := HR.out.2.2.1.2.2; have h2 := hC.length_eq; rw [List.length_map] at h2; omega, HR.out.2.2.2.1⟩
      clear hC HR
      go_wp2_with fail
      go_ret
      exact HF.out
    · obtain ⟨qk, qv⟩ := q
      have hqm : (qk, qv) ∈ L.map kv := by
        obtain ⟨_, _, _, _, _, _, h5, h6, _⟩ := hrv
        exact h5 _ (List.mem_append_right _ (List.mem_singleton.2 rfl))
      obtain ⟨d, hd, hde⟩ := List.mem_map.1 hqm
      injection hde with hd1 hd2
      subst hd1 hd2
      have hn' : (Instr.next (.pointer (some ⟨rb, 0, none⟩)) false 0).run Try.prog wr = .ok (.tuple #[.bool true, .int .i64 d.id, d.v]) w2 := hn
      have hen' : (Instr.entry (.pointer (some ⟨rb, 0, none⟩))).run Try.prog w2 = .ok (.tuple #[.int .i64 d.id, d.v]) w2 := hen
      have hbw : Below w.heap.size w w2 := HR.out.2.2.2.1.grown hgr HR.out.2.2.2.1.size (fun k e => by cases e; exact HS1.out.1)
      have HBW : Hid (Below w.heap.size w w2) := hbw
      have hO2 : Bo F w2 p m L := HO.out.below hbw
      have HN2 : Hid (Bo (fun k => w.heap.size ≤ k ∧ k ≠ rb) w2 (w.heap.size + 1) w.heap.size M) := HR.out.2.1.ag ⟨hgr.size, fun k hk hl => hgr.block k hl (fun e => by injection e with e; exact hk.2 e)⟩
      have HRV : Hid (Rg w2 m rb (L.map kv) (C ++ [(d.id, d.v)]) cnt') := hrv
      have HLT : Hid (cnt' < wr.rangeLeft m rb) := by unfold Hid; rw [HR.out.1.left]; exact hlt
      have HS2 : Hid (rb + 1 ≤ w2.heap.size) := by have := hgr.size; have := HR.out.2.2.2.2; unfold Hid; omega
      have HCL : Hid (Cl L C M) := HR.out.2.2.1
      have HCN : Hid (C.length ≤ 1000000) := by
        obtain ⟨_, _, _, _, _, _, h5, h6, _⟩ := HR.out.1
        have h2 := nd_len h6 h5
        rw [List.length_map] at h2
        exact Nat.le_trans h2 HG.out.l
      have ho := hO2.en d hd
      obtain ⟨ad, cap, hv, _, hrw⟩ := own_rw bcs_len ho.row.1 rfl
      have hof := HG.out.rl.of d hd
      have hxl : d.xs.length ≤ 1000000 := by
        have h1 := congrArg List.length hof
        rw [List.length_map] at h1
        have h2 := of_len r d.id
        have h3 := HG.out.n
        omega
      have hxs : ∀ x ∈ d.xs, Sm x.b := fun x hx => sm_of (HG.out.e x.b (of_mem (r := r) (id := d.id) (by rw [hof]; exact List.mem_map.2 ⟨x, hx, rfl⟩)).1)
      have HC48 : Hid (∀ W, Below w2.heap.size w2 W → Calls Try.prog 48 #[d.v] W (AaP (d.xs.map (fun y : Bm => y.b)) W)) := fun W hW => by
        rw [hv]
        exact xallap d.xs ad cap W (hrw.below hW) (fun x hx => ⟨(ho.hx x hx).ha.on hW (Nat.le_refl _), hxs x hx⟩) hxl
      have HD : Hid (d ∈ L) := hd
      have HLN : Hid (0 < d.xs.length) := ho.len
      have HWF : Hid (Wf d.id) := hO2.wf hd
      have HDV : Hid (∃ a2 n2 c2, d.v = .slice a2 n2 c2) := ⟨_, _, _, hv⟩
      clear hn hen hp hrv hlt hgr hsz hnc HR HR1 HB1 HN3 hqm hbw hO2 hd ho hof hxl hxs hrw hv
      generalize hdv : d.v = dv at *
      generalize hdi : d.id = di at *
      have HDI : Hid (d.id = di ∧ d.v = dv) := ⟨hdi, hdv⟩
      clear hdi hdv
      go_upto_region 7 with fail
      refine wp_region_held (S := fun W => Bx W (w.heap.size + 1) #[.map (some w.heap.size)] 57) (by kernel_rfl) ?_
      change wpAnyH _ _ _ _ _ 8 #[false, false, false, false, false, false, false, false] _ w2.drew
      obtain ⟨v0, hv0⟩ : ∃ v, v = w2.drew := ⟨_, rfl⟩
      have hT0 : Below w2.heap.size w2 v0 := by rw [hv0]; exact ⟨rfl, rfl, rfl, Nat.le_refl _, fun _ _ => rfl⟩
      have hS0 : Bx v0 (w.heap.size + 1) #[.map (some w.heap.size)] 57 := HN2.out.bx.keep hT0
      rw [← hv0]
      clear hv0
      refine takeR (fuel := 7) (i := 0) (v := .pointer (some ⟨w.heap.size + 1, 0, none⟩)) rfl (by kernel_rfl) (by kernel_rfl) (by kernel_rfl) (fun _ _ _ h => h) (Or.inl ⟨rfl, fun W hW => by go_simp⟩) hS0 ?_
      simp only [Act.put, List.setIfInBounds_toArray, List.set_cons_zero, List.set_cons_succ]
      refine takeR (fuel := 6) (i := 1) (v := .pointer (some ⟨w.heap.size + 1, 0, none⟩)) rfl (by kernel_rfl) (by kernel_rfl) (by kernel_rfl) (fun _ _ _ h => h) (Or.inl ⟨rfl, fun W hW => by go_simp⟩) hS0 ?_
      simp only [Act.put, List.setIfInBounds_toArray, List.set_cons_zero, List.set_cons_succ]
      refine takeR (fuel := 5) (i := 2) (v := .pointer (some ⟨w.heap.size + 1, 0, none⟩)) rfl (by kernel_rfl) (by kernel_rfl) (by kernel_rfl) (fun _ _ _ h => h) (Or.inl ⟨rfl, fun W hW => by go_simp⟩) hS0 ?_
      simp only [Act.put, List.setIfInBounds_toArray, List.set_cons_zero, List.set_cons_succ]
      refine takeR (fuel := 4) (i := 3) (v := .map (some w.heap.size)) rfl (by kernel_rfl) (by kernel_rfl) (by kernel_rfl) (fun _ _ _ h => h) (Or.inl ⟨rfl, fun W hW => by have cj : W.cell? ⟨w.heap.size + 1, 0, none⟩ = some (.map (some w.heap.size)) := hW.cell 0; go_simp⟩) hS0 ?_
      simp only [Act.put, List.setIfInBounds_toArray, List.set_cons_zero, List.set_cons_succ]
      refine takeR (fuel := 3) (i := 4) (v := .int .i64 di) rfl (by kernel_rfl) (by kernel_rfl) (by kernel_rfl) (fun _ _ _ h => h) (Or.inl ⟨rfl, fun W hW => by go_simp⟩) hS0 ?_
      simp only [Act.put, List.setIfInBounds_toArray, List.set_cons_zero, List.set_cons_succ]
      refine takeR (fuel := 2) (i := 5) (v := dv) rfl (by kernel_rfl) (by kernel_rfl) (by kernel_rfl) (fun _ _ _ h => h) (Or.inl ⟨rfl, fun W hW => by go_simp⟩) hS0 ?_
      simp only [Act.put, List.setIfInBounds_toArray, List.set_cons_zero, List.set_cons_succ]
      refine consR (fuel := 1) (i := 6) rfl (by kernel_rfl) (fun K hK => ?_)
      rw [if_pos (by rfl)]
      go_simp
      refine (HC48.out _ hT0).mono ?_
      rintro e v1 ⟨nv, ys, rfl, hy⟩
      obtain ⟨hy1, hy2, hy3⟩ := hy.out
      have hT1 : Below w2.heap.size w2 v1 := hT0.trans (hy3.mono hT0.size)
      refine hK.out _ _ (hS0.keep hy3) (fun hS1 => ?_)
      clear hK
      try simp only [Act.put, List.setIfInBounds_toArray, List.set_cons_zero, List.set_cons_succ]
      have hO1 := HN2.out.below hT1
      obtain ⟨w5, hr5, hm5, hg5, hs5⟩ := hO1.mp.store HWF.out nv (by rw [List.length_map]; have := HCL.out.2.2; have := HCN.out; unfold maxLen; omega)
      have hyl : 0 < ys.length := by have h1 := congrArg List.length hy1; rw [List.length_map, List.length_map] at h1; have := HLN.out; omega
      have hadd := HN2.out.add hT1 ⟨own_mono hy2.o hT0.size, fun y hy => (hy2.h y hy).mono (fun k hk => Nat.le_trans hT0.size hk)⟩ hyl hg5 hm5
      have hrg5 : Rg w5 m rb (L.map kv) (C ++ [(di, dv)]) cnt' := (HRV.out.kept (below_grown hT1) (by simp) (by simp)).kept hg5 (fun e => by injection e with e; have := HPL.out.2; omega) (fun e => by injection e with e; have h1 := HS1.out.1; have h2 := (HN2.out.fm).2; omega)
      have HF : Hid (Rg w5 m rb (L.map kv) (C ++ [(di, dv)]) cnt' ∧ Bo (fun k => w.heap.size ≤ k ∧ k ≠ rb) w5 (w.heap.size + 1) w.heap.size (put M ⟨di, nv, ys⟩) ∧ Cl L (C ++ [(di, dv)]) (put M ⟨di, nv, ys⟩) ∧ Below w.heap.size w w5 ∧ rb + 1 ≤ w5.heap.size) := by
        refine ⟨hrg5, hadd.mono (fun k hk => ?_), ?_, ?_, ?_⟩
        · rcases hk with hk | hk
          · exact hk
          · have := HBW.out.size; have := HS2.out; exact ⟨by omega, by omega⟩
        · have := HCL.out.snoc (v := nv) HD.out hy1
          rw [HDI.out.1, HDI.out.2] at this
          exact this
        · exact (HBW.out.trans (hT1.mono HBW.out.size)).grown hg5 (by have := HBW.out.size; have := hT1.size; omega) (fun j hj => by injection hj with hj; omega)
        · have := hg5.size; have := hT1.size; have := HS2.out; omega
      have HM : Hid (w5.rangeLeft m rb < wr.rangeLeft m rb) := by unfold Hid; rw [hrg5.left]; exact HLT.out
      have hS5 : Bx w5 (w.heap.size + 1) #[.map (some w.heap.size)] 57 := hS1.kept hg5 (by simp)
      clear hO1 hm5 hg5 hs5 hyl hadd hrg5 hy hy1 hy2 hy3 hT0 hT1 HC48
      refine consR (fuel := 0) (i := 7) rfl (by kernel_rfl) (fun K hK => ?_)
      rw [if_pos (by rfl)]
      go_simp
      refine hK.out _ _ hS5 (fun hS5 => ?_)
      clear hK
      try simp only [Act.put, List.setIfInBounds_toArray, List.set_cons_zero, List.set_cons_succ]
      refine wpAnyH_done (by kernel_rfl) ?_ _
      go_wp2_with fail
      go_roundw
      case rel => exact ⟨_, _, _, HF.out⟩
      case measure => exact HM.out
end Go.Proofs.Ytmjaijpikbdfkaa
