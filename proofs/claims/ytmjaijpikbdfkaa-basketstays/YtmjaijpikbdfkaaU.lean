/- layer 14: Set of the program -/
import Derived.Test.YtmjaijpikbdfkaaT
import Derived.Test.YtmjaijpikbdfkaaE
import Derived.WalkKit
import Derived.ProofKit
import Derived.Handy
import Derived.WalkLawsBesides
import Derived.WalkSpells
import Derived.BigQuiet
import Derived.BigCall
import Derived.Deep.QuietTactic
import Derived.Deep.Light
import Derived.Deep.OwnRows
import Derived.Laws.AppendOwnNone
import Derived.Laws.Strings3
import Derived.Laws.RangeAny
import Derived.Deep.RegionWith
import Derived.Lib.BitFns
import Derived.Lib.Walk
import Derived.Lib.Strings
import Derived.Lib.OthersKept
import Derived.Deep.CutBlock
import Derived.Deep.DeepCutAuto
import Derived.Deep.LoopGhost
import Derived.Deep.RegionHeld3
import Derived.Lib.SmallJoins
import Derived.Maps.AppendAt
import Derived.Laws.IdiomStrings
import Derived.Lib.AppendZeros
import Derived.Deep.WholeRow
import Derived.Laws.BitsAllLaws
import Derived.Lib.ConvBytes
import Derived.Deep.RegionLaw
import Derived.Maps.OwnSet
import Derived.Maps.OwnOps
import Derived.Maps.RangeWalk
import Derived.Maps.Ext
import Derived.DeepKeys4
import Derived.Laws.StructEq
import Derived.Deep.MidRow
import Derived.Lib.Bytealg
import Derived.Lib.Overlaps
import Derived.Lib.AppendZerosOnto
import Derived.Laws.MakeOwn
import Derived.Deep.Upon
namespace Go.Proofs.Ytmjaijpikbdfkaa
open Go.RowKit
set_option linter.unusedVariables false
set_option linter.unusedSimpArgs false
set_option maxRecDepth 20000
theorem app_gen2 {T Sl k bytes : Nat} {z : Value} (hu : Try.prog.underlying Sl = some (.slice T)) (hi : (Try.prog.info? T).map (fun i => (i.zero, i.size, i.bytes)) = some (some z, k, bytes)) (hz : z.cells.size = k) (hk : 0 < k) (f : List Value) (hf : f.length = k) (h1 : ∀ u ∈ f, u.oneCell' = true) {B n : Nat} {w : World} {v : Value} {cs : List Value} (h : w.ownsRow B T k v n cs) (hB : B ≤ w.heap.size) (hb : (n + 1) * bytes ≤ 140737488355328) (hn : n + 1 ≤ maxLen) :
    ∃ v' w', (Builtin.append_ #[Sl, Sl] Sl #[v, .slice (some ⟨w.heap.size, 0, none⟩) 1 1]).run Try.prog (w.alloc (.cells f.toArray T)) = .ok v' w' ∧ w'.ownsRow B T k v' (n + 1) (cs ++ f) ∧ (w.alloc (.cells f.toArray T)).grownBy w' v.ownBlock ∧ (v'.ownBlock = v.ownBlock ∨ ∃ g, v'.ownBlock = some g ∧ (w.alloc (.cells f.toArray T)).heap.size ≤ g) := by
  obtain ⟨i0, hi, hz0, hz1, hz2⟩ := info_parts hi
  obtain ⟨v', w', hr, ho, hgr, _, hat⟩ := run_append_own_at (P := Try.prog) (w := w.alloc (.cells f.toArray T)) B Sl Sl T i0 _ k bytes hu hi hz0 hz1 hz2 hz hk v _ _ (h.alloc _) ⟨w.heap.size, 0, none⟩ 1 1 f (by rw [hf, Nat.one_mul]) (cell_new (cs := f)) h1 hn hb (by simp; omega)
  refine ⟨v', w', hr, ho, hgr, ?_⟩
  rcases hat with e | e
  · exact .inl e
  · exact .inr ⟨_, e, Nat.le_refl _⟩
theorem cur_len {b : Bk} (h : bkE C0 b = 0) : b.cur.length = 3 ∧ 1 ≤ b.id ∧ b.id ≤ 64 ∧ b.cuts.length ≤ 64 ∧ b.bar.length ≤ 64 ∧ 0 ≤ b.least := by
  rw [bkE_seq] at h
  by_cases e1 : inn b.id 1 64 = true
  · rw [if_pos e1] at h
    by_cases e2 : amt b.ver = true
    · rw [if_pos e2] at h
      by_cases e3 : inn b.rat 0 20 = true
      · rw [if_pos e3] at h
        by_cases e4 : inn b.iss 0 1000000 = true
        · rw [if_pos e4] at h
          by_cases e5 : inn b.ass 0 1000000 = true
          · rw [if_pos e5] at h
            by_cases e6 : inn (b.cuts.length : Int) 1 64 = true
            · rw [if_pos e6] at h
              by_cases e7 : decide (b.bar.length ≤ 64) = true
              · rw [if_pos e7] at h
                by_cases e8 : decide (0 ≤ b.least) = true
                · rw [if_pos e8] at h
                  by_cases e9 : inn b.most b.least 200000 = true
                  · rw [if_pos e9] at h
                    by_cases ec : C0.cu b.cur = true
                    · have ec : decide (N5.Cur b.cur) = true := ec
                      have ec := of_decide_eq_true ec
                      unfold inn at e1 e6
                      simp only [Bool.and_eq_true, decide_eq_true_eq] at e1 e6 e7 e8
                      exact ⟨(by rcases ec with h | h | h | h | h | h | h | h <;> rw [h] <;> rfl), e1.1, e1.2, by omega, e7, e8⟩
                    · rw [if_neg ec] at h; cases h
                  · rw [if_neg e9] at h; cases h
                · rw [if_neg e8] at h; cases h
              · rw [if_neg e7] at h; cases h
            · rw [if_neg e6] at h; cases h
          · rw [if_neg e5] at h; cases h
        · rw [if_neg e4] at h; cases h
      · rw [if_neg e3] at h; cases h
    · rw [if_neg e2] at h; cases h
  · rw [if_neg e1] at h; cases h
def SeP (F : Nat → Prop) (p m : Nat) (L : List En) (r : List Bk) (b : Bk) (E : Nat) (w : World) (e : Ending) (w' : World) : Prop := e = .returned (.int .i64 (setE r b E : Nat)) ∧ Hid (∃ L', Bo (fun k => F k ∨ w.heap.size ≤ k) w' p m L' ∧ Rel L' (setL r b E) ∧ Kf F w w' ∧ L'.length ≤ L.length + 1)
theorem SeP.no {F : Nat → Prop} {p m : Nat} {L : List En} {r : List Bk} {b : Bk} {E g : Nat} {w w' : World} (h : Bo F w p m L) (hr : Rel L r) (hg : setE r b E = g) (h0 : g ≠ 0) (hb : Below w.heap.size w w') : SeP F p m L r b E w (.returned (.int .i64 (g : Nat))) w' :=
  ⟨by rw [hg], L, (h.below hb).mono (fun k hk => .inl hk), by unfold setL; rw [if_neg (by rw [hg]; exact h0)]; exact hr, .of_below hb, by omega⟩
theorem put_len (L : List En) (e : En) : (put L e).length ≤ L.length + 1 := by
  unfold put
  have := List.length_filter_le (fun x : En => decide (x.id ≠ e.id)) L
  simp only [List.length_cons]
  omega
set_option maxHeartbeats 16000000 in
theorem xset {F : Nat → Prop} {w : World} {p m : Nat} {L : List En} {r : List Bk} (h : Bo F w p m L) (hr : Rel L r) (hL : L.length ≤ 1000000) (hrl : r.length ≤ 1000000) (x : Bm) (hx : Ha w.heap.size w x) (hlc : x.b.cuts.length ≤ 1000000) (hlb : x.b.bar.length ≤ 1000000) (E : Nat) (hE : bkE C0 x.b = E) : Calls Try.prog 18 #[.pointer (some ⟨p, 0, none⟩), .agg (bcs x).toArray] w (SeP F p m L r x.b E w) := by
  show Calls Try.prog 18 #[.pointer (some ⟨p, 0, none⟩), .agg #[.int .i64 x.b.id, .int .i64 x.b.ver, .string ⟨x.b.cur.toArray⟩, .int .i64 x.b.rat, .int .i64 x.b.least, .int .i64 x.b.most, .slice x.ca x.b.cuts.length x.cc, .int .i64 x.b.iss, .int .i64 x.b.ass, .slice x.ba x.b.bar.length x.bc]] w (SeP F p m L r x.b E w)
  obtain ⟨w1, hw1⟩ : ∃ w1, w1 = w.alloc (.cells #[.int .i64 x.b.id, .int .i64 x.b.ver, .string ⟨x.b.cur.toArray⟩, .int .i64 x.b.rat, .int .i64 x.b.least, .int .i64 x.b.most, .slice x.ca x.b.cuts.length x.cc, .int .i64 x.b.iss, .int .i64 x.b.ass, .slice x.ba x.b.bar.length x.bc] 25) := ⟨_, rfl⟩
  have HW : Hid (w.alloc (.cells #[.int .i64 x.b.id, .int .i64 x.b.ver, .string ⟨x.b.cur.toArray⟩, .int .i64 x.b.rat, .int .i64 x.b.least, .int .i64 x.b.most, .slice x.ca x.b.cuts.length x.cc, .int .i64 x.b.iss, .int .i64 x.b.ass, .slice x.ba x.b.bar.length x.bc] 25) = w1) := hw1.symm
  have hb1 : Below w.heap.size w w1 := by rw [hw1]; exact below_a w _
  have HB1 : Hid (Below w.heap.size w w1) := hb1
  have hX1 : Bx w1 w.heap.size #[.int .i64 x.b.id, .int .i64 x.b.ver, .string ⟨x.b.cur.toArray⟩, .int .i64 x.b.rat, .int .i64 x.b.least, .int .i64 x.b.most, .slice x.ca x.b.cuts.length x.cc, .int .i64 x.b.iss, .int .i64 x.b.ass, .slice x.ba x.b.bar.length x.bc] 25 := by rw [hw1]; exact Bx.new w _ _
  have HX1 : Hid (Bx w1 w.heap.size #[.int .i64 x.b.id, .int .i64 x.b.ver, .string ⟨x.b.cur.toArray⟩, .int .i64 x.b.rat, .int .i64 x.b.least, .int .i64 x.b.most, .slice x.ca x.b.cuts.length x.cc, .int .i64 x.b.iss, .int .i64 x.b.ass, .slice x.ba x.b.bar.length x.bc] 25) := hX1
  have HO1 : Hid (Bo F w1 p m L) := h.below hb1
  have HO0 : Hid (Bo F w p m L) := h
  have HR : Hid (Rel L r) := hr
  have HA : Hid (Ha w.heap.size w x) := hx
  have HL : Hid (Calls Try.prog 41 #[.pointer (some ⟨p, 0, none⟩)] w1 (BP false w1)) := xlack (h.below hb1).bx
  have HC : Hid (Calls Try.prog 42 #[.agg #[.int .i64 x.b.id, .int .i64 x.b.ver, .string ⟨x.b.cur.toArray⟩, .int .i64 x.b.rat, .int .i64 x.b.least, .int .i64 x.b.most, .slice x.ca x.b.cuts.length x.cc, .int .i64 x.b.iss, .int .i64 x.b.ass, .slice x.ba x.b.bar.length x.bc]] w1 (KP (.int .i64 E) w1)) := xBasket x.b x.ca x.ba x.cc x.bc w1 (hx.on hb1 (Nat.le_refl _)).1 (hx.on hb1 (Nat.le_refl _)).2 (by omega) (by omega) E hE
  have HE : Hid (bkE C0 x.b = E) := hE
  have c0 : w1.cell? ⟨w.heap.size, 0, none⟩ = some (.int .i64 x.b.id) := hX1.cell 0
  have c1 : w1.cell? ⟨w.heap.size, 1, none⟩ = some (.int .i64 x.b.ver) := hX1.cell 1
  have c2 : w1.cell? ⟨w.heap.size, 2, none⟩ = some (.string ⟨x.b.cur.toArray⟩) := hX1.cell 2
  have c3 : w1.cell? ⟨w.heap.size, 3, none⟩ = some (.int .i64 x.b.rat) := hX1.cell 3
  have c4 : w1.cell? ⟨w.heap.size, 4, none⟩ = some (.int .i64 x.b.least) := hX1.cell 4
  have c5 : w1.cell? ⟨w.heap.size, 5, none⟩ = some (.int .i64 x.b.most) := hX1.cell 5
  have c6 : w1.cell? ⟨w.heap.size, 6, none⟩ = some (.slice x.ca x.b.cuts.length x.cc) := hX1.cell 6
  have c7 : w1.cell? ⟨w.heap.size, 7, none⟩ = some (.int .i64 x.b.iss) := hX1.cell 7
  have c8 : w1.cell? ⟨w.heap.size, 8, none⟩ = some (.int .i64 x.b.ass) := hX1.cell 8
  have c9 : w1.cell? ⟨w.heap.size, 9, none⟩ = some (.slice x.ba x.b.bar.length x.bc) := hX1.cell 9
  clear h hr hx hE hw1 hb1 hX1
  by_cases hE0 : E = 0
  · have hcl := cur_len (HE.out.trans hE0)
    obtain ⟨hc3, hi1, hi2, hc64, hb64, _⟩ := hcl
    obtain ⟨xs, hh⟩ := HO0.out.has x.b.id
    have HH : Hid (Has L x.b.id (gt (L.map kv) x.b.id) xs) := hh
    have hxl : xs.map (·.b) = of r x.b.id := HR.out.has hh
    have hwf : Wf x.b.id := wf_of (by omega) (by omega)
    have HXL : Hid (xs.map (·.b) = of r x.b.id) := hxl
    have hnl : (of r x.b.id).length = xs.length := by rw [← hxl, List.length_map]
    have hnr := of_len r x.b.id
    obtain ⟨own, hxx⟩ := hh.own HO0.out
    obtain ⟨a, cap, hv, hca, hrw⟩ := own_rw bcs_len own.1 rfl
    have HRW : Hid (Rw 10 bcs w a xs) := hrw
    have HV : Hid (gt (L.map kv) x.b.id = .slice a xs.length cap) := hv
    have HOF : Hid (∀ W, Bo F W p m L → Calls Try.prog 43 #[.pointer (some ⟨p, 0, none⟩), .int .i64 x.b.id] W fun e w' => e = .returned (.slice a xs.length cap) ∧ W = w') := fun W hW => by rw [← HV.out]; exact xof hW x.b.id hwf
    have HWF : Hid (Wf x.b.id) := hwf
    clear hh own hxx hv hrw hxl hwf
    subst hE0
    generalize hn : xs.length = n at *
    go_enter Try.func18, Try.ntmps18
    go_upto_region 1 with fail
    rw [HW.out]
    clear HW
    go_wp2_with (first | (go_at_call 41; refine HL.out.mono ?_; clear HL; rintro e w2 ⟨rfl, rfl⟩))
    refine HC.out.mono ?_
    rintro e w2 ⟨rfl, hb2⟩
    have HB2 : Hid (Below w.heap.size w w2) := HB1.out.trans (hb2.out.mono HB1.out.size)
    have HX2 : Hid (Bx w2 w.heap.size #[.int .i64 x.b.id, .int .i64 x.b.ver, .string ⟨x.b.cur.toArray⟩, .int .i64 x.b.rat, .int .i64 x.b.least, .int .i64 x.b.most, .slice x.ca x.b.cuts.length x.cc, .int .i64 x.b.iss, .int .i64 x.b.ass, .slice x.ba x.b.bar.length x.bc] 25) := HX1.out.keep hb2.out
    have HO2 : Hid (Bo F w2 p m L) := HO1.out.below hb2.out
    have d0 : w2.cell? ⟨w.heap.size, 0, none⟩ = some (.int .i64 x.b.id) := HX2.out.cell 0
    have d1 : w2.cell? ⟨w.heap.size, 1, none⟩ = some (.int .i64 x.b.ver) := HX2.out.cell 1
    have d2 : w2.cell? ⟨w.heap.size, 2, none⟩ = some (.string ⟨x.b.cur.toArray⟩) := HX2.out.cell 2
    clear hb2 HC HB1 HX1 HO1 c0 c1 c2 c3 c4 c5 c6 c7 c8 c9
    have HN : Hid (xs.length = n) := hn
    have HNL : Hid ((of r x.b.id).length = n) := hnl
    have hn1 : n ≤ 1000000 := by omega
    have HH2 : Hid (Has L x.b.id (.slice a n cap) xs) := by have := HH.out; rw [HV.out] at this; exact this
    clear hn hnl hnr HV HH
    by_cases k1 : x.b.ver ≠ (n : Int) + 1
    · have kb : (x.b.ver != (n : Int) + 1) = true := by simp [k1]
      have HG : Hid (setE r x.b 0 = 8) := by unfold Hid setE; rw [if_neg (by simp), if_pos (by rw [HNL.out]; exact k1)]
      go_wp2_with (go_at_call 43; refine (HOF.out _ HO2.out).mono ?_; clear HOF; rintro e w9 ⟨rfl, rfl⟩)
      go_ret
      exact SeP.no HO0.out HR.out HG.out (by decide) HB2.out
    have k1 : x.b.ver = (n : Int) + 1 := Decidable.of_not_not k1
    have kb : (x.b.ver != (n : Int) + 1) = false := by simp [k1]
    have HK1 : Hid (x.b.ver = (n : Int) + 1) := k1
    clear k1
    have k1 : (1 : Int) ≤ x.b.ver := by have := HK1.out; omega
    by_cases n0 : n = 0
    · have nz : ¬ (0 : Int) < (n : Int) := by omega
      have nzn : ¬ 0 < n := by omega
      have HFR : Hid (frn r x.b = false) := by
        have := HNL.out
        rw [n0] at this
        unfold Hid frn
        rw [List.eq_nil_of_length_eq_zero this]
      clear n0
      go_wp2_with (go_at_call 43; refine (HOF.out _ HO2.out).mono ?_; clear HOF; rintro e w9 ⟨rfl, rfl⟩)
      go_quiet (fail)
      obtain ⟨w3, hw3⟩ : ∃ w3, w3 = w2.drewN nq := ⟨_, rfl⟩
      have HB3 : Hid (Below w.heap.size w w3) := by rw [hw3]; exact bdrew HB2.out _
      have HX3 : Hid (Bx w3 w.heap.size #[.int .i64 x.b.id, .int .i64 x.b.ver, .string ⟨x.b.cur.toArray⟩, .int .i64 x.b.rat, .int .i64 x.b.least, .int .i64 x.b.most, .slice x.ca x.b.cuts.length x.cc, .int .i64 x.b.iss, .int .i64 x.b.ass, .slice x.ba x.b.bar.length x.bc] 25) := by rw [hw3]; exact HX2.out
      have HO3 : Hid (Bo F w3 p m L) := HO0.out.below HB3.out
      have e0 : w3.cell? ⟨w.heap.size, 0, none⟩ = some (.int .i64 x.b.id) := HX3.out.cell 0
      rw [← hw3]
      clear hw3 HB2 HX2 HO2 d0 d1 d2
      have k3 : ¬ 64 ≤ n := by omega
      have k3z : ¬ (64 : Int) ≤ (n : Int) := by omega
      have HG0 : Hid (setE r x.b 0 = 0) := by unfold Hid setE; rw [if_neg (by simp), if_neg (by rw [HNL.out]; exact fun h => h HK1.out), if_neg (by rw [HFR.out]; simp), if_neg (by rw [HNL.out]; exact k3)]
      go_upto_region 13 with fail
      refine wp_region_held (S := fun W => Bx W w.heap.size #[.int .i64 x.b.id, .int .i64 x.b.ver, .string ⟨x.b.cur.toArray⟩, .int .i64 x.b.rat, .int .i64 x.b.least, .int .i64 x.b.most, .slice x.ca x.b.cuts.length x.cc, .int .i64 x.b.iss, .int .i64 x.b.ass, .slice x.ba x.b.bar.length x.bc] 25 ∧ Bx W p #[.map (some m)] 57) (by kernel_rfl) ?_
      change wpAnyH _ _ _ _ _ 12 #[false, false, false, false, false, false, false, false, false, false, false, false] _ w3.drew
      obtain ⟨v0, hv0⟩ : ∃ v, v = w3.drew := ⟨_, rfl⟩
      have hS0 : Bx v0 w.heap.size #[.int .i64 x.b.id, .int .i64 x.b.ver, .string ⟨x.b.cur.toArray⟩, .int .i64 x.b.rat, .int .i64 x.b.least, .int .i64 x.b.most, .slice x.ca x.b.cuts.length x.cc, .int .i64 x.b.iss, .int .i64 x.b.ass, .slice x.ba x.b.bar.length x.bc] 25 ∧ Bx v0 p #[.map (some m)] 57 := by rw [hv0]; exact ⟨HX3.out, HO3.out.bx⟩
      have hT0 : Below w.heap.size w v0 := by rw [hv0]; exact ⟨HB3.out.os, HB3.out.tape, HB3.out.output, HB3.out.size, HB3.out.block⟩
      rw [← hv0]
      clear hv0 HO3 HX3 HB3
      refine takeR (fuel := 11) (i := 0) (v := .pointer (some ⟨p, 0, none⟩)) rfl (by kernel_rfl) (by kernel_rfl) (by kernel_rfl) (fun _ _ _ h => h) (Or.inl ⟨rfl, fun W hW => by go_simp⟩) hS0 ?_
      simp only [Act.put, List.setIfInBounds_toArray, List.set_cons_zero, List.set_cons_succ]
      refine takeR (fuel := 10) (i := 1) (v := .pointer (some ⟨p, 0, none⟩)) rfl (by kernel_rfl) (by kernel_rfl) (by kernel_rfl) (fun _ _ _ h => h) (Or.inl ⟨rfl, fun W hW => by go_simp⟩) hS0 ?_
      simp only [Act.put, List.setIfInBounds_toArray, List.set_cons_zero, List.set_cons_succ]
      refine takeR (fuel := 9) (i := 2) (v := .pointer (some ⟨p, 0, none⟩)) rfl (by kernel_rfl) (by kernel_rfl) (by kernel_rfl) (fun _ _ _ h => h) (Or.inl ⟨rfl, fun W hW => by go_simp⟩) hS0 ?_
      simp only [Act.put, List.setIfInBounds_toArray, List.set_cons_zero, List.set_cons_succ]
      refine takeR (fuel := 8) (i := 3) (v := .map (some m)) rfl (by kernel_rfl) (by kernel_rfl) (by kernel_rfl) (fun _ _ _ h => h) (Or.inl ⟨rfl, fun W hW => by have cj : W.cell? ⟨p, 0, none⟩ = some (.map (some m)) := hW.2.cell 0; go_simp⟩) hS0 ?_
      simp only [Act.put, List.setIfInBounds_toArray, List.set_cons_zero, List.set_cons_succ]
      refine takeR (fuel := 7) (i := 4) (v := .pointer (some ⟨w.heap.size, 0, none⟩)) rfl (by kernel_rfl) (by kernel_rfl) (by kernel_rfl) (fun _ _ _ h => h) (Or.inl ⟨rfl, fun W hW => by go_simp⟩) hS0 ?_
      simp only [Act.put, List.setIfInBounds_toArray, List.set_cons_zero, List.set_cons_succ]
      refine takeR (fuel := 6) (i := 5) (v := .int .i64 x.b.id) rfl (by kernel_rfl) (by kernel_rfl) (by kernel_rfl) (fun _ _ _ h => h) (Or.inl ⟨rfl, fun W hW => by have cj : W.cell? ⟨w.heap.size, 0, none⟩ = some (.int .i64 x.b.id) := hW.1.cell 0; go_simp⟩) hS0 ?_
      simp only [Act.put, List.setIfInBounds_toArray, List.set_cons_zero, List.set_cons_succ]
      refine takeR (fuel := 5) (i := 6) (v := .slice a n cap) rfl (by kernel_rfl) (by kernel_rfl) (by kernel_rfl) (fun _ _ _ h => h) (Or.inl ⟨rfl, fun W hW => by go_simp⟩) hS0 ?_
      simp only [Act.put, List.setIfInBounds_toArray, List.set_cons_zero, List.set_cons_succ]
      refine takeR (fuel := 4) (i := 7) (v := .agg #[.int .i64 x.b.id, .int .i64 x.b.ver, .string ⟨x.b.cur.toArray⟩, .int .i64 x.b.rat, .int .i64 x.b.least, .int .i64 x.b.most, .slice x.ca x.b.cuts.length x.cc, .int .i64 x.b.iss, .int .i64 x.b.ass, .slice x.ba x.b.bar.length x.bc]) rfl (by kernel_rfl) (by kernel_rfl) (by kernel_rfl) (fun _ _ _ h => h) (Or.inl ⟨rfl, fun W hW => exl _ _ _ _ rfl (.pointer (some ⟨w.heap.size, 0, none⟩)) _ rfl (loadB hW.1)⟩) hS0 ?_
      simp only [Act.put, List.setIfInBounds_toArray, List.set_cons_zero, List.set_cons_succ]
      have hcall : Calls Try.prog 44 #[.agg #[.int .i64 x.b.id, .int .i64 x.b.ver, .string ⟨x.b.cur.toArray⟩, .int .i64 x.b.rat, .int .i64 x.b.least, .int .i64 x.b.most, .slice x.ca x.b.cuts.length x.cc, .int .i64 x.b.iss, .int .i64 x.b.ass, .slice x.ba x.b.bar.length x.bc]] v0 (ApP x v0) := xapart x (by omega) v0 (HA.out.on hT0 (Nat.le_refl _)) (by omega) (by omega)
      refine consR (fuel := 3) (i := 8) rfl (by kernel_rfl) (fun K hK => ?_)
      rw [if_pos (by rfl)]
      go_simp
      refine hcall.mono ?_
      rintro e v1 ⟨y, rfl, hy⟩
      obtain ⟨hyb, hyx, hyB⟩ := hy.out
      obtain ⟨yb, a6, k6, a9, k9⟩ := y
      obtain rfl : yb = x.b := hyb
      have hB1 : Below w.heap.size w v1 := hT0.trans (hyB.mono hT0.size)
      refine hK.out _ _ ⟨hS0.1.keep hyB, hS0.2.keep hyB⟩ (fun hS1 => ?_)
      clear hK hcall hy
      try simp only [Act.put, List.setIfInBounds_toArray, List.set_cons_zero, List.set_cons_succ]
      have hO1 : Bo F v1 p m L := HO0.out.below hB1
      have hown := (HH2.out.own HO0.out).1
      have hown1 := (HH2.out.own hO1).1
      have hlt : ∀ g, (Value.slice a n cap).ownBlock = some g → g < w.heap.size := fun g hg => (hown.1.lt g hg).2
      obtain ⟨v', w4, hr4, ho4, hg4, hv4⟩ := app_gen2 (T := 25) (Sl := 34) (k := 10) (bytes := 120) Try.underlying34 info25 rfl (by omega) (bcs ⟨x.b, a6, k6, a9, k9⟩) rfl (bcs_one _) hown1.1 (Nat.zero_le _) (by rw [HN.out]; omega) (by rw [HN.out]; unfold maxLen; omega)
      have hBa : Below v1.heap.size v1 (v1.alloc (.cells (bcs ⟨x.b, a6, k6, a9, k9⟩).toArray 25)) := below_a v1 _
      have hB2 : Below w.heap.size w (v1.alloc (.cells (bcs ⟨x.b, a6, k6, a9, k9⟩).toArray 25)) := hB1.trans (hBa.mono hB1.size)
      have hO2 : Bo F (v1.alloc (.cells (bcs ⟨x.b, a6, k6, a9, k9⟩).toArray 25)) p m L := hO1.below hBa
      have hm4 : Mp w4 m (L.map kv) := hO2.mp.same (hg4.block m hO2.mp.lt (fun e => Mp.no (g := m) hO2.mp (HH2.out.own hO2).1 e.symm))
      obtain ⟨w5, hr5, hm5, hg5, hs5⟩ := hm4.store HWF.out v' (by rw [List.length_map]; unfold maxLen; omega)
      have hput := Bo.put (y := ⟨x.b, a6, k6, a9, k9⟩) HO0.out HH2.out hB2 ((hyx.mono (fun k hk => Nat.le_trans hT0.size hk)).ag (.of_below hBa)) hg4 ho4 hv4 hg5 hm5
      have hrel := HR.out.put (v' := v') (y := ⟨x.b, a6, k6, a9, k9⟩) HH2.out rfl
      have HFin : Hid (SeP F p m L r x.b 0 w (.returned (.int .i64 0)) w5) := ⟨by rw [HG0.out]; rfl, _, hput.1, by unfold setL; rw [if_pos HG0.out]; exact hrel, hput.2, put_len _ _⟩
      have hne1 : some w.heap.size ≠ (Value.slice a n cap).ownBlock := fun e => by have := hlt _ e.symm; omega
      have hne2 : some p ≠ (Value.slice a n cap).ownBlock := fun e => hO2.bx.no (HH2.out.own hO2).1 (by decide) e.symm
      have hpm : some p ≠ some m := fun e => by injection e with e; exact hO2.mp.nb hO2.bx e
      have hbm : some w.heap.size ≠ some m := fun e => by injection e with e; have := HO0.out.mp.lt; omega
      have hS2 : Bx (v1.alloc (.cells (bcs ⟨x.b, a6, k6, a9, k9⟩).toArray 25)) w.heap.size #[.int .i64 x.b.id, .int .i64 x.b.ver, .string ⟨x.b.cur.toArray⟩, .int .i64 x.b.rat, .int .i64 x.b.least, .int .i64 x.b.most, .slice x.ca x.b.cuts.length x.cc, .int .i64 x.b.iss, .int .i64 x.b.ass, .slice x.ba x.b.bar.length x.bc] 25 ∧ Bx (v1.alloc (.cells (bcs ⟨x.b, a6, k6, a9, k9⟩).toArray 25)) p #[.map (some m)] 57 := ⟨hS1.1.keep hBa, hS1.2.keep hBa⟩
      have hS4 : Bx w4 w.heap.size #[.int .i64 x.b.id, .int .i64 x.b.ver, .string ⟨x.b.cur.toArray⟩, .int .i64 x.b.rat, .int .i64 x.b.least, .int .i64 x.b.most, .slice x.ca x.b.cuts.length x.cc, .int .i64 x.b.iss, .int .i64 x.b.ass, .slice x.ba x.b.bar.length x.bc] 25 ∧ Bx w4 p #[.map (some m)] 57 := ⟨hS2.1.kept hg4 hne1, hS2.2.kept hg4 hne2⟩
      have hS5 : Bx w5 w.heap.size #[.int .i64 x.b.id, .int .i64 x.b.ver, .string ⟨x.b.cur.toArray⟩, .int .i64 x.b.rat, .int .i64 x.b.least, .int .i64 x.b.most, .slice x.ca x.b.cuts.length x.cc, .int .i64 x.b.iss, .int .i64 x.b.ass, .slice x.ba x.b.bar.length x.bc] 25 ∧ Bx w5 p #[.map (some m)] 57 := ⟨hS4.1.kept hg5 hbm, hS4.2.kept hg5 hpm⟩
      clear hput hrel hO1 hO2 hown hown1 hlt hm4 hm5 hg5 hg4 ho4 hv4 hyx hyB hne1 hne2 hpm hbm hBa hB2 hB1
      simp only [bcs] at hr4 hS2
      simp only [bcs]
      refine consR (fuel := 2) (i := 9) rfl (by kernel_rfl) (fun K hK => ?_)
      rw [if_pos (by rfl)]
      go_simp
      refine hK.out _ _ hS2 (fun hS2 => ?_)
      clear hK
      try simp only [Act.put, List.setIfInBounds_toArray, List.set_cons_zero, List.set_cons_succ]
      refine consR (fuel := 1) (i := 10) rfl (by kernel_rfl) (fun K hK => ?_)
      rw [if_pos (by rfl)]
      refine Lib.wp_append_run _ _ _ 34 34 rfl _ _ rfl rfl _ w4 hr4 ?_
      refine hK.out _ _ hS4 (fun hS4 => ?_)
      clear hK
      try simp only [Act.put, List.setIfInBounds_toArray, List.set_cons_zero, List.set_cons_succ]
      refine consR (fuel := 0) (i := 11) rfl (by kernel_rfl) (fun K hK => ?_)
      rw [if_pos (by rfl)]
      go_simp
      refine hK.out _ _ hS5 (fun hS5 => ?_)
      clear hK
      try simp only [Act.put, List.setIfInBounds_toArray, List.set_cons_zero, List.set_cons_succ]
      refine wpAnyH_done (by kernel_rfl) ?_ _
      go_wp2_with fail
      go_ret
      exact HFin.out
    · have nz : (0 : Int) < (n : Int) := by omega
      have nzn : 0 < n := by omega
      obtain ⟨blk, off, rfl, hbl, hcs⟩ := HRW.out (by rw [HN.out]; omega)
      have hx0 := hcs 0 (by rw [HN.out]; omega) 2 (by omega)
      have HC0 : Hid ((of r x.b.id).head? = some (xs[0]'(by rw [HN.out]; omega)).b) := by
        unfold Hid
        rw [← HXL.out, List.head?_map, List.head?_eq_getElem?, List.getElem?_eq_getElem (by rw [HN.out]; omega)]
        rfl
      generalize xs[0]'(by rw [HN.out]; omega) = x0 at *
      have f2 : w2.cell? ⟨blk, off + 2, none⟩ = some (.string ⟨x0.b.cur.toArray⟩) := by
        have := (HB2.out.cell (p := ⟨blk, off + 0 * 10 + 2, none⟩) hbl).trans hx0
        rw [Nat.zero_mul, Nat.add_zero] at this
        exact this
      obtain ⟨g, hg⟩ : ∃ g, g = frn r x.b := ⟨_, rfl⟩
      have hgc : ((⟨x.b.cur.toArray⟩ : ByteArray).toList != (⟨x0.b.cur.toArray⟩ : ByteArray).toList) = g := by
        rw [hg, toL, toL]
        have := HC0.out
        unfold frn
        cases he : of r x.b.id with
        | nil => rw [he] at this; cases this
        | cons c l =>
          rw [he] at this
          injection this with this
          rw [this]
          rfl
      have HFR : Hid (frn r x.b = g) := hg.symm
      obtain ⟨sx, hsx⟩ : ∃ s, s = (⟨x.b.cur.toArray⟩ : ByteArray) := ⟨_, rfl⟩
      obtain ⟨s0, hs0⟩ : ∃ s, s = (⟨x0.b.cur.toArray⟩ : ByteArray) := ⟨_, rfl⟩
      rw [← hsx, ← hs0] at hgc
      rw [← hsx] at d2
      rw [← hs0] at f2
      have HSX : Hid (sx = (⟨x.b.cur.toArray⟩ : ByteArray)) := hsx
      clear hg hx0 hcs HC0 hsx hs0
      go_wp2_with (go_at_call 43; refine (HOF.out _ HO2.out).mono ?_; clear HOF; rintro e w9 ⟨rfl, rfl⟩)
      cases g with
      | true =>
        have hge : (sx.toList == s0.toList) = false := by simpa [bne] using hgc
        have HG : Hid (setE r x.b 0 = 1) := by unfold Hid setE; rw [if_neg (by simp), if_neg (by rw [HNL.out]; exact fun h => h HK1.out), if_pos HFR.out]
        go_quiet (fail)
        go_wp2_with fail
        go_ret
        exact SeP.no HO0.out HR.out HG.out (by decide) (bdrew HB2.out _)
      | false =>
        have hge : (sx.toList == s0.toList) = true := by simpa [bne] using hgc
        go_quiet (fail)
        obtain ⟨w3, hw3⟩ : ∃ w3, w3 = w2.drewN nq := ⟨_, rfl⟩
        have HB3 : Hid (Below w.heap.size w w3) := by rw [hw3]; exact bdrew HB2.out _
        have HX3 : Hid (Bx w3 w.heap.size #[.int .i64 x.b.id, .int .i64 x.b.ver, .string ⟨x.b.cur.toArray⟩, .int .i64 x.b.rat, .int .i64 x.b.least, .int .i64 x.b.most, .slice x.ca x.b.cuts.length x.cc, .int .i64 x.b.iss, .int .i64 x.b.ass, .slice x.ba x.b.bar.length x.bc] 25) := by rw [hw3]; exact HX2.out
        have HO3 : Hid (Bo F w3 p m L) := HO0.out.below HB3.out
        rw [← hw3]
        clear hw3 HB2 HX2 HO2 d0 d1 d2 f2 hgc hge
        by_cases k3 : 64 ≤ n
        · have k3z : (64 : Int) ≤ (n : Int) := by omega
          have HG : Hid (setE r x.b 0 = 18) := by unfold Hid setE; rw [if_neg (by simp), if_neg (by rw [HNL.out]; exact fun h => h HK1.out), if_neg (by rw [HFR.out]; simp), if_pos (by rw [HNL.out]; exact k3)]
          go_wp2_with fail
          go_ret
          exact SeP.no HO0.out HR.out HG.out (by decide) HB3.out
        have k3z : ¬ (64 : Int) ≤ (n : Int) := by omega
        have HG0 : Hid (setE r x.b 0 = 0) := by unfold Hid setE; rw [if_neg (by simp), if_neg (by rw [HNL.out]; exact fun h => h HK1.out), if_neg (by rw [HFR.out]; simp), if_neg (by rw [HNL.out]; exact k3)]
        go_upto_region 13 with fail
        refine wp_region_held (S := fun W => Bx W w.heap.size #[.int .i64 x.b.id, .int .i64 x.b.ver, .string ⟨x.b.cur.toArray⟩, .int .i64 x.b.rat, .int .i64 x.b.least, .int .i64 x.b.most, .slice x.ca x.b.cuts.length x.cc, .int .i64 x.b.iss, .int .i64 x.b.ass, .slice x.ba x.b.bar.length x.bc] 25 ∧ Bx W p #[.map (some m)] 57) (by kernel_rfl) ?_
        change wpAnyH _ _ _ _ _ 12 #[false, false, false, false, false, false, false, false, false, false, false, false] _ w3.drew
        obtain ⟨v0, hv0⟩ : ∃ v, v = w3.drew := ⟨_, rfl⟩
        have hS0 : Bx v0 w.heap.size #[.int .i64 x.b.id, .int .i64 x.b.ver, .string ⟨x.b.cur.toArray⟩, .int .i64 x.b.rat, .int .i64 x.b.least, .int .i64 x.b.most, .slice x.ca x.b.cuts.length x.cc, .int .i64 x.b.iss, .int .i64 x.b.ass, .slice x.ba x.b.bar.length x.bc] 25 ∧ Bx v0 p #[.map (some m)] 57 := by rw [hv0]; exact ⟨HX3.out, HO3.out.bx⟩
        have hT0 : Below w.heap.size w v0 := by rw [hv0]; exact ⟨HB3.out.os, HB3.out.tape, HB3.out.output, HB3.out.size, HB3.out.block⟩
        rw [← hv0]
        clear hv0 HO3 HX3 HB3
        refine takeR (fuel := 11) (i := 0) (v := .pointer (some ⟨p, 0, none⟩)) rfl (by kernel_rfl) (by kernel_rfl) (by kernel_rfl) (fun _ _ _ h => h) (Or.inl ⟨rfl, fun W hW => by go_simp⟩) hS0 ?_
        simp only [Act.put, List.setIfInBounds_toArray, List.set_cons_zero, List.set_cons_succ]
        refine takeR (fuel := 10) (i := 1) (v := .pointer (some ⟨p, 0, none⟩)) rfl (by kernel_rfl) (by kernel_rfl) (by kernel_rfl) (fun _ _ _ h => h) (Or.inl ⟨rfl, fun W hW => by go_simp⟩) hS0 ?_
        simp only [Act.put, List.setIfInBounds_toArray, List.set_cons_zero, List.set_cons_succ]
        refine takeR (fuel := 9) (i := 2) (v := .pointer (some ⟨p, 0, none⟩)) rfl (by kernel_rfl) (by kernel_rfl) (by kernel_rfl) (fun _ _ _ h => h) (Or.inl ⟨rfl, fun W hW => by go_simp⟩) hS0 ?_
        simp only [Act.put, List.setIfInBounds_toArray, List.set_cons_zero, List.set_cons_succ]
        refine takeR (fuel := 8) (i := 3) (v := .map (some m)) rfl (by kernel_rfl) (by kernel_rfl) (by kernel_rfl) (fun _ _ _ h => h) (Or.inl ⟨rfl, fun W hW => by have cj : W.cell? ⟨p, 0, none⟩ = some (.map (some m)) := hW.2.cell 0; go_simp⟩) hS0 ?_
        simp only [Act.put, List.setIfInBounds_toArray, List.set_cons_zero, List.set_cons_succ]
        refine takeR (fuel := 7) (i := 4) (v := .pointer (some ⟨w.heap.size, 0, none⟩)) rfl (by kernel_rfl) (by kernel_rfl) (by kernel_rfl) (fun _ _ _ h => h) (Or.inl ⟨rfl, fun W hW => by go_simp⟩) hS0 ?_
        simp only [Act.put, List.setIfInBounds_toArray, List.set_cons_zero, List.set_cons_succ]
        refine takeR (fuel := 6) (i := 5) (v := .int .i64 x.b.id) rfl (by kernel_rfl) (by kernel_rfl) (by kernel_rfl) (fun _ _ _ h => h) (Or.inl ⟨rfl, fun W hW => by have cj : W.cell? ⟨w.heap.size, 0, none⟩ = some (.int .i64 x.b.id) := hW.1.cell 0; go_simp⟩) hS0 ?_
        simp only [Act.put, List.setIfInBounds_toArray, List.set_cons_zero, List.set_cons_succ]
        refine takeR (fuel := 5) (i := 6) (v := .slice (some ⟨blk, off, none⟩) n cap) rfl (by kernel_rfl) (by kernel_rfl) (by kernel_rfl) (fun _ _ _ h => h) (Or.inl ⟨rfl, fun W hW => by go_simp⟩) hS0 ?_
        simp only [Act.put, List.setIfInBounds_toArray, List.set_cons_zero, List.set_cons_succ]
        refine takeR (fuel := 4) (i := 7) (v := .agg #[.int .i64 x.b.id, .int .i64 x.b.ver, .string ⟨x.b.cur.toArray⟩, .int .i64 x.b.rat, .int .i64 x.b.least, .int .i64 x.b.most, .slice x.ca x.b.cuts.length x.cc, .int .i64 x.b.iss, .int .i64 x.b.ass, .slice x.ba x.b.bar.length x.bc]) rfl (by kernel_rfl) (by kernel_rfl) (by kernel_rfl) (fun _ _ _ h => h) (Or.inl ⟨rfl, fun W hW => exl _ _ _ _ rfl (.pointer (some ⟨w.heap.size, 0, none⟩)) _ rfl (loadB hW.1)⟩) hS0 ?_
        simp only [Act.put, List.setIfInBounds_toArray, List.set_cons_zero, List.set_cons_succ]
        have hcall : Calls Try.prog 44 #[.agg #[.int .i64 x.b.id, .int .i64 x.b.ver, .string ⟨x.b.cur.toArray⟩, .int .i64 x.b.rat, .int .i64 x.b.least, .int .i64 x.b.most, .slice x.ca x.b.cuts.length x.cc, .int .i64 x.b.iss, .int .i64 x.b.ass, .slice x.ba x.b.bar.length x.bc]] v0 (ApP x v0) := xapart x (by omega) v0 (HA.out.on hT0 (Nat.le_refl _)) (by omega) (by omega)
        refine consR (fuel := 3) (i := 8) rfl (by kernel_rfl) (fun K hK => ?_)
        rw [if_pos (by rfl)]
        go_simp
        refine hcall.mono ?_
        rintro e v1 ⟨y, rfl, hy⟩
        obtain ⟨hyb, hyx, hyB⟩ := hy.out
        obtain ⟨yb, a6, k6, a9, k9⟩ := y
        obtain rfl : yb = x.b := hyb
        have hB1 : Below w.heap.size w v1 := hT0.trans (hyB.mono hT0.size)
        refine hK.out _ _ ⟨hS0.1.keep hyB, hS0.2.keep hyB⟩ (fun hS1 => ?_)
        clear hK hcall hy
        try simp only [Act.put, List.setIfInBounds_toArray, List.set_cons_zero, List.set_cons_succ]
        have hO1 : Bo F v1 p m L := HO0.out.below hB1
        have hown := (HH2.out.own HO0.out).1
        have hown1 := (HH2.out.own hO1).1
        have hlt : ∀ g, (Value.slice (some ⟨blk, off, none⟩) n cap).ownBlock = some g → g < w.heap.size := fun g hg => (hown.1.lt g hg).2
        obtain ⟨v', w4, hr4, ho4, hg4, hv4⟩ := app_gen2 (T := 25) (Sl := 34) (k := 10) (bytes := 120) Try.underlying34 info25 rfl (by omega) (bcs ⟨x.b, a6, k6, a9, k9⟩) rfl (bcs_one _) hown1.1 (Nat.zero_le _) (by rw [HN.out]; omega) (by rw [HN.out]; unfold maxLen; omega)
        have hBa : Below v1.heap.size v1 (v1.alloc (.cells (bcs ⟨x.b, a6, k6, a9, k9⟩).toArray 25)) := below_a v1 _
        have hB2 : Below w.heap.size w (v1.alloc (.cells (bcs ⟨x.b, a6, k6, a9, k9⟩).toArray 25)) := hB1.trans (hBa.mono hB1.size)
        have hO2 : Bo F (v1.alloc (.cells (bcs ⟨x.b, a6, k6, a9, k9⟩).toArray 25)) p m L := hO1.below hBa
        have hm4 : Mp w4 m (L.map kv) := hO2.mp.same (hg4.block m hO2.mp.lt (fun e => Mp.no (g := m) hO2.mp (HH2.out.own hO2).1 e.symm))
        obtain ⟨w5, hr5, hm5, hg5, hs5⟩ := hm4.store HWF.out v' (by rw [List.length_map]; unfold maxLen; omega)
        have hput := Bo.put (y := ⟨x.b, a6, k6, a9, k9⟩) HO0.out HH2.out hB2 ((hyx.mono (fun k hk => Nat.le_trans hT0.size hk)).ag (.of_below hBa)) hg4 ho4 hv4 hg5 hm5
        have hrel := HR.out.put (v' := v') (y := ⟨x.b, a6, k6, a9, k9⟩) HH2.out rfl
        have HFin : Hid (SeP F p m L r x.b 0 w (.returned (.int .i64 0)) w5) := ⟨by rw [HG0.out]; rfl, _, hput.1, by unfold setL; rw [if_pos HG0.out]; exact hrel, hput.2, put_len _ _⟩
        have hne1 : some w.heap.size ≠ (Value.slice (some ⟨blk, off, none⟩) n cap).ownBlock := fun e => by have := hlt _ e.symm; omega
        have hne2 : some p ≠ (Value.slice (some ⟨blk, off, none⟩) n cap).ownBlock := fun e => hO2.bx.no (HH2.out.own hO2).1 (by decide) e.symm
        have hpm : some p ≠ some m := fun e => by injection e with e; exact hO2.mp.nb hO2.bx e
        have hbm : some w.heap.size ≠ some m := fun e => by injection e with e; have := HO0.out.mp.lt; omega
        have hS2 : Bx (v1.alloc (.cells (bcs ⟨x.b, a6, k6, a9, k9⟩).toArray 25)) w.heap.size #[.int .i64 x.b.id, .int .i64 x.b.ver, .string ⟨x.b.cur.toArray⟩, .int .i64 x.b.rat, .int .i64 x.b.least, .int .i64 x.b.most, .slice x.ca x.b.cuts.length x.cc, .int .i64 x.b.iss, .int .i64 x.b.ass, .slice x.ba x.b.bar.length x.bc] 25 ∧ Bx (v1.alloc (.cells (bcs ⟨x.b, a6, k6, a9, k9⟩).toArray 25)) p #[.map (some m)] 57 := ⟨hS1.1.keep hBa, hS1.2.keep hBa⟩
        have hS4 : Bx w4 w.heap.size #[.int .i64 x.b.id, .int .i64 x.b.ver, .string ⟨x.b.cur.toArray⟩, .int .i64 x.b.rat, .int .i64 x.b.least, .int .i64 x.b.most, .slice x.ca x.b.cuts.length x.cc, .int .i64 x.b.iss, .int .i64 x.b.ass, .slice x.ba x.b.bar.length x.bc] 25 ∧ Bx w4 p #[.map (some m)] 57 := ⟨hS2.1.kept hg4 hne1, hS2.2.kept hg4 hne2⟩
        have hS5 : Bx w5 w.heap.size #[.int .i64 x.b.id, .int .i64 x.b.ver, .string ⟨x.b.cur.toArray⟩, .int .i64 x.b.rat, .int .i64 x.b.least, .int .i64 x.b.most, .slice x.ca x.b.cuts.length x.cc, .int .i64 x.b.iss, .int .i64 x.b.ass, .slice x.ba x.b.bar.length x.bc] 25 ∧ Bx w5 p #[.map (some m)] 57 := ⟨hS4.1.kept hg5 hbm, hS4.2.kept hg5 hpm⟩
        clear hput hrel hO1 hO2 hown hown1 hlt hm4 hm5 hg5 hg4 ho4 hv4 hyx hyB hne1 hne2 hpm hbm hBa hB2 hB1
        simp only [bcs] at hr4 hS2
        simp only [bcs]
        refine consR (fuel := 2) (i := 9) rfl (by kernel_rfl) (fun K hK => ?_)
        rw [if_pos (by rfl)]
        go_simp
        refine hK.out _ _ hS2 (fun hS2 => ?_)
        clear hK
        try simp only [Act.put, List.setIfInBounds_toArray, List.set_cons_zero, List.set_cons_succ]
        refine consR (fuel := 1) (i := 10) rfl (by kernel_rfl) (fun K hK => ?_)
        rw [if_pos (by rfl)]
        refine Lib.wp_append_run _ _ _ 34 34 rfl _ _ rfl rfl _ w4 hr4 ?_
        refine hK.out _ _ hS4 (fun hS4 => ?_)
        clear hK
        try simp only [Act.put, List.setIfInBounds_toArray, List.set_cons_zero, List.set_cons_succ]
        refine consR (fuel := 0) (i := 11) rfl (by kernel_rfl) (fun K hK => ?_)
        rw [if_pos (by rfl)]
        go_simp
        refine hK.out _ _ hS5 (fun hS5 => ?_)
        clear hK
        try simp only [Act.put, List.setIfInBounds_toArray, List.set_cons_zero, List.set_cons_succ]
        refine wpAnyH_done (by kernel_rfl) ?_ _
        go_wp2_with fail
        go_ret
        exact HFin.out
  · have hen : ((E : Int) != 0) = true := by simp [hE0]
    have HG : Hid (setE r x.b E = E) := by unfold Hid setE; rw [if_pos hE0]
    have HE2 : Hid (E ≠ 0) := hE0
    go_enter Try.func18, Try.ntmps18
    go_upto_region 1 with fail
    rw [HW.out]
    clear HW
    go_wp2_with (first | (go_at_call 41; refine HL.out.mono ?_; clear HL; rintro e w2 ⟨rfl, rfl⟩) | (go_at_call 42; refine HC.out.mono ?_; clear HC; rintro e w2 ⟨rfl, hb2⟩))
    go_ret
    exact SeP.no HO0.out HR.out HG.out HE2.out (HB1.out.trans (hb2.out.mono HB1.out.size))
end Go.Proofs.Ytmjaijpikbdfkaa
