/- layer 17: a lot put in its place -/
import Derived.Test.YtheikjjehidagaaND
import Derived.WalkKit
import Derived.ProofKit
import Derived.Handy
import Derived.WalkLawsBesides
import Derived.WalkSpells
import Derived.BigQuiet
import Derived.BigCall
import Derived.Deep.QuietTactic
import Derived.Deep.Light
import Derived.Deep.OwnRows
import Derived.Laws.AppendOwnNone
import Derived.Laws.Strings3
import Derived.Laws.RangeAny
import Derived.Deep.RegionWith
import Derived.Lib.BitFns
import Derived.Lib.Walk
import Derived.Lib.Strings
import Derived.Lib.OthersKept
import Derived.Deep.CutBlock
import Derived.Deep.DeepCutAuto
import Derived.Deep.LoopGhost
import Derived.Deep.RegionHeld3
import Derived.Lib.SmallJoins
import Derived.Maps.AppendAt
import Derived.Laws.IdiomStrings
import Derived.Lib.AppendZeros
import Derived.Deep.WholeRow
import Derived.Laws.BitsAllLaws
import Derived.Lib.ConvBytes
import Derived.Deep.RegionLaw
import Derived.Maps.OwnSet
import Derived.Maps.OwnOps
import Derived.Maps.RangeWalk
import Derived.Maps.Ext
import Derived.DeepKeys4
import Derived.Laws.StructEq
import Derived.Deep.MidRow
import Derived.Lib.Bytealg
import Derived.Lib.AppendZerosOnto
import Derived.Laws.MakeOwn
import Derived.Deep.Upon
import Derived.Sort.KeysCollected
namespace Go.Proofs.Ytheikjjehidagaa
open Go.RowKit
set_option linter.unusedVariables false
set_option linter.unusedSimpArgs false
set_option maxRecDepth 20000
set_option maxHeartbeats 8000000 in
theorem xadd {B : Nat} {v : Value} {L : List Lt} (g : Good L) (x : Lt) (hx : x.i.size ≤ 281474976710656) (w : World) (h : Ol B w v L) (hB : B ≤ w.heap.size) : Calls Try.prog 41 #[v, .agg #[.string x.i, .int .i64 x.n]] w (AdP B v L x w) := by
  obtain ⟨a, cap, rfl, hcap, hr⟩ := h.read
  obtain ⟨w1, hw1⟩ : ∃ w1, w1 = w.alloc (.cells #[.string x.i, .int .i64 x.n] 43) := ⟨_, rfl⟩
  have HW : Hid (w.alloc (.cells #[.string x.i, .int .i64 x.n] 43) = w1) := hw1.symm
  have hb1 : Below w.heap.size w w1 := by rw [hw1]; exact (Below.refl _ w).alloc (Nat.le_refl _) _
  have hX1 : Bx w1 w.heap.size #[.string x.i, .int .i64 x.n] 43 := by rw [hw1]; exact Bx.new w _ _
  have hx1l := hX1.lt
  have hlen : (L.length : Int) ≤ 64 := by have := g.len; omega
  have hll : L.length ≤ 1000000 := by have := g.len; omega
  have c0 : w1.cell? ⟨w.heap.size, 0, none⟩ = some (.string x.i) := hX1.cell 0
  have c1 : w1.cell? ⟨w.heap.size, 1, none⟩ = some (.int .i64 x.n) := hX1.cell 1
  have HS : Hid (Calls Try.prog 66 #[.slice a L.length cap, .string x.i, .func (.func 67) #[] #[]] w1 fun e w2 => e = .returned (.tuple #[.int .i64 (pos L (key x)), .bool (has L (key x))]) ∧ w2.cell? ⟨w.heap.size, 0, none⟩ = some (.string x.i) ∧ w2.cell? ⟨w.heap.size, 1, none⟩ = some (.int .i64 x.n) ∧ Hid (Below w.heap.size w w2)) :=
    (xbs L g.srt hll x.i a cap w1 (hr.below hb1)).mono fun e w2 k => ⟨k.1, (hX1.below k.2 hX1.lt).cell 0, (hX1.below k.2 hX1.lt).cell 1, hb1.trans (k.2.mono hb1.size)⟩
  have HG : Hid (∀ w, Calls Try.prog 39 #[.int .i64 x.n] w (BoP (decide (okq x.n)) w)) := fun w => xgoodq _ w
  by_cases hq : okq x.n
  · rw [decide_eq_true hq] at HG
    cases hh : has L (key x) with
    | true =>
      obtain ⟨hp, hk⟩ := has_pos g.srt hh
      have hqp := qty_pos g hh hp
      have hn0 : qty L (key x) ≠ 0 := fun e => by have := (qty_ok g.ok (key x)).2.2.1 e; rw [hh] at this; cases this
      have hrg := g.ok _ (List.getElem_mem hp)
      unfold okq at hrg hq
      have hw1' : wrap64 (1125899906842624 - L[pos L (key x)].n) = 1125899906842624 - L[pos L (key x)].n := by unfold wrap64; omega
      have hw2' : IntKind.i64.wrap (1125899906842624 - L[pos L (key x)].n) = 1125899906842624 - L[pos L (key x)].n := by rw [IntKind.wrap_i64]; omega
      have hpz : (pos L (key x) : Int) < (L.length : Int) := by omega
      obtain ⟨gb, hgb, hBg, hgl, hcell⟩ : ∃ g, a = some ⟨g, 0, none⟩ ∧ B ≤ g ∧ g < w.heap.size ∧ ∀ i u, (rcs lcs L)[i]? = some u → w.cell? ⟨g, i, none⟩ = some u := by
        obtain ⟨a2, c2, e0, _, hrd⟩ := own_read h h.1
        injection e0 with e1 e2 e3
        subst e1
        exact hrd (by omega)
      subst hgb
      have hcn : w.cell? ⟨gb, pos L (key x) * 2 + 1, none⟩ = some (.int .i64 L[pos L (key x)].n) := by
        refine hcell _ _ ?_
        have := flat_at lcs 2 lcs_len L (pos L (key x)) hp 1 (by omega)
        unfold rcs
        rw [this]
        rfl
      by_cases ho : x.n > 1125899906842624 - L[pos L (key x)].n
      · have hE : addE L x = 9 := addE_over (by unfold okq; omega) hn0 (by rw [hqp]; exact ho)
        have hoz : 1125899906842624 - L[pos L (key x)].n < x.n := ho
        have HC : Hid (∀ W, Below w.heap.size w W → W.cell? ⟨gb, pos L (key x) * 2 + 1, none⟩ = some (.int .i64 L[pos L (key x)].n)) := fun W hb => (hb.cell (p := ⟨gb, pos L (key x) * 2 + 1, none⟩) hgl).trans hcn
        have HF : Hid (∀ W, Below w.heap.size w W → AdP B (.slice (some ⟨gb, 0, none⟩) L.length cap) L x w (.returned (.tuple #[.slice none 0 0, .int .i64 9])) W) := fun W hb => .inr ⟨by rw [hE]; decide, by rw [hE]; rfl, hb⟩
        rw [hh] at HS
        generalize L[pos L (key x)].n = q at *
        clear hh h g hB hx hr hcap hw1 hX1 hp hk hqp hn0 hrg hq hcell hcn ho hE hBg hb1
        generalize hxk : key x = kx at *
        clear hxk
        obtain ⟨i, n⟩ := x
        simp only at *
        generalize pos L kx = P at *
        go_enter Try.func41, Try.ntmps41
        go_upto_region 1 with fail
        rw [HW.out]
        clear HW
        go_upto_region 8 with (first | (go_at_call 66; refine HS.out.mono ?_; clear HS c0 c1; rintro e w2 ⟨rfl, d0, d1, HB2⟩; have d2 := HC.out w2 HB2.out) | (go_at_call 39; refine (HG.out _).mono ?_; rintro e w3 ⟨rfl, rfl⟩))
        go_quiet (fail)
        go_wp2_with fail
        go_ret2
        exact HF.out _ (below_q HB2.out _)
      · have hE : addE L x = 0 := addE_iff (by unfold okq; omega) (fun k => hn0 k.1) (by rw [hqp]; exact ho)
        have hoz : ¬ 1125899906842624 - L[pos L (key x)].n < x.n := ho
        have hM := addL_upd g hh hp
        have hs1 : wrap64 (L[pos L (key x)].n + x.n) = L[pos L (key x)].n + x.n := by unfold wrap64; omega
        have hs2 : IntKind.i64.wrap (L[pos L (key x)].n + x.n) = L[pos L (key x)].n + x.n := by rw [IntKind.wrap_i64]; omega
        have HC : Hid (∀ W, Below w.heap.size w W → W.cell? ⟨gb, pos L (key x) * 2 + 1, none⟩ = some (.int .i64 L[pos L (key x)].n) ∧ W.frozen? ⟨gb, pos L (key x) * 2 + 1, none⟩ = false) := fun W hb => ⟨(hb.cell (p := ⟨gb, pos L (key x) * 2 + 1, none⟩) hgl).trans hcn, own_froz (own_below h hb) _⟩
        have HF : Hid (∀ W, Below w.heap.size w W → AdP B (.slice (some ⟨gb, 0, none⟩) L.length cap) L x w (.returned (.tuple #[.slice (some ⟨gb, 0, none⟩) L.length cap, .int .i64 0])) (W.setCell ⟨gb, pos L (key x) * 2 + 1, none⟩ (.int .i64 (L[pos L (key x)].n + x.n)))) := fun W hb => by
          refine .inl ⟨hE, _, rfl, ?_, ?_, .inl rfl⟩
          · show World.ownsRow _ B 43 2 _ (addL L x).length (rcs lcs (addL L x))
            rw [hM, List.length_set]
            exact own_setN (own_below h hb) hp _
          · exact grown_trans (grown_below hb (Nat.le_refl _) _) (grown_set W gb _ _)
        rw [hh] at HS
        generalize L[pos L (key x)].n = q at *
        clear hh h g hB hx hr hcap hw1 hX1 hp hk hqp hn0 hrg hq hcell hcn ho hE hBg hb1 hM
        generalize hxk : key x = kx at *
        clear hxk
        obtain ⟨i, n⟩ := x
        simp only at *
        generalize pos L kx = P at *
        go_enter Try.func41, Try.ntmps41
        go_upto_region 1 with fail
        rw [HW.out]
        clear HW
        go_upto_region 8 with (first | (go_at_call 66; refine HS.out.mono ?_; clear HS c0 c1; rintro e w2 ⟨rfl, d0, d1, HB2⟩; obtain ⟨d2, d3⟩ := HC.out w2 HB2.out) | (go_at_call 39; refine (HG.out _).mono ?_; rintro e w3 ⟨rfl, rfl⟩))
        go_quiet (fail)
        have HB3 : Hid (Below w.heap.size w (w2.drewN nq)) := below_q HB2.out _
        have k1 : (w2.drewN nq).cell? ⟨w.heap.size, 1, none⟩ = some (.int .i64 n) := d1
        have k2 : (w2.drewN nq).cell? ⟨gb, P * 2 + 1, none⟩ = some (.int .i64 q) := d2
        have k3 : (w2.drewN nq).frozen? ⟨gb, P * 2 + 1, none⟩ = false := d3
        clear d0 d1 d2 d3 HB2 HC HG
        generalize w2.drewN nq = w3 at *
        go_upto_region 10 with fail
        go_region
        go_wp2_with fail
        go_ret2
        exact HF.out _ HB3.out.drew
    | false =>
      have hq0 : qty L (key x) = 0 := qty_no (not_has hh)
      by_cases hf : 64 ≤ L.length
      · have hE : addE L x = 2 := addE_full hq hq0 hf
        have hfz : (64 : Int) ≤ (L.length : Int) := by omega
        have HF : Hid (∀ W, Below w.heap.size w W → AdP B (.slice a L.length cap) L x w (.returned (.tuple #[.slice none 0 0, .int .i64 2])) W) := fun W hb => .inr ⟨by rw [hE]; decide, by rw [hE]; rfl, hb⟩
        rw [hh] at HS
        clear h g hB hx hr hcap hw1 hX1 hq hE hb1 hh hq0 hf
        generalize pos L (key x) = P at *
        obtain ⟨i, n⟩ := x
        simp only at *
        go_enter Try.func41, Try.ntmps41
        go_upto_region 1 with fail
        rw [HW.out]
        clear HW
        go_wp2_with (first | (go_at_call 66; refine HS.out.mono ?_; clear HS c0 c1; rintro e w2 ⟨rfl, d0, d1, HB2⟩) | (go_at_call 39; refine (HG.out _).mono ?_; rintro e w3 ⟨rfl, rfl⟩))
        go_ret2
        exact HF.out _ HB2.out
      · have hfz : ¬ (64 : Int) ≤ (L.length : Int) := by omega
        have hE : addE L x = 0 := addE_iff hq (fun k => hf k.2) (by rw [hq0]; unfold okq at hq; omega)
        have hM := addL_ins g hh
        have HI : Hid (∀ w3, Below w.heap.size w w3 → Calls Try.prog 63 #[.agg #[.string x.i, .int .i64 x.n]] w3 fun e w4 => e = .returned (.agg #[.string x.i, .int .i64 x.n]) ∧ Hid (Calls Try.prog 68 #[.slice a L.length cap, .int .i64 (pos L (key x)), .slice (some ⟨w4.heap.size, 0, none⟩) 1 1] (w4.alloc (.cells #[.string x.i, .int .i64 x.n] 43)) fun e w5 => ∃ v', e = .returned v' ∧ Hid (AdP B (.slice a L.length cap) L x w (.returned (.tuple #[v', .int .i64 0])) w5))) := fun w3 hb3 => by
          refine (xapart x hx w3).mono ?_
          rintro e w4 ⟨rfl, hb4⟩
          have h4 : Below w.heap.size w w4 := hb3.trans (hb4.mono hb3.size)
          have h4a : Below w.heap.size w (w4.alloc (.cells (lcs x).toArray 43)) := h4.alloc h4.size _
          refine ⟨rfl, ?_⟩
          refine (xins (x := x) ((own_below h h4).alloc _) (pos_le L (key x)) hll (Bx.new w4 _ _) (fun e => by have := (h.lt _ e.symm).2; have := h4.size; omega) (Nat.le_trans hB h4a.size)).mono ?_
          rintro e w5 ⟨v', rfl, hz⟩
          obtain ⟨ho, hg, hat⟩ := hz.out
          refine ⟨v', rfl, .inl ⟨hE, v', rfl, ?_, ?_, ?_⟩⟩
          · show World.ownsRow _ B 43 2 _ (addL L x).length (rcs lcs (addL L x))
            rw [hM]
            have : (L.take (pos L (key x)) ++ x :: L.drop (pos L (key x))).length = L.length + 1 := by
              have := pos_le L (key x)
              simp
              omega
            rw [this]
            exact ho
          · exact grown_trans (grown_below h4a (Nat.le_refl _) _) hg
          · rcases hat with e | e
            · exact .inl e
            · exact .inr ⟨_, e, h4a.size⟩
        rw [hh] at HS
        clear h g hB hx hr hcap hw1 hX1 hq hE hb1 hh hq0 hf hM
        generalize pos L (key x) = P at *
        obtain ⟨i, n⟩ := x
        simp only at *
        go_enter Try.func41, Try.ntmps41
        go_upto_region 1 with fail
        rw [HW.out]
        clear HW
        go_wp2_with (first | (go_at_call 66; refine HS.out.mono ?_; clear HS c0 c1; rintro e w2 ⟨rfl, d0, d1, HB2⟩) | (go_at_call 39; refine (HG.out _).mono ?_; rintro e w3 ⟨rfl, rfl⟩) | (go_at_call 63; refine (HI.out _ HB2.out).mono ?_; clear HI; rintro e w4 ⟨rfl, HC4⟩) | (go_at_call 68; refine HC4.out.mono ?_; clear HC4; rintro e w5 ⟨v', rfl, HZ⟩))
        go_ret2
        exact HZ.out
  · rw [decide_eq_false hq] at HG
    have hE : addE L x = 1 := addE_arg hq
    have HF : Hid (∀ W, Below w.heap.size w W → AdP B (.slice a L.length cap) L x w (.returned (.tuple #[.slice none 0 0, .int .i64 1])) W) := fun W hb => .inr ⟨by rw [hE]; decide, by rw [hE]; rfl, hb⟩
    clear h g hB hx hr hcap hw1 hX1 hq hE hb1
    generalize has L (key x) = b at *
    generalize pos L (key x) = P at *
    obtain ⟨i, n⟩ := x
    simp only at *
    go_enter Try.func41, Try.ntmps41
    go_upto_region 1 with fail
    rw [HW.out]
    clear HW
    go_wp2_with (first | (go_at_call 66; refine HS.out.mono ?_; clear HS c0 c1; rintro e w2 ⟨rfl, d0, d1, HB2⟩) | (go_at_call 39; refine (HG.out _).mono ?_; rintro e w3 ⟨rfl, rfl⟩))
    go_ret2
    exact HF.out _ HB2.out
end Go.Proofs.Ytheikjjehidagaa
