/- layer 17: a lot put behind others, or in its place -/
import Derived.Test.YtheikjjehidagaaNC
import Derived.WalkKit
import Derived.ProofKit
import Derived.Handy
import Derived.WalkLawsBesides
import Derived.WalkSpells
import Derived.BigQuiet
import Derived.BigCall
import Derived.Deep.QuietTactic
import Derived.Deep.Light
import Derived.Deep.OwnRows
import Derived.Laws.AppendOwnNone
import Derived.Laws.Strings3
import Derived.Laws.RangeAny
import Derived.Deep.RegionWith
import Derived.Lib.BitFns
import Derived.Lib.Walk
import Derived.Lib.Strings
import Derived.Lib.OthersKept
import Derived.Deep.CutBlock
import Derived.Deep.DeepCutAuto
import Derived.Deep.LoopGhost
import Derived.Deep.RegionHeld3
import Derived.Lib.SmallJoins
import Derived.Maps.AppendAt
import Derived.Laws.IdiomStrings
import Derived.Lib.AppendZeros
import Derived.Deep.WholeRow
import Derived.Laws.BitsAllLaws
import Derived.Lib.ConvBytes
import Derived.Deep.RegionLaw
import Derived.Maps.OwnSet
import Derived.Maps.OwnOps
import Derived.Maps.RangeWalk
import Derived.Maps.Ext
import Derived.DeepKeys4
import Derived.Laws.StructEq
import Derived.Deep.MidRow
import Derived.Lib.Bytealg
import Derived.Lib.AppendZerosOnto
import Derived.Laws.MakeOwn
import Derived.Deep.Upon
import Derived.Sort.KeysCollected
namespace Go.Proofs.Ytheikjjehidagaa
open Go.RowKit
set_option linter.unusedVariables false
set_option linter.unusedSimpArgs false
set_option maxRecDepth 20000
abbrev Ol (B : Nat) (w : World) (v : Value) (L : List Lt) : Prop := w.ownsRow B 43 2 v L.length (rcs lcs L)
theorem Ol.read {B : Nat} {w : World} {v : Value} {L : List Lt} (h : Ol B w v L) : ∃ a cap, v = .slice a L.length cap ∧ L.length ≤ cap ∧ Rw 2 lcs w a L := own_rw lcs_len h rfl
/-- a list behind a change -/
structure Gw (B : Nat) (w : World) (v : Value) (w' : World) (v' : Value) (M : List Lt) : Prop where
  o : Ol B w' v' M
  g : w.grownBy w' v.ownBlock
  a : v'.ownBlock = v.ownBlock ∨ ∃ g, v'.ownBlock = some g ∧ w.heap.size ≤ g
theorem grown_below {w w' : World} {B : Nat} (h : Below B w w') (hB : w.heap.size ≤ B) (r : Option Nat) : w.grownBy w' r := ⟨h.os, h.tape, h.output, h.size, fun k hk _ => h.block k (by omega)⟩
theorem Gw.same {B : Nat} {w w' : World} {v : Value} {L : List Lt} (h : Ol B w v L) (hb : Below w.heap.size w w') : Gw B w v w' v L := ⟨own_below h hb, grown_below hb (Nat.le_refl _) _, .inl rfl⟩
theorem Gw.below {B : Nat} {w w' : World} {v v' : Value} {L M : List Lt} (h : Gw B w v w' v' M) (ho : Ol B w v L) (hB : B ≤ w.heap.size) : Below B w w' := by
  refine ⟨h.g.os, h.g.tape, h.g.output, h.g.size, fun k hk => h.g.block k (by omega) (fun e => ?_)⟩
  have := ho.lt _ e.symm
  omega
def PuP (B : Nat) (v : Value) (M : List Lt) (w : World) (e : Ending) (w' : World) : Prop := ∃ v', e = .returned v' ∧ Hid (Gw B w v w' v' M)
theorem ap_lot {B : Nat} {w : World} {v : Value} {L : List Lt} (h : Ol B w v L) (hB : B ≤ w.heap.size) (hl : L.length ≤ 1000000) (x : Lt) {W : World} (hb : Below w.heap.size w W) :
    ∃ v' w6, (Builtin.append_ #[22, 22] 22 #[v, .slice (some ⟨W.heap.size, 0, none⟩) 1 1]).run Try.prog (W.alloc (.cells #[.string x.i, .int .i64 x.n] 43)) = .ok v' w6 ∧ Hid (Gw B w v w6 v' (L ++ [x])) := by
  have hO := own_below h hb
  obtain ⟨i0, hi, hz0, hz1, hz2⟩ := info_parts info43
  obtain ⟨v', w', hr, ho, hgr, _, hat⟩ := run_append_own_at (P := Try.prog) (w := W.alloc (.cells (lcs x).toArray 43)) B 22 22 43 i0 _ 2 24 Try.underlying22 hi hz0 hz1 hz2 rfl (by omega) v _ _ (hO.alloc _) ⟨W.heap.size, 0, none⟩ 1 1 (lcs x) rfl (cell_new (cs := lcs x)) (lcs_one x) (by unfold maxLen; omega) (by omega) (by have := hb.size; simp; omega)
  refine ⟨v', w', hr, ?_, ?_, ?_⟩
  · show w'.ownsRow B 43 2 v' (L ++ [x]).length _
    rw [rcs_snoc, List.length_append]
    exact ho
  · exact grown_trans (grown_below (hb.alloc hb.size _) (Nat.le_refl _) _) hgr
  · rcases hat with e | e
    · exact .inl e
    · exact .inr ⟨_, e, by have := hb.size; simp; omega⟩
set_option maxHeartbeats 4000000 in
theorem xput {B : Nat} {w : World} {v : Value} {L : List Lt} (h : Ol B w v L) (hB : B ≤ w.heap.size) (hl : L.length ≤ 1000000) (x : Lt) (hx : x.i.size ≤ 281474976710656) : Calls Try.prog 45 #[v, .agg #[.string x.i, .int .i64 x.n]] w (PuP B v (if 0 < x.n then L ++ [x] else L) w) := by
  obtain ⟨a, cap, rfl, hcap, hr⟩ := h.read
  obtain ⟨w1, hw1⟩ : ∃ w1, w1 = w.alloc (.cells #[.string x.i, .int .i64 x.n] 43) := ⟨_, rfl⟩
  have HW : Hid (w.alloc (.cells #[.string x.i, .int .i64 x.n] 43) = w1) := hw1.symm
  have hb1 : Below w.heap.size w w1 := by rw [hw1]; exact (Below.refl _ w).alloc (Nat.le_refl _) _
  have hX1 : Bx w1 w.heap.size #[.string x.i, .int .i64 x.n] 43 := by rw [hw1]; exact Bx.new w _ _
  have c0 : w1.cell? ⟨w.heap.size, 0, none⟩ = some (.string x.i) := hX1.cell 0
  have c1 : w1.cell? ⟨w.heap.size, 1, none⟩ = some (.int .i64 x.n) := hX1.cell 1
  by_cases hn : 0 < x.n
  · have hnz : ¬ x.n ≤ 0 := by omega
    rw [if_pos hn]
    have HA : Hid (Calls Try.prog 63 #[.agg #[.string x.i, .int .i64 x.n]] w1 (ApP x w1)) := xapart x hx w1
    have HK : Hid (∀ w5, Below w1.heap.size w1 w5 → ∃ v' w6, (Builtin.append_ #[22, 22] 22 #[.slice a L.length cap, .slice (some ⟨w5.heap.size, 0, none⟩) 1 1]).run Try.prog (w5.alloc (.cells #[.string x.i, .int .i64 x.n] 43)) = .ok v' w6 ∧ Hid (Gw B w (.slice a L.length cap) w6 v' (L ++ [x]))) := fun w5 hb5 => ap_lot h hB hl x (hb1.trans (hb5.mono hb1.size))
    clear h hB hl hx hw1 hX1 hr hcap hb1 hn
    obtain ⟨i, n⟩ := x
    simp only at *
    go_enter Try.func45, Try.ntmps45
    go_upto_region 1 with fail
    rw [HW.out]
    clear HW
    go_wp2_with (first | (go_at_call 63; refine HA.out.mono ?_; clear HA; rintro e w5 ⟨rfl, hb5⟩; obtain ⟨v', w6, hr6, HZ⟩ := HK.out w5 hb5; clear hb5 HK c0 c1) | (at_builtin; refine Lib.wpList_append_run _ rfl _ _ 22 22 rfl _ _ rfl rfl _ w6 hr6 ?_))
    go_ret
    exact ⟨_, rfl, HZ.out⟩
  · have hnz : x.n ≤ 0 := by omega
    rw [if_neg hn]
    have HF : Hid (Gw B w (.slice a L.length cap) w1 (.slice a L.length cap) L) := Gw.same h hb1
    clear h hB hl hx hw1 hX1 hr hcap hb1 hn
    obtain ⟨i, n⟩ := x
    simp only at *
    go_enter Try.func45, Try.ntmps45
    go_upto_region 1 with fail
    rw [HW.out]
    clear HW
    go_wp2_with fail
    go_ret
    exact ⟨_, rfl, HF.out⟩
theorem rcs_take_eq {α : Type} (f : α → List Value) (k : Nat) (hk : ∀ x, (f x).length = k) : ∀ (L : List α) (i : Nat), i ≤ L.length → rcs f (L.take i) = (rcs f L).take (i * k) ∧ rcs f (L.drop i) = (rcs f L).drop (i * k)
  | L, 0, _ => by simp [rcs]
  | [], i + 1, h => by simp at h
  | x :: r, i + 1, h => by
    obtain ⟨h1, h2⟩ := rcs_take_eq f k hk r i (by simpa using h)
    have e : rcs f (x :: r) = f x ++ rcs f r := rfl
    have hx : (i + 1) * k = (f x).length + i * k := by rw [hk, Nat.add_mul]; omega
    constructor
    · rw [List.take_succ_cons, show rcs f (x :: r.take i) = f x ++ rcs f (r.take i) from rfl, h1, e, hx, List.take_length_add_append]
    · rw [List.drop_succ_cons, h2, e, hx, List.drop_length_add_append]
theorem rcs_ins {L : List Lt} {i : Nat} (h : i ≤ L.length) (x : Lt) : rcs lcs (L.take i ++ x :: L.drop i) = (rcs lcs L).take (i * 2) ++ lcs x ++ (rcs lcs L).drop (i * 2) := by
  obtain ⟨h1, h2⟩ := rcs_take_eq lcs 2 lcs_len L i h
  rw [← h1, ← h2]
  simp [rcs]
theorem xins {B i vb : Nat} {v : Value} {L : List Lt} {x : Lt} {w : World} (h : Ol B w v L) (hi : i ≤ L.length) (hl : L.length ≤ 1000000) (hv : Bx w vb (lcs x).toArray 43) (hvb : some vb ≠ v.ownBlock) (hB : B ≤ w.heap.size) :
    Calls Try.prog 68 #[v, .int .i64 i, .slice (some ⟨vb, 0, none⟩) 1 1] w (InP B L.length v (rcs lcs (L.take i ++ x :: L.drop i)) w) := by
  rw [rcs_ins hi x]
  have h0 := h
  rcases h.2 with ⟨rfl, hn⟩ | ⟨g, cap, cur, rfl, _, hg, hnc, _⟩
  · obtain rfl : L = [] := List.length_eq_zero_iff.1 hn
    obtain rfl : i = 0 := by simpa using hi
    have := xins_nil h (lcs_len x) (lcs_one x) hv hB
    simpa [rcs] using this
  · rcases Nat.lt_or_eq_of_le hi with hi | rfl
    · rcases Nat.lt_or_ge L.length cap with hc | hc
      · exact xins_room h0 hi hc (lcs_len x) (lcs_one x) (lcells_one L) hv (fun e => hvb (by rw [e]; rfl)) hl
      · exact xins_grow h0 hi (by omega) (lcs_len x) (lcs_one x) (lcells_one L) hv hl hB
    · have := xins_end h0 hnc (lcs_len x) (lcs_one x) hv hl hB
      have e1 : (rcs lcs L).take (L.length * 2) = rcs lcs L := List.take_of_length_le (Nat.le_of_eq h.1)
      have e2 : (rcs lcs L).drop (L.length * 2) = [] := List.drop_eq_nil_of_le (Nat.le_of_eq h.1)
      rw [e1, e2, List.append_nil]
      exact this
theorem rcs_lot_len : ∀ M : List Lt, (rcs lcs M).length = M.length * 2
  | [] => rfl
  | x :: r => by
    have e : rcs lcs (x :: r) = lcs x ++ rcs lcs r := rfl
    rw [e, List.length_append, rcs_lot_len r, lcs_len, List.length_cons]
    omega
theorem lc_set {L : List Lt} {i : Nat} (hi : i < L.length) (p : Int) : rcs lcs (L.set i ⟨L[i].i, p⟩) = (rcs lcs L).set (i * 2 + 1) (.int .i64 p) := by
  apply List.ext_getElem?
  intro m
  by_cases hm : m < L.length * 2
  · have h1 : m / 2 < L.length := by omega
    have h2 : m % 2 < 2 := by omega
    have hm2 : m = m / 2 * 2 + m % 2 := by omega
    have e1 := flat_at lcs 2 lcs_len (L.set i ⟨L[i].i, p⟩) (m / 2) (by simpa using h1) (m % 2) h2
    have e2 := flat_at lcs 2 lcs_len L (m / 2) h1 (m % 2) h2
    rw [← hm2] at e1 e2
    have e1' : (rcs lcs (L.set i ⟨L[i].i, p⟩))[m]? = _ := e1
    have e2' : (rcs lcs L)[m]? = _ := e2
    rw [e1', List.getElem?_set, List.getElem_set]
    by_cases e : i = m / 2
    · rw [if_pos e]
      have e3 : L[m / 2] = L[i] := by congr 1; exact e.symm
      by_cases e4 : m % 2 = 1
      · rw [if_pos (by omega), if_pos (by rw [rcs_lot_len]; omega), e4]
        rfl
      · rw [if_neg (by omega), e2', e3]
        have h : m % 2 = 0 := by omega
        rw [h]
        rfl
    · rw [if_neg e, if_neg (by omega), e2']
  · rw [List.getElem?_eq_none (by rw [rcs_lot_len, List.length_set]; omega), List.getElem?_eq_none (by rw [List.length_set, rcs_lot_len]; omega)]
theorem own_setN {w : World} {B g n cap : Nat} {L : List Lt} (h : w.ownsRow B 43 2 (.slice (some ⟨g, 0, none⟩) n cap) L.length (rcs lcs L)) {i : Nat} (hi : i < L.length) (p : Int) : (w.setCell ⟨g, i * 2 + 1, none⟩ (.int .i64 p)).ownsRow B 43 2 (.slice (some ⟨g, 0, none⟩) n cap) L.length (rcs lcs (L.set i ⟨L[i].i, p⟩)) := by
  rw [lc_set hi]
  refine ⟨by rw [List.length_set]; exact h.1, ?_⟩
  rcases h.2 with ⟨hbad, _⟩ | ⟨g', cap', cur, hv, hB, hg, h4, h5, h6, h7⟩
  · cases hbad
  · injection hv with e1 e2 e3
    injection e1 with e1
    injection e1 with e1
    subst e1 e3
    refine .inr ⟨g, cap, cur.setIfInBounds (i * 2 + 1) (.int .i64 p), by rw [e2], hB, ?_, h4, h5, ?_, ?_⟩
    · exact Bx.setc (cs := cur) (T := 43) hg _ _
    · simpa using h6
    · rw [Array.toList_setIfInBounds, List.take_set, h7]
theorem own_froz {w : World} {B e k n : Nat} {g cap : Nat} {cs : List Value} (ho : w.ownsRow B e k (.slice (some ⟨g, 0, none⟩) n cap) n cs) (i : Nat) : w.frozen? ⟨g, i, none⟩ = false := by
  rcases ho.2 with ⟨h, _⟩ | ⟨g', cap', cur, hv, _, hg, _⟩
  · cases h
  · injection hv with h1 h2 h3
    injection h1 with h1
    injection h1 with h1
    subst h1
    simp [World.frozen?, hg]
/-- what comes of one put in its place -/
def AdP (B : Nat) (v : Value) (L : List Lt) (x : Lt) (w : World) (e : Ending) (w' : World) : Prop := (addE L x = 0 ∧ ∃ v', e = .returned (.tuple #[v', .int .i64 0]) ∧ Hid (Gw B w v w' v' (addL L x))) ∨ (addE L x ≠ 0 ∧ e = .returned (.tuple #[.slice none 0 0, .int .i64 (addE L x)]) ∧ Below w.heap.size w w')
theorem addE_arg {L : List Lt} {x : Lt} (h : ¬ okq x.n) : addE L x = 1 := by unfold addE; rw [if_neg h]
theorem addE_full {L : List Lt} {x : Lt} (h : okq x.n) (h1 : qty L (key x) = 0) (h2 : 64 ≤ L.length) : addE L x = 2 := by unfold addE; rw [if_pos h, if_pos ⟨h1, h2⟩]
theorem addE_over {L : List Lt} {x : Lt} (h : okq x.n) (h1 : qty L (key x) ≠ 0) (h2 : x.n > 1125899906842624 - qty L (key x)) : addE L x = 9 := by unfold addE; rw [if_pos h, if_neg (fun k => h1 k.1), if_pos h2]
theorem qty_pos {L : List Lt} (g : Good L) {s : List UInt8} (h : has L s = true) (hp : pos L s < L.length) : qty L s = L[pos L s].n := by
  obtain ⟨hp2, e⟩ := has_pos g.srt h
  have := qty_mem g.srt L[pos L s] (List.getElem_mem hp)
  rw [e] at this
  exact this
theorem addL_upd {L : List Lt} (g : Good L) {x : Lt} (h : has L (key x) = true) (hp : pos L (key x) < L.length) : addL L x = L.set (pos L (key x)) ⟨L[pos L (key x)].i, L[pos L (key x)].n + x.n⟩ := by
  have e1 := setR_upd (m := ⟨x.i, qty L (key x) + x.n⟩) g.srt h
  obtain ⟨_, e⟩ := has_pos g.srt h
  have e2 : L[pos L (key x)].i = x.i := tl_inj e
  unfold addL
  rw [e1, e2, qty_pos g h hp]
  rfl
theorem addL_ins {L : List Lt} (g : Good L) {x : Lt} (h : has L (key x) = false) : addL L x = L.take (pos L (key x)) ++ x :: L.drop (pos L (key x)) := by
  have e1 := setR_ins (m := ⟨x.i, qty L (key x) + x.n⟩) g.srt h
  unfold addL
  rw [e1, qty_no (not_has h), Int.zero_add]
end Go.Proofs.Ytheikjjehidagaa
