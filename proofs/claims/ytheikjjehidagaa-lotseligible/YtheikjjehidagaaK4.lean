/- layer 17: lists one behind the other; Plus of the program -/
import Derived.Test.YtheikjjehidagaaK6
import Derived.Test.YtheikjjehidagaaMQ
import Derived.WalkKit
import Derived.ProofKit
import Derived.Handy
import Derived.WalkLawsBesides
import Derived.WalkSpells
import Derived.BigQuiet
import Derived.BigCall
import Derived.Deep.QuietTactic
import Derived.Deep.Light
import Derived.Deep.OwnRows
import Derived.Laws.AppendOwnNone
import Derived.Laws.Strings3
import Derived.Laws.RangeAny
import Derived.Deep.RegionWith
import Derived.Lib.BitFns
import Derived.Lib.Walk
import Derived.Lib.Strings
import Derived.Lib.OthersKept
import Derived.Deep.CutBlock
import Derived.Deep.DeepCutAuto
import Derived.Deep.LoopGhost
import Derived.Deep.RegionHeld3
import Derived.Lib.SmallJoins
import Derived.Maps.AppendAt
import Derived.Laws.IdiomStrings
import Derived.Lib.AppendZeros
import Derived.Deep.WholeRow
import Derived.Laws.BitsAllLaws
import Derived.Lib.ConvBytes
import Derived.Deep.RegionLaw
import Derived.Maps.OwnSet
import Derived.Maps.OwnOps
import Derived.Maps.RangeWalk
import Derived.Maps.Ext
import Derived.DeepKeys4
import Derived.Laws.StructEq
import Derived.Deep.MidRow
import Derived.Lib.Bytealg
import Derived.Lib.AppendZerosOnto
import Derived.Laws.MakeOwn
import Derived.Deep.Upon
import Derived.Sort.KeysCollected
namespace Go.Proofs.Ytheikjjehidagaa
open Go.RowKit
set_option linter.unusedVariables false
set_option linter.unusedSimpArgs false
set_option maxRecDepth 20000
theorem rcs_app {α : Type} (f : α → List Value) (xs ys : List α) : rcs f (xs ++ ys) = rcs f xs ++ rcs f ys := by
  unfold rcs
  rw [List.map_append, List.flatten_append]
theorem ap_none {t ty e : TypeId} {i : TypeInfo} {size base : Nat} {w : World} (ht : Try.prog.underlying t = some (.slice e)) (hi : Try.prog.info? e = some i) (v : Value) (n c : Nat) (xs : List Value) (hown : w.ownsRow base e size v n xs) :
    (Builtin.append_ #[t, t] ty #[v, .slice none 0 c]).run Try.prog w = .ok v w := by
  rcases hown.2 with ⟨rfl, rfl⟩ | ⟨g, cap, cur, rfl, _, _, hnc, _⟩
  · simp [Builtin.append_, run_underlying ht, sizeOf, typeInfo, hi, Builtin.lenOf, Builtin.firstCells]
  · simp [Builtin.append_, run_underlying ht, sizeOf, typeInfo, hi, Builtin.lenOf, Builtin.firstCells, hnc, storeCells]
/-- append of a list to an own one -/
theorem ap_rows {B : Nat} {w : World} {v : Value} {L xs : List Lt} (h : Ol B w v L) (hB : B ≤ w.heap.size) {a : Option Addr} (cap : Nat) (h2 : Rw 2 lcs w a xs) (hl : L.length + xs.length ≤ 1000000) :
    ∃ v' w', (Builtin.append_ #[22, 22] 22 #[v, .slice a xs.length cap]).run Try.prog w = .ok v' w' ∧ Gw B w v w' v' (L ++ xs) := by
  obtain ⟨i0, hi, hz0, hz1, hz2⟩ := info_parts info43
  cases a with
  | none =>
    have : xs = [] := by
      apply Classical.byContradiction
      intro hn
      obtain ⟨_, _, e, _⟩ := h2 (List.length_pos_iff.2 hn)
      cases e
    subst this
    refine ⟨v, w, ap_none Try.underlying22 hi v _ cap _ h, ?_, ⟨rfl, rfl, rfl, Nat.le_refl _, fun _ _ _ => rfl⟩, .inl rfl⟩
    rw [List.append_nil]
    exact h
  | some ad =>
    obtain ⟨v', w', hr, ho, hgr, _, hat⟩ := run_append_own_at (P := Try.prog) (w := w) B 22 22 43 i0 _ 2 24 Try.underlying22 hi hz0 hz1 hz2 rfl (by omega) v _ _ h ad xs.length cap (rcs lcs xs) (rcs_lot_len xs) (fun j u hj => by
      have h0 : 0 < xs.length := by
        rcases Nat.eq_zero_or_pos xs.length with e | e
        · rw [List.length_eq_zero_iff.1 e] at hj; simp [rcs] at hj
        · exact e
      obtain ⟨blk, off, e1, _, hc⟩ := h2 h0
      injection e1 with e1
      subst e1
      have hjl : j < xs.length * 2 := by
        rw [← rcs_lot_len]
        exact (List.getElem?_eq_some_iff.1 hj).1
      have h1 := flat_at lcs 2 lcs_len xs (j / 2) (by omega) (j % 2) (by omega)
      have h3 := hc (j / 2) (by omega) (j % 2) (by omega)
      rw [show j / 2 * 2 + j % 2 = j by omega] at h1
      rw [show off + j / 2 * 2 + j % 2 = off + j by omega] at h3
      have e : (⟨blk, off, none⟩ : Addr).add j = ⟨blk, off + j, none⟩ := Addr.add_lit ..
      rw [e, h3, ← h1]
      exact hj) (lcells_one xs) (by unfold maxLen; omega) (by omega) hB
    refine ⟨v', w', hr, ?_, hgr, ?_⟩
    · show w'.ownsRow B 43 2 v' (L ++ xs).length _
      rw [rcs_app, List.length_append]
      exact ho
    · rcases hat with e | e
      · exact .inl e
      · exact .inr ⟨_, e, Nat.le_refl _⟩
def GrP (w : World) (e : Ending) (w' : World) : Prop := ∃ v, e = .returned v ∧ Hid (Ol w.heap.size w' v [] ∧ Below w.heap.size w w')
set_option maxHeartbeats 4000000 in
set_option maxRecDepth 100000 in
theorem xgrow (n : Nat) (hn2 : n ≤ 1000000) (w : World) : Calls Try.prog 69 #[.slice none 0 0, .int .i64 n] w (GrP w) := by
  by_cases hn : 0 < n
  · have h0 : ¬ (n : Int) < 0 := by omega
    have h1 : (0 : Int) < (n : Int) := by omega
    obtain ⟨i0, hi, hz0, hz1, hz2⟩ := info_parts info43
    have hr : ∀ w, _ := fun w => Lib.run_append_nil_zeros (P := Try.prog) w 22 3 22 43 i0 _ .i64 .i64 Try.underlying22 Try.underlying3 hi hz0 n hn (by rw [hz1]; omega) (by omega) (by rw [hz2]; omega)
    have hc : ∀ w, grownCap w n 0 43 ≤ maxLen := fun w => grownCap_le_maxLen w n 0 43 (by unfold maxLen; omega)
    have hge : ∀ w, n ≤ grownCap w n 0 43 := fun w => grownCap_ge w n 0 43
    have HR : Hid (∀ w, ∃ (cap : Nat) (w' : World), (Builtin.append_ #[22, 3] 22 #[.slice none 0 0, .int .i64 n]).run Try.prog w = .ok (.slice (some ⟨w.heap.size, 0, none⟩) n cap) w' ∧ n ≤ cap ∧ w'.ownsRow w.heap.size 43 2 (.slice (some ⟨w.heap.size, 0, none⟩) 0 cap) 0 [] ∧ Below w.heap.size w w') := by
      intro w
      refine ⟨_, _, hr w, hge w, ?_, ?_⟩
      · refine World.ownsRow_made w.drew _ _ (Nat.le_refl _) (hc w) ?_
        rw [Array.size_append, size_zeroCells, size_zeroCells]
        show n * 2 + (_ - n) * 2 = _ * 2
        have := hge w
        omega
      · exact (show Below w.heap.size w w.drew from ⟨rfl, rfl, rfl, Nat.le_refl _, fun _ _ => rfl⟩).alloc (Nat.le_refl _) _
    clear hi hz0 hz1 hz2 hr hc hge
    obtain ⟨cap, w', hr, hcap, ho, hb⟩ := HR.out w
    have HF : Hid (GrP w (.returned (.slice (some ⟨w.heap.size, 0, none⟩) 0 cap)) w') := ⟨_, rfl, ho, hb⟩
    clear ho hb HR
    go_enter Try.func69, Try.ntmps69
    go_wp2_with (at_builtin; refine Lib.wpList_append_run _ rfl _ _ 22 3 rfl _ _ rfl rfl _ w' hr ?_)
    go_ret
    exact HF.out
  · obtain rfl : n = 0 := by omega
    have HF : Hid (GrP w (.returned (.slice none 0 0)) w) := ⟨_, rfl, World.ownsRow_nil _ _ _ _, Below.refl _ _⟩
    go_enter Try.func69, Try.ntmps69
    go_wp2_with fail
    go_ret
    exact HF.out
def CcP (zs : List Lt) (w : World) (e : Ending) (w' : World) : Prop := ∃ v, e = .returned v ∧ Hid (Ol w.heap.size w' v zs ∧ Below w.heap.size w w')
set_option maxHeartbeats 4000000 in
set_option maxRecDepth 100000 in
theorem xconcat (p T : Nat) (a1 : Option Addr) (c1 : Nat) (a2 : Option Addr) (c2 : Nat) (xs ys : List Lt) (w : World) (hp : Bx w p #[.slice a1 xs.length c1, .slice a2 ys.length c2] T) (h1 : Rw 2 lcs w a1 xs) (h2 : Rw 2 lcs w a2 ys) (hl : xs.length + ys.length ≤ 1000000) :
    Calls Try.prog 42 #[.slice (some ⟨p, 0, none⟩) 2 2] w (CcP (xs ++ ys) w) := by
  have H1 : Hid (Rw 2 lcs w a1 xs) := h1
  have H2 : Hid (Rw 2 lcs w a2 ys) := h2
  have hpl : p < w.heap.size := hp.lt
  have k1 : w.cell? ⟨p, 0, none⟩ = some (.slice a1 xs.length c1) := hp.cell 0
  have k2 : w.cell? ⟨p, 1, none⟩ = some (.slice a2 ys.length c2) := hp.cell 1
  have HL : Hid (xs.length + ys.length ≤ 1000000) := hl
  clear h1 h2 hp
  go_enter Try.func42, Try.ntmps42
  go_wp2_with fail
  go_loopw [3, 11] (fun v i wr => ∃ (k n : Nat), i = .int .i64 k ∧ v = .int .i64 n ∧ w = wr ∧ Hid ((k = 0 ∧ n = 0) ∨ (k = 1 ∧ n = xs.length) ∨ (k = 2 ∧ n = xs.length + ys.length))) (fun _ i _ => 2 - (Lib.intOf i).toNat)
  case atStart => exact ⟨0, 0, rfl, rfl, by first | rfl | trivial, .inl ⟨rfl, rfl⟩⟩
  case round =>
    obtain ⟨k, n, rfl, rfl, rfl, hc⟩ := hrel
    rcases hc.out with ⟨rfl, rfl⟩ | ⟨rfl, rfl⟩ | ⟨rfl, rfl⟩
    · clear hc
      have q : ¬ (xs.length : Int) < 0 := by omega
      go_wp2_with fail
      exact ⟨⟨1, xs.length, rfl, by go_num, by first | rfl | trivial, .inr (.inl ⟨rfl, rfl⟩)⟩, by simp [Lib.intOf]⟩
    · clear hc
      have q : ¬ (xs.length : Int) + (ys.length : Int) < 0 := by omega
      go_wp2_with fail
      exact ⟨⟨2, xs.length + ys.length, rfl, by rw [Int.natCast_add], by first | rfl | trivial, .inr (.inr ⟨rfl, rfl⟩)⟩, by simp [Lib.intOf]⟩
    · clear hc
      go_wp2_with fail
      refine (xgrow (xs.length + ys.length) hl _).mono ?_
      rintro e w1 ⟨v1, rfl, HO1⟩
      go_wp2_with fail
      go_loopw [6, 27] (fun v i wr => ∃ (k : Nat) (zs : List Lt), i = .int .i64 k ∧ Hid (Ol w.heap.size wr v zs ∧ Below w.heap.size w wr) ∧ Hid ((k = 0 ∧ zs = []) ∨ (k = 1 ∧ zs = xs) ∨ (k = 2 ∧ zs = xs ++ ys))) (fun _ i _ => 2 - (Lib.intOf i).toNat)
      case atStart => exact ⟨0, [], rfl, HO1, .inl ⟨rfl, rfl⟩⟩
      case round =>
        clear HO1
        obtain ⟨k, zs, rfl, HO, hc⟩ := hrel
        have m1 : wr.cell? ⟨p, 0, none⟩ = some (.slice a1 xs.length c1) := (HO.out.2.cell (by exact hpl)).trans k1
        have m2 : wr.cell? ⟨p, 1, none⟩ = some (.slice a2 ys.length c2) := (HO.out.2.cell (by exact hpl)).trans k2
        have hsz := HO.out.2.size
        rcases hc.out with ⟨rfl, rfl⟩ | ⟨rfl, rfl⟩ | ⟨rfl, rfl⟩
        · clear hc
          obtain ⟨v', w2, hr, hg⟩ := ap_rows HO.out.1 hsz c1 (H1.out.below HO.out.2) (by have := HL.out; simp; omega)
          have HO2 : Hid (Ol w.heap.size w2 v' xs ∧ Below w.heap.size w w2) := ⟨hg.o, HO.out.2.trans (hg.below HO.out.1 hsz)⟩
          clear hg HO
          go_wp2_with (at_builtin; refine Lib.wpList_append_run _ rfl _ _ 22 22 rfl _ _ rfl rfl _ w2 hr ?_)
          exact ⟨⟨1, xs, rfl, HO2, .inr (.inl ⟨rfl, rfl⟩)⟩, by simp [Lib.intOf]⟩
        · clear hc
          obtain ⟨v', w2, hr, hg⟩ := ap_rows HO.out.1 hsz c2 (H2.out.below HO.out.2) (by have := HL.out; omega)
          have HO2 : Hid (Ol w.heap.size w2 v' (zs ++ ys) ∧ Below w.heap.size w w2) := ⟨hg.o, HO.out.2.trans (hg.below HO.out.1 hsz)⟩
          clear hg HO
          go_wp2_with (at_builtin; refine Lib.wpList_append_run _ rfl _ _ 22 22 rfl _ _ rfl rfl _ w2 hr ?_)
          exact ⟨⟨2, _, rfl, HO2, .inr (.inr ⟨rfl, rfl⟩)⟩, by simp [Lib.intOf]⟩
        · clear hc
          go_wp2_with fail
          go_ret
          exact ⟨_, rfl, HO⟩
set_option maxHeartbeats 4000000 in
theorem xplus (L b : List Lt) (gL : Good L) (hl : b.length ≤ 10000) (hs : ∀ x ∈ L ++ b, x.i.size ≤ 281474976710656) (a : Option Addr) (cap : Nat) (a2 : Option Addr) (cap2 : Nat) (w : World) (h : Rw 2 lcs w a L) (h2 : Rw 2 lcs w a2 b) : Calls Try.prog 15 #[.slice a L.length cap, .slice a2 b.length cap2] w (MgP L b w) := by
  have h64 := gL.len
  obtain ⟨w1, hw1⟩ : ∃ w1, w1 = w.alloc (.cells #[.slice a L.length cap, .slice a2 b.length cap2] 22) := ⟨_, rfl⟩
  have HW : Hid (w.alloc (.cells #[.slice a L.length cap, .slice a2 b.length cap2] 22) = w1) := hw1.symm
  have hb1 : Below w.heap.size w w1 := by rw [hw1]; exact (Below.refl _ w).alloc (Nat.le_refl _) _
  have hX : Bx w1 w.heap.size #[.slice a L.length cap, .slice a2 b.length cap2] 22 := by rw [hw1]; exact Bx.new w _ _
  have HC : Hid (Calls Try.prog 42 #[.slice (some ⟨w.heap.size, 0, none⟩) 2 2] w1 fun e w2 => ∃ a3 c3, e = .returned (.slice a3 (L ++ b).length c3) ∧ Hid (Calls Try.prog 11 #[.slice a3 (L ++ b).length c3] w2 fun e w3 => ∃ a4 c4, e = .returned (.tuple #[.slice a4 (mrg L b).1.length c4, .int .i64 (mrg L b).2]) ∧ Hid (MgP L b w (.returned (.tuple #[.slice a4 (mrg L b).1.length c4, .int .i64 (mrg L b).2])) w3))) := by
    refine (xconcat _ 22 a cap a2 cap2 L b w1 hX (h.below hb1) (h2.below hb1) (by omega)).mono ?_
    rintro e w2 ⟨v, rfl, HZ⟩
    obtain ⟨a3, c3, rfl, _, hr⟩ := Ol.read HZ.out.1
    refine ⟨a3, c3, rfl, (xmerge (L ++ b) (by simp; omega) hs a3 c3 w2 hr).mono ?_⟩
    rintro e w3 ⟨a4, c4, rfl, HM⟩
    rw [mrg_cat gL] at HM ⊢
    exact ⟨a4, c4, rfl, a4, c4, rfl, HM.out.1, (hb1.trans (HZ.out.2.mono hb1.size)).trans (HM.out.2.mono (by have := HZ.out.2.size; have := hb1.size; omega))⟩
  clear hw1 hX hb1 h h2 hs gL hl h64
  generalize (L ++ b).length = n at *
  go_enter Try.func15, Try.ntmps15
  go_upto_region 1 with fail
  go_wp2_with (first | (rw [HW.out]; fail) | (go_at_call 42; rw [HW.out]; refine HC.out.mono ?_; clear HC; rintro e w2 ⟨a3, c3, rfl, HC2⟩) | (go_at_call 11; refine HC2.out.mono ?_; clear HC2; rintro e w3 ⟨a4, c4, rfl, HZ⟩))
  go_ret2
  exact HZ.out
end Go.Proofs.Ytheikjjehidagaa

/- layer 17: quantities told; lots taken away, and what is in both, by the program -/
namespace Go.Proofs.Ytheikjjehidagaa
open Go.RowKit
set_option linter.unusedVariables false
set_option linter.unusedSimpArgs false
set_option maxRecDepth 20000
theorem below_a (w : World) (o : Obj) : Below w.heap.size w (w.alloc o) := (Below.refl _ w).alloc (Nat.le_refl _) _
theorem ol_nb {B : Nat} {w : World} {v : Value} {L : List Lt} (h : Ol B w v L) {w0 : World} {m n : Nat} {f : List UInt8 → Int} (q : Qm w0 w m f n) (hB : w0.heap.size ≤ B) : ∀ r, v.ownBlock = some r → r ≠ m ∧ w0.heap.size ≤ r := by
  intro r hr
  rcases h.2 with ⟨rfl, _⟩ | ⟨g, cap, cur, rfl, hg, hc, _⟩
  · cases hr
  · have e : g = r := by injection hr
    subst e
    obtain ⟨L', h1, _⟩ := q.h
    exact ⟨h1.nb hc, by omega⟩
def QnP (b : List Lt) (w : World) (e : Ending) (w' : World) : Prop := ∃ m, e = .returned (.map (some m)) ∧ Hid (Qm w w' m (qty b) b.length)
set_option maxHeartbeats 8000000 in
theorem xquant (b : List Lt) (gb : Good b) (hs : ∀ x ∈ b, x.i.size ≤ 281474976710656) (a : Option Addr) (cap : Nat) (w : World) (h : Rw 2 lcs w a b) : Calls Try.prog 44 #[.slice a b.length cap] w (QnP b w) := by
  have HE : Hid (Rw 2 lcs w a b) := h
  have HS : Hid (∀ x ∈ b, x.i.size ≤ 281474976710656) := hs
  have HGd : Hid (Good b) := gb
  have hlz : (b.length : Int) ≤ 64 := by have := gb.len; omega
  have hmm := @run_makeMap Try.prog
  clear h hs gb
  go_enter Try.func44, Try.ntmps44
  go_upto_region 2 with fail
  have HG0 : Hid (Qm w (w.alloc (.map #[] 0)) w.heap.size (qty (b.take 0)) 0) := (Qm.made (Below.refl _ w)).ext fun t => rfl
  clear hmm
  generalize w.alloc (.map #[] 0) = W2 at *
  generalize hmw : w.heap.size = m at *
  go_wp2_with fail
  go_loopw [9] (fun i wr => ∃ k : Nat, k ≤ b.length ∧ i = .int .i64 k ∧ Hid (Qm w wr m (qty (b.take k)) k))
    (fun i _ => b.length - (intOf i).toNat)
  case atStart => exact ⟨0, Nat.zero_le _, rfl, HG0.out⟩
  case round =>
    clear HG0
    obtain ⟨k, hk, rfl, HR⟩ := hrel
    by_cases hkn : k < b.length
    · have hkz : (k : Int) < (b.length : Int) := by omega
      obtain ⟨blk, off, rfl, hbl, hcs⟩ := HE.out (by omega)
      obtain ⟨c0, c1⟩ := Rw.at2 hcs HR.out.b hbl hkn
      obtain ⟨wa, hwa⟩ : ∃ wa, wr.alloc (.cells (lcs b[k]).toArray 43) = wa := ⟨_, rfl⟩
      have hXa : Bx wa wr.heap.size (lcs b[k]).toArray 43 := by rw [← hwa]; exact Bx.new _ _ _
      have hQ : Qm w wa m (qty (b.take k)) k := by rw [← hwa]; exact HR.out.below (below_a _ _)
      have hsz := HS.out _ (List.getElem_mem hkn)
      have hq0 := qty_take_at HGd.out.srt hkn
      have lk := hQ.look (s := b[k].i) hsz
      obtain ⟨W', hu, hQ2, _, _⟩ := hQ.put (s := b[k].i) hsz (qty (b.take k) (key b[k]) + b[k].n) (by have := HGd.out.len; omega)
      have HZ : Hid (Qm w W' m (qty (b.take (k + 1))) (k + 1)) := hQ2.ext fun t => q_add HGd.out.srt hkn t
      have d0 : wa.cell? ⟨wr.heap.size, 0, none⟩ = some (.string b[k].i) := hXa.cell 0
      have d1 : wa.cell? ⟨wr.heap.size, 1, none⟩ = some (.int .i64 b[k].n) := hXa.cell 1
      have hok := HGd.out.ok _ (List.getElem_mem hkn)
      have hki : b[k].i.toList = key b[k] := rfl
      rw [hki, hq0] at lk
      rw [hq0] at hu
      have hw1 : wrap64 (0 + b[k].n) = 0 + b[k].n := by unfold okq at hok; unfold wrap64; omega
      have hw2 : wrap64 b[k].n = b[k].n := by unfold okq at hok; unfold wrap64; omega
      rw [Int.zero_add] at hu
      clear hXa hQ hQ2 HR hsz hq0 hok hcs hki
      generalize b[k] = x at *
      obtain ⟨xi, xn⟩ := x
      simp only [lcs] at *
      go_upto_region 5 with fail
      try rw [hwa]
      clear hwa c0 c1
      go_wp2_with fail
      go_roundw
      case rel => exact ⟨k + 1, by omega, by simp, HZ.out⟩
      case measure => simp [intOf]; omega
    · have hkz : ¬ (k : Int) < (b.length : Int) := by omega
      have HF : Hid (QnP b w (.returned (.map (some m))) wr) := ⟨m, rfl, by
        have := HR.out
        rw [List.take_of_length_le (by omega)] at this
        rwa [show k = b.length by omega] at this⟩
      clear HR
      go_wp2_with fail
      go_ret
      exact HF.out
/-- what is left, lot by lot, in the map -/
structure MiR (a b : List Lt) (w wr : World) (m k : Nat) : Prop where
  q : Qm w wr m (fun t => qty a t - qty (b.take k) t) (a.length + k)
  k : ∀ j (h : j < k) (hb : j < b.length), b[j].n ≤ qty a (key b[j])
theorem MiR.bad {a b : List Lt} {w wr : World} {m k : Nat} (h : MiR a b w wr m k) (hk : k < b.length) (hb : qty a (key b[k]) < b[k].n) : mnL a b = [] ∧ mnE a b = 20 := by
  have : ¬ mnOk a b := fun hh => by have := hh _ (List.getElem_mem hk); omega
  unfold mnL mnE
  rw [if_neg this, if_neg this]
  exact ⟨rfl, rfl⟩
theorem MiR.all {a b : List Lt} {w wr : World} {m k : Nat} (h : MiR a b w wr m k) (hk : b.length ≤ k) : mnOk a b := fun x hx => by
  obtain ⟨j, hj, rfl⟩ := List.getElem_of_mem hx
  exact h.k j (by omega) hj
def MnP (a b : List Lt) (w : World) (e : Ending) (w' : World) : Prop := ∃ ad cap, e = .returned (.tuple #[.slice ad (mnL a b).length cap, .int .i64 (mnE a b)]) ∧ Hid (Rw 2 lcs w' ad (mnL a b) ∧ Below w.heap.size w w')
/-- a list that is picked out of another one, in the midst -/
structure PkR (g : Lt → Int) (a : List Lt) (w wr : World) (m n : Nat) (f : List UInt8 → Int) (k : Nat) (v : Value) : Prop where
  o : Ol w.heap.size wr v (pick g (a.take k))
  q : Qm w wr m f n
theorem PkR.step {g : Lt → Int} {a : List Lt} {w wr : World} {m n : Nat} {f : List UInt8 → Int} {k : Nat} {v : Value} (h : PkR g a w wr m n f k v) (hk : k < a.length) (ha : a.length ≤ 64) (hs : a[k].i.size ≤ 281474976710656) {W : World} (hb : Below wr.heap.size wr W) :
    Calls Try.prog 45 #[v, .agg #[.string a[k].i, .int .i64 (g a[k])]] W fun e w' => ∃ v', e = .returned v' ∧ Hid (PkR g a w w' m n f (k + 1) v') := by
  have hB : w.heap.size ≤ W.heap.size := by have := h.q.b.size; have := hb.size; omega
  have hO := own_below h.o hb
  have hl : (pick g (a.take k)).length ≤ 64 := by
    have := pick_len g (a.take k)
    rw [List.length_take] at this
    omega
  refine (xput hO hB (by omega) ⟨a[k].i, g a[k]⟩ hs).mono ?_
  rintro e w' ⟨v', rfl, HZ⟩
  have hQ := (h.q.below hb).grown HZ.out.g (ol_nb hO (h.q.below hb) (Nat.le_refl _))
  refine ⟨v', rfl, ?_, hQ⟩
  rw [pick_take hk]
  have := HZ.out.o
  by_cases hp : 0 < g a[k]
  · rw [if_pos hp]
    rwa [if_pos (show 0 < (⟨a[k].i, g a[k]⟩ : Lt).n from hp)] at this
  · rw [if_neg hp, List.append_nil]
    rwa [if_neg (show ¬ 0 < (⟨a[k].i, g a[k]⟩ : Lt).n from hp)] at this
set_option maxHeartbeats 16000000 in
theorem xminus (a b : List Lt) (ga : Good a) (gb : Good b) (hs : ∀ x ∈ a ++ b, x.i.size ≤ 281474976710656) (ad : Option Addr) (cap : Nat) (ad2 : Option Addr) (cap2 : Nat) (w : World) (h : Rw 2 lcs w ad a) (h2 : Rw 2 lcs w ad2 b) : Calls Try.prog 17 #[.slice ad a.length cap, .slice ad2 b.length cap2] w (MnP a b w) := by
  have HE : Hid (Rw 2 lcs w ad2 b) := h2
  have HEa : Hid (Rw 2 lcs w ad a) := h
  have HS : Hid (∀ x ∈ b, x.i.size ≤ 281474976710656) := fun x hx => hs x (by simp [hx])
  have HSa : Hid (∀ x ∈ a, x.i.size ≤ 281474976710656) := fun x hx => hs x (by simp [hx])
  have HGd : Hid (Good a ∧ Good b) := ⟨ga, gb⟩
  have hlz : (b.length : Int) ≤ 64 := by have := gb.len; omega
  have hla : (a.length : Int) ≤ 64 := by have := ga.len; omega
  have HC : Hid (Calls Try.prog 44 #[.slice ad a.length cap] w fun e w' => ∃ m, e = .returned (.map (some m)) ∧ Hid (MiR a b w w' m 0)) := (xquant a ga HSa.out ad cap w h).mono fun e w' hh => by
    obtain ⟨m, rfl, HZ⟩ := hh
    exact ⟨m, rfl, HZ.out.ext fun t => by simp [qty], fun j hj => by omega⟩
  clear h h2 hs ga gb
  go_enter Try.func17, Try.ntmps17
  go_wp2_with (go_at_call 44; refine HC.out.mono ?_; clear HC; rintro e w1 ⟨m, rfl, HR0⟩)
  go_loopw [18] (fun i wr => ∃ k : Nat, k ≤ b.length ∧ i = .int .i64 k ∧ Hid (MiR a b w wr m k))
    (fun i _ => b.length - (intOf i).toNat)
  case atStart => exact ⟨0, Nat.zero_le _, rfl, HR0.out⟩
  case round =>
    clear HR0
    obtain ⟨k, hk, rfl, HR⟩ := hrel
    by_cases hkn : k < b.length
    · have hkz : (k : Int) < (b.length : Int) := by omega
      obtain ⟨blk, off, rfl, hbl, hcs⟩ := HE.out (by omega)
      obtain ⟨c0, c1⟩ := Rw.at2 hcs HR.out.q.b hbl hkn
      obtain ⟨wa, hwa⟩ : ∃ wa, wr.alloc (.cells (lcs b[k]).toArray 43) = wa := ⟨_, rfl⟩
      have hXa : Bx wa wr.heap.size (lcs b[k]).toArray 43 := by rw [← hwa]; exact Bx.new _ _ _
      have hQ : Qm w wa m (fun t => qty a t - qty (b.take k) t) (a.length + k) := by rw [← hwa]; exact HR.out.q.below (below_a _ _)
      have hsz := HS.out _ (List.getElem_mem hkn)
      have hq0 := qty_take_at HGd.out.2.srt hkn
      obtain ⟨bb, lk, hbb⟩ := hQ.look2 (s := b[k].i) hsz
      have hki : b[k].i.toList = key b[k] := rfl
      have d0 : wa.cell? ⟨wr.heap.size, 0, none⟩ = some (.string b[k].i) := hXa.cell 0
      have d1 : wa.cell? ⟨wr.heap.size, 1, none⟩ = some (.int .i64 b[k].n) := hXa.cell 1
      have hok := HGd.out.2.ok _ (List.getElem_mem hkn)
      have hqa := qty_ok HGd.out.1.ok (key b[k])
      rw [hki, hq0, Int.sub_zero] at lk
      rw [hki, hq0, Int.sub_zero] at hbb
      by_cases hlt : qty a (key b[k]) < b[k].n
      · obtain ⟨e1, e2⟩ := HR.out.bad hkn hlt
        have HF : Hid (MnP a b w (.returned (.tuple #[.slice none 0 0, .int .i64 20])) wa) := ⟨none, 0, by rw [e1, e2]; rfl, by rw [e1]; exact Rw.nil, hQ.b⟩
        clear hXa hQ HR hsz hq0 hok hcs hki hqa e1 e2 hbb
        generalize qty a (key b[k]) = N at *
        generalize b[k] = x at *
        obtain ⟨xi, xn⟩ := x
        simp only [lcs] at *
        cases bb
        all_goals
          go_upto_region 5 with fail
          try rw [hwa]
          clear hwa c0 c1
          go_wp2_with fail
          go_ret2
          exact HF.out
      · have hbt : bb = true := by
          cases bb with
          | true => rfl
          | false => have := hbb rfl; unfold okq at hok; omega
        subst hbt
        obtain ⟨W', hu, hQ2, _, _⟩ := hQ.put (s := b[k].i) hsz (qty a (key b[k]) - b[k].n) (by have := HGd.out.1.len; have := HGd.out.2.len; omega)
        have HZ : Hid (MiR a b w W' m (k + 1)) := by
          refine ⟨?_, fun j hj hb => ?_⟩
          · have := hQ2.ext (g := fun t => qty a t - qty (b.take (k + 1)) t) fun t => by
              have h1 := q_sub HGd.out.2.srt hkn (qty a) t
              exact h1
            exact this
          · by_cases e : j = k
            · subst e; omega
            · exact HR.out.k j (by omega) hb
        have hw1 : wrap64 (qty a (key b[k]) - b[k].n) = qty a (key b[k]) - b[k].n := by unfold okq at hok; unfold wrap64; omega
        clear hXa hQ hQ2 HR hsz hq0 hok hcs hki hqa hbb
        generalize qty a (key b[k]) = N at *
        generalize b[k] = x at *
        obtain ⟨xi, xn⟩ := x
        simp only [lcs] at *
        go_upto_region 5 with fail
        try rw [hwa]
        clear hwa c0 c1
        go_wp2_with fail
        go_roundw
        case rel => exact ⟨k + 1, by omega, by simp, HZ.out⟩
        case measure => simp [intOf]; omega
    · have hkz : ¬ (k : Int) < (b.length : Int) := by omega
      have hall := HR.out.all (by omega)
      have HP0 : Hid (PkR (fun x => qty a (key x) - qty b (key x)) a w wr m (a.length + k) (fun t => qty a t - qty b t) 0 (.slice none 0 0)) := ⟨World.ownsRow_nil _ _ _ _, HR.out.q.ext fun t => by rw [List.take_of_length_le (by omega)]⟩
      have HA : Hid (mnOk a b) := hall
      clear HR hall
      go_wp2_with fail
      go_loopw [11, 47] (fun s i wr => ∃ (j : Nat) (v : Value), j ≤ a.length ∧ v = s ∧ i = .int .i64 j ∧ Hid (PkR (fun x => qty a (key x) - qty b (key x)) a w wr m (a.length + k) (fun t => qty a t - qty b t) j v))
        (fun _ i _ => a.length - (intOf i).toNat)
      case atStart => exact ⟨0, _, Nat.zero_le _, rfl, rfl, HP0.out⟩
      case round =>
        clear HP0
        obtain ⟨j, v, hj, rfl, rfl, HP⟩ := hrel
        by_cases hjn : j < a.length
        · have hjz : (j : Int) < (a.length : Int) := by omega
          obtain ⟨blk, off, rfl, hbl, hcs⟩ := HEa.out (by omega)
          obtain ⟨c0, c1⟩ := Rw.at2 hcs HP.out.q.b hbl hjn
          obtain ⟨wa, hwa⟩ : ∃ wa, wr.alloc (.cells (lcs a[j]).toArray 43) = wa := ⟨_, rfl⟩
          have hXa : Bx wa wr.heap.size (lcs a[j]).toArray 43 := by rw [← hwa]; exact Bx.new _ _ _
          have hba : Below wr.heap.size wr wa := by rw [← hwa]; exact below_a _ _
          have hsz := HSa.out _ (List.getElem_mem hjn)
          have lk := (HP.out.q.below hba).look (s := a[j].i) hsz
          have HC := hid_in (HP.out.step hjn HGd.out.1.len hsz hba)
          have d0 : wa.cell? ⟨wr.heap.size, 0, none⟩ = some (.string a[j].i) := hXa.cell 0
          have d1 : wa.cell? ⟨wr.heap.size, 1, none⟩ = some (.int .i64 a[j].n) := hXa.cell 1
          have hki : key a[j] = a[j].i.toList := rfl
          simp only [hki] at HC lk
          clear hXa HP hsz hcs hki hba
          generalize qty a a[j].i.toList - qty b a[j].i.toList = N at *
          generalize a[j] = x at *
          obtain ⟨xi, xn⟩ := x
          simp only [lcs] at *
          go_upto_region 14 with fail
          try rw [hwa]
          clear hwa c0 c1
          go_wp2_with (go_at_call 45; refine HC.out.mono ?_; clear HC; rintro e w2 ⟨v', rfl, HZ⟩)
          go_roundw
          case rel => exact ⟨j + 1, v', by omega, rfl, by simp, HZ.out⟩
          case measure => simp [intOf]; omega
        · have hjz : ¬ (j : Int) < (a.length : Int) := by omega
          have e1 : mnL a b = pick (fun x => qty a (key x) - qty b (key x)) a := by unfold mnL; rw [if_pos HA.out]
          have e2 : mnE a b = 0 := by unfold mnE; rw [if_pos HA.out]
          have hO : Ol w.heap.size wr v (mnL a b) := by
            have := HP.out.o
            rwa [List.take_of_length_le (by omega), ← e1] at this
          obtain ⟨a', cap', rfl, _, hr⟩ := Ol.read hO
          have HF : Hid (MnP a b w (.returned (.tuple #[.slice a' (mnL a b).length cap', .int .i64 0])) wr) := ⟨a', cap', by rw [e2]; rfl, hr, HP.out.q.b⟩
          clear HP hO hr e1 e2
          go_wp2_with fail
          go_ret2
          exact HF.out
end Go.Proofs.Ytheikjjehidagaa

/- layer 17: Has and Both of the program; lots taken away, and what is in both, by the document -/
namespace Go.Proofs.Ytheikjjehidagaa
open Go.RowKit
set_option linter.unusedVariables false
set_option linter.unusedSimpArgs false
set_option maxRecDepth 20000
theorem xhas (a b : List Lt) (ga : Good a) (gb : Good b) (hs : ∀ x ∈ a ++ b, x.i.size ≤ 281474976710656) (ad : Option Addr) (cap : Nat) (ad2 : Option Addr) (cap2 : Nat) (w : World) (h : Rw 2 lcs w ad a) (h2 : Rw 2 lcs w ad2 b) : Calls Try.prog 19 #[.slice ad a.length cap, .slice ad2 b.length cap2] w (BbP (decide (mnE a b = 0)) w) := by
  have HC : Hid (Calls Try.prog 17 #[.slice ad a.length cap, .slice ad2 b.length cap2] w fun e w' => ∃ v, e = .returned (.tuple #[v, .int .i64 (mnE a b)]) ∧ Hid (Below w.heap.size w w')) := (xminus a b ga gb hs ad cap ad2 cap2 w h h2).mono fun e w' hh => by
    obtain ⟨a', cap', rfl, HZ⟩ := hh
    exact ⟨_, rfl, HZ.out.2⟩
  have he : (((mnE a b : Nat) : Int) == 0) = decide (mnE a b = 0) := by
    by_cases e : mnE a b = 0
    · rw [e]; rfl
    · rw [decide_eq_false e, beq_eq_false_iff_ne]; omega
  clear ga gb hs h h2
  generalize decide (mnE a b = 0) = t at *
  generalize mnE a b = E at *
  go_enter Try.func19, Try.ntmps19
  go_wp2_with (go_at_call 17; refine HC.out.mono ?_; clear HC; rintro e w1 ⟨v, rfl, HB⟩)
  go_ret
  exact ⟨rfl, HB.out⟩
def BtP (a b : List Lt) (w : World) (e : Ending) (w' : World) : Prop := ∃ ad cap, e = .returned (.slice ad (bth a b).length cap) ∧ Hid (Rw 2 lcs w' ad (bth a b) ∧ Below w.heap.size w w')
set_option maxHeartbeats 16000000 in
theorem xboth (a b : List Lt) (ga : Good a) (gb : Good b) (hs : ∀ x ∈ a ++ b, x.i.size ≤ 281474976710656) (ad : Option Addr) (cap : Nat) (ad2 : Option Addr) (cap2 : Nat) (w : World) (h : Rw 2 lcs w ad a) (h2 : Rw 2 lcs w ad2 b) : Calls Try.prog 20 #[.slice ad a.length cap, .slice ad2 b.length cap2] w (BtP a b w) := by
  have HEa : Hid (Rw 2 lcs w ad a) := h
  have HSa : Hid (∀ x ∈ a, x.i.size ≤ 281474976710656) := fun x hx => hs x (by simp [hx])
  have HGa : Hid (a.length ≤ 64) := ga.len
  have hla : (a.length : Int) ≤ 64 := by have := ga.len; omega
  have HC : Hid (Calls Try.prog 44 #[.slice ad2 b.length cap2] w fun e w' => ∃ m, e = .returned (.map (some m)) ∧ Hid (PkR (fun x => min x.n (qty b (key x))) a w w' m b.length (qty b) 0 (.slice none 0 0))) := (xquant b gb (fun x hx => hs x (by simp [hx])) ad2 cap2 w h2).mono fun e w' hh => by
    obtain ⟨m, rfl, HZ⟩ := hh
    exact ⟨m, rfl, World.ownsRow_nil _ _ _ _, HZ.out⟩
  clear h h2 hs ga gb
  go_enter Try.func20, Try.ntmps20
  go_wp2_with (go_at_call 44; refine HC.out.mono ?_; clear HC; rintro e w1 ⟨m, rfl, HP0⟩)
  go_loopw [6, 13] (fun s i wr => ∃ (j : Nat) (v : Value), j ≤ a.length ∧ v = s ∧ i = .int .i64 j ∧ Hid (PkR (fun x => min x.n (qty b (key x))) a w wr m b.length (qty b) j v))
    (fun _ i _ => a.length - (intOf i).toNat)
  case atStart => exact ⟨0, _, Nat.zero_le _, rfl, rfl, HP0.out⟩
  case round =>
    clear HP0
    obtain ⟨j, v, hj, rfl, rfl, HP⟩ := hrel
    by_cases hjn : j < a.length
    · have hjz : (j : Int) < (a.length : Int) := by omega
      obtain ⟨blk, off, rfl, hbl, hcs⟩ := HEa.out (by omega)
      obtain ⟨c0, c1⟩ := Rw.at2 hcs HP.out.q.b hbl hjn
      obtain ⟨wa, hwa⟩ : ∃ wa, wr.alloc (.cells (lcs a[j]).toArray 43) = wa := ⟨_, rfl⟩
      have hXa : Bx wa wr.heap.size (lcs a[j]).toArray 43 := by rw [← hwa]; exact Bx.new _ _ _
      have hba : Below wr.heap.size wr wa := by rw [← hwa]; exact below_a _ _
      have hsz := HSa.out _ (List.getElem_mem hjn)
      have lk := (HP.out.q.below hba).look (s := a[j].i) hsz
      have HC := hid_in (HP.out.step hjn HGa.out hsz hba)
      have d0 : wa.cell? ⟨wr.heap.size, 0, none⟩ = some (.string a[j].i) := hXa.cell 0
      have d1 : wa.cell? ⟨wr.heap.size, 1, none⟩ = some (.int .i64 a[j].n) := hXa.cell 1
      have hki : key a[j] = a[j].i.toList := rfl
      simp only [hki] at HC lk
      clear hXa HP hsz hcs hki hba
      generalize qty b a[j].i.toList = N at *
      generalize a[j] = x at *
      obtain ⟨xi, xn⟩ := x
      simp only [lcs] at *
      go_upto_region 6 with fail
      try rw [hwa]
      clear hwa c0 c1
      go_wp2_with (go_at_call 45; refine HC.out.mono ?_; clear HC; rintro e w2 ⟨v', rfl, HZ⟩)
      go_roundw
      case rel => exact ⟨j + 1, v', by omega, rfl, by simp, HZ.out⟩
      case measure => simp [intOf]; omega
    · have hjz : ¬ (j : Int) < (a.length : Int) := by omega
      have hO : Ol w.heap.size wr v (bth a b) := by
        have := HP.out.o
        rwa [List.take_of_length_le (by omega)] at this
      obtain ⟨a', cap', rfl, _, hr⟩ := Ol.read hO
      have HF : Hid (BtP a b w (.returned (.slice a' (bth a b).length cap')) wr) := ⟨a', cap', rfl, hr, HP.out.q.b⟩
      clear HP hO hr
      go_wp2_with fail
      go_ret
      exact HF.out
/-- one of a list set to any number -/
theorem set_any {m : Lt} {M : List Lt} (hs : Srt M) (hn : ∀ x ∈ M, x.n ≠ 0) : Srt (setR m (decide (m.n = 0)) M) ∧ (∀ x ∈ setR m (decide (m.n = 0)) M, x.n ≠ 0) ∧ (∀ t, qty (setR m (decide (m.n = 0)) M) t = if t = key m then m.n else qty M t) ∧ (setR m (decide (m.n = 0)) M).length ≤ M.length + 1 := by
  refine ⟨setR_srt hs, fun x hx => ?_, fun t => ?_, ?_⟩
  · rcases setR_mem hx with ⟨h1, _⟩ | ⟨rfl, h1⟩
    · exact hn x h1
    · exact of_decide_eq_false h1
  · by_cases e : m.n = 0
    · rw [decide_eq_true e, setR_true, qty_filter, e]
    · rw [decide_eq_false e, qty_set]
  · by_cases e : m.n = 0
    · rw [decide_eq_true e, setR_true]
      have := List.length_filter_le (fun x => decide (key x ≠ key m)) M
      omega
    · rw [decide_eq_false e]
      exact setR_len
structure MjR (a b : List Lt) (w wr : World) (k : Nat) (ad : Option Addr) (M : List Lt) : Prop where
  r : Rw 2 lcs wr ad M
  s : Srt M
  n : ∀ x ∈ M, x.n ≠ 0
  q : ∀ t, qty M t = qty a t - qty (b.take k) t
  l : M.length ≤ 64 + k
  k : ∀ j (h : j < k) (hb : j < b.length), b[j].n ≤ qty a (key b[j])
  b : Below w.heap.size w wr
theorem MjR.at {a b : List Lt} {w wr : World} {k : Nat} {ad : Option Addr} {M : List Lt} (h : MjR a b w wr k ad M) (hb : Srt b) (hk : k < b.length) : qty M (key b[k]) = qty a (key b[k]) := by
  rw [h.q, qty_take_at hb hk]
  omega
theorem MjR.bad {a b : List Lt} {w wr : World} {k : Nat} {ad : Option Addr} {M : List Lt} (h : MjR a b w wr k ad M) (hs : Srt b) (hk : k < b.length) (hb : qty M (key b[k]) < b[k].n) : mnL a b = [] ∧ mnE a b = 20 := by
  have : ¬ mnOk a b := fun hh => by
    have := hh _ (List.getElem_mem hk)
    rw [h.at hs hk] at hb
    omega
  unfold mnL mnE
  rw [if_neg this, if_neg this]
  exact ⟨rfl, rfl⟩
theorem MjR.next {a b : List Lt} {w wr w' : World} {k : Nat} {ad ad' : Option Addr} {M : List Lt} (h : MjR a b w wr k ad M) (hs : Srt b) (hk : k < b.length) (hb : ¬ qty M (key b[k]) < b[k].n) (hbl : Below wr.heap.size wr w') {m : Lt} (hm : m = ⟨b[k].i, qty M (key b[k]) - b[k].n⟩) (hr : Rw 2 lcs w' ad' (setR m (decide (m.n = 0)) M)) : MjR a b w w' (k + 1) ad' (setR m (decide (m.n = 0)) M) := by
  obtain ⟨h1, h2, h3, h4⟩ := set_any (m := m) h.s h.n
  refine ⟨hr, h1, h2, fun t => ?_, by have := h.l; omega, fun j hj hb2 => ?_, h.b.trans (hbl.mono h.b.size)⟩
  · rw [h3]
    have h5 := q_sub hs hk (qty a) t
    rw [← h5]
    unfold updf
    have ek : key m = key b[k] := by rw [hm]; rfl
    rw [ek]
    split
    · rw [hm, h.at hs hk]
    · exact h.q t
  · by_cases e : j = k
    · subst e
      rw [h.at hs hk] at hb
      omega
    · exact h.k j (by omega) hb2
set_option maxHeartbeats 16000000 in
theorem rminus (a b : List Lt) (ga : Good a) (gb : Good b) (ad : Option Addr) (cap : Nat) (ad2 : Option Addr) (cap2 : Nat) (w : World) (h : Rw 2 lcs w ad a) (h2 : Rw 2 lcs w ad2 b) : Calls Try.prog 18 #[.slice ad a.length cap, .slice ad2 b.length cap2] w (MnP a b w) := by
  have HE : Hid (Rw 2 lcs w ad2 b) := h2
  have HGd : Hid (Good a ∧ Good b) := ⟨ga, gb⟩
  have hlz : (b.length : Int) ≤ 64 := by have := gb.len; omega
  have HS0 : Hid (MjR a b w w 0 ad a) := ⟨h, ga.srt, ga.ne, fun t => by simp [qty], by have := ga.len; omega, fun j hj => by omega, Below.refl _ _⟩
  clear h h2 ga gb
  go_enter Try.func18, Try.ntmps18
  go_wp2_with fail
  go_loopw [6, 7] (fun s i wr => ∃ (k : Nat) (a1 : Option Addr) (M : List Lt) (cap : Nat), k ≤ b.length ∧ Value.slice a1 M.length cap = s ∧ i = .int .i64 k ∧ Hid (MjR a b w wr k a1 M))
    (fun _ i _ => b.length - (intOf i).toNat)
  case atStart => exact ⟨0, ad, a, cap, Nat.zero_le _, rfl, rfl, HS0.out⟩
  case round =>
    clear HS0
    obtain ⟨k, a1, M, cap1, hk, rfl, rfl, HR⟩ := hrel
    by_cases hkn : k < b.length
    · have hkz : (k : Int) < (b.length : Int) := by omega
      obtain ⟨blk, off, rfl, hbl, hcs⟩ := HE.out (by omega)
      obtain ⟨c0, c1⟩ := Rw.at2 hcs HR.out.b hbl hkn
      have HK1 : Hid (∀ W, Below wr.heap.size wr W → W.cell? ⟨blk, off + k * 2, none⟩ = some (.string b[k].i) ∧ W.cell? ⟨blk, off + k * 2 + 1, none⟩ = some (.int .i64 b[k].n)) := fun W hb => Rw.at2 hcs (HR.out.b.trans (hb.mono HR.out.b.size)) hbl hkn
      have HC : Hid (Calls Try.prog 23 #[.slice a1 M.length cap1, .string b[k].i] wr (QtP M (key b[k]) wr)) := rqty M (by have := HR.out.l; omega) b[k].i a1 cap1 wr HR.out.r
      have hxq := HGd.out.2.ok _ (List.getElem_mem hkn)
      have hqa := qty_ok HGd.out.1.ok (key b[k])
      have hat := HR.out.at HGd.out.2.srt hkn
      have hw1 : wrap64 (qty M (key b[k]) - b[k].n) = qty M (key b[k]) - b[k].n := by unfold okq at hxq; unfold wrap64; omega
      have hw2 : IntKind.i64.wrap (qty M (key b[k]) - b[k].n) = qty M (key b[k]) - b[k].n := by unfold okq at hxq; rw [IntKind.wrap_i64]; omega
      by_cases hlt : qty M (key b[k]) < b[k].n
      · obtain ⟨e1, e2⟩ := HR.out.bad HGd.out.2.srt hkn hlt
        have HF : Hid (∀ W, Below wr.heap.size wr W → MnP a b w (.returned (.tuple #[.slice none 0 0, .int .i64 20])) W) := fun W hb => ⟨none, 0, by rw [e1, e2]; rfl, by rw [e1]; exact Rw.nil, HR.out.b.trans (hb.mono HR.out.b.size)⟩
        clear HR hcs e1 e2 hqa hat hxq hw1 hw2
        unfold QtP at HC
        generalize key b[k] = ky at *
        generalize qty M ky = N at *
        generalize b[k] = x at *
        obtain ⟨xi, xn⟩ := x
        simp only at *
        go_wp2_with (go_at_call 23; refine HC.out.mono ?_; clear HC; rintro e w2 ⟨rfl, hb2⟩; obtain ⟨d0, d1⟩ := HK1.out w2 hb2; clear HK1)
        go_ret2
        exact HF.out _ hb2
      · obtain ⟨m, hm⟩ : ∃ m : Lt, m = ⟨b[k].i, qty M (key b[k]) - b[k].n⟩ := ⟨_, rfl⟩
        have HT : Hid (∀ W, Below wr.heap.size wr W → Calls Try.prog 43 #[.slice a1 M.length cap1, .string b[k].i, .int .i64 (qty M (key b[k]) - b[k].n)] W fun e w' => ∃ a' cap', e = .returned (.slice a' (setR m (decide (m.n = 0)) M).length cap') ∧ Hid (MjR a b w w' (k + 1) a' (setR m (decide (m.n = 0)) M) ∧ Below wr.heap.size wr w')) := fun W hb => by
          have h1 := rset M (by have := HR.out.l; have := HGd.out.2.len; omega) m a1 cap1 W (HR.out.r.below hb)
          have e1 : m.i = b[k].i := by rw [hm]
          have e2 : m.n = qty M (key b[k]) - b[k].n := by rw [hm]
          rw [e1] at h1
          conv at h1 => rw [show (Value.int .i64 m.n) = Value.int .i64 (qty M (key b[k]) - b[k].n) by rw [e2]]
          refine h1.mono ?_
          rintro e w' ⟨a', cap', rfl, HZ⟩
          have hbw := hb.trans (HZ.out.2.mono hb.size)
          exact ⟨a', cap', rfl, HR.out.next HGd.out.2.srt hkn hlt hbw hm HZ.out.1, hbw⟩
        clear HR hcs hqa hat hxq
        unfold QtP at HC
        clear hm
        generalize setR m (decide (m.n = 0)) M = M2 at *
        generalize key b[k] = ky at *
        generalize qty M ky = N at *
        generalize b[k] = x at *
        obtain ⟨xi, xn⟩ := x
        simp only at *
        go_upto_region 8 with (go_at_call 23; refine HC.out.mono ?_; clear HC; rintro e w2 ⟨rfl, hb2⟩; obtain ⟨d0, d1⟩ := HK1.out w2 hb2)
        have HQ2 : Hid (∀ q, Below wr.heap.size wr (w2.drewN q)) := fun q => below_q hb2 q
        clear hb2
        go_region_held3 (fun w' => w'.cell? ⟨blk, off + k * 2, none⟩ = some (.string xi) ∧ w'.cell? ⟨blk, off + k * 2 + 1, none⟩ = some (.int .i64 xn)) (first | go_keep | exact HKS3.out) (first | (go_at_call 43; go_must (refine (HT.out _ (HQ2.out _)).mono ?_; rintro e w3 ⟨a3, cap3, rfl, HZ3⟩; have HKS3 : Hid (w3.cell? ⟨blk, off + k * 2, none⟩ = some (.string xi) ∧ w3.cell? ⟨blk, off + k * 2 + 1, none⟩ = some (.int .i64 xn)) := HK1.out _ HZ3.out.2)))
        go_wp2_with fail
        go_roundw
        case rel => exact ⟨k + 1, a3, M2, cap3, by omega, rfl, by simp, HZ3.out.1⟩
        case measure => simp [intOf]; omega
    · have hkz : ¬ (k : Int) < (b.length : Int) := by omega
      have hall : mnOk a b := fun x hx => by
        obtain ⟨j, hj, rfl⟩ := List.getElem_of_mem hx
        exact HR.out.k j (by omega) hj
      have e1 : M = mnL a b := mn_is HGd.out.1 HGd.out.2 hall HR.out.s HR.out.n fun t => by rw [HR.out.q, List.take_of_length_le (by omega)]
      have e2 : mnE a b = 0 := by unfold mnE; rw [if_pos hall]
      have HF : Hid (MnP a b w (.returned (.tuple #[.slice a1 M.length cap1, .int .i64 0])) wr) := ⟨a1, cap1, by rw [e2, e1]; rfl, by rw [← e1]; exact HR.out.r, HR.out.b⟩
      clear HR e1
      go_wp2_with fail
      go_ret2
      exact HF.out
end Go.Proofs.Ytheikjjehidagaa

/- layer 17: what is in both, by the document -/
namespace Go.Proofs.Ytheikjjehidagaa
open Go.RowKit
set_option linter.unusedVariables false
set_option linter.unusedSimpArgs false
set_option maxRecDepth 20000
set_option maxHeartbeats 16000000 in
theorem rboth (a b : List Lt) (ga : Good a) (gb : Good b) (ad : Option Addr) (cap : Nat) (ad2 : Option Addr) (cap2 : Nat) (w : World) (h : Rw 2 lcs w ad a) (h2 : Rw 2 lcs w ad2 b) : Calls Try.prog 21 #[.slice ad a.length cap, .slice ad2 b.length cap2] w (BtP a b w) := by
  have HE : Hid (Rw 2 lcs w ad a) := h
  have HE2 : Hid (Rw 2 lcs w ad2 b) := h2
  have HL : Hid (a.length ≤ 64 ∧ b.length ≤ 64) := ⟨ga.len, gb.len⟩
  have hlz : (a.length : Int) ≤ 64 := by have := ga.len; omega
  clear h h2 ga gb
  go_enter Try.func21, Try.ntmps21
  go_wp2_with fail
  go_loopw [5, 6] (fun s i wr => ∃ (k : Nat) (v : Value), k ≤ a.length ∧ v = s ∧ i = .int .i64 k ∧ Hid (Ol w.heap.size wr v (pick (fun x => min x.n (qty b (key x))) (a.take k)) ∧ Below w.heap.size w wr))
    (fun _ i _ => a.length - (intOf i).toNat)
  case atStart => exact ⟨0, _, Nat.zero_le _, rfl, rfl, World.ownsRow_nil _ _ _ _, Below.refl _ _⟩
  case round =>
    obtain ⟨k, v, hk, rfl, rfl, HR⟩ := hrel
    by_cases hkn : k < a.length
    · have hkz : (k : Int) < (a.length : Int) := by omega
      obtain ⟨blk, off, rfl, hbl, hcs⟩ := HE.out (by omega)
      obtain ⟨c0, c1⟩ := Rw.at2 hcs HR.out.2 hbl hkn
      have HK1 : Hid (∀ W, Below wr.heap.size wr W → W.cell? ⟨blk, off + k * 2, none⟩ = some (.string a[k].i) ∧ W.cell? ⟨blk, off + k * 2 + 1, none⟩ = some (.int .i64 a[k].n)) := fun W hb => Rw.at2 hcs (HR.out.2.trans (hb.mono HR.out.2.size)) hbl hkn
      have HC : Hid (Calls Try.prog 23 #[.slice ad2 b.length cap2, .string a[k].i] wr (QtP b (key a[k]) wr)) := rqty b (by have := HL.out.2; omega) a[k].i ad2 cap2 wr (HE2.out.below HR.out.2)
      have hpl : (pick (fun x => min x.n (qty b (key x))) (a.take k)).length ≤ 64 := by
        have := pick_len (fun x => min x.n (qty b (key x))) (a.take k)
        rw [List.length_take] at this
        have := HL.out.1
        omega
      have HA : Hid (∀ W, Below wr.heap.size wr W → ∀ N, N = min a[k].n (qty b (key a[k])) → 0 < N → ∃ v' w6, (Builtin.append_ #[22, 22] 22 #[v, .slice (some ⟨W.heap.size, 0, none⟩) 1 1]).run Try.prog (W.alloc (.cells #[.string a[k].i, .int .i64 N] 43)) = .ok v' w6 ∧ Hid (Ol w.heap.size w6 v' (pick (fun x => min x.n (qty b (key x))) (a.take (k + 1))) ∧ Below w.heap.size w w6)) := fun W hb N hN h0 => by
        have hB := HR.out.2.size
        obtain ⟨v', w6, hr, HZ⟩ := ap_lot HR.out.1 hB (by omega) ⟨a[k].i, N⟩ hb
        refine ⟨v', w6, hr, ?_, HR.out.2.trans (HZ.out.below HR.out.1 hB)⟩
        rw [pick_take hkn, if_pos (by show 0 < min _ _; rw [← hN]; exact h0), ← hN]
        exact HZ.out.o
      have HN : Hid (∀ W, Below wr.heap.size wr W → ∀ N, N = min a[k].n (qty b (key a[k])) → ¬ 0 < N → Hid (Ol w.heap.size W v (pick (fun x => min x.n (qty b (key x))) (a.take (k + 1))) ∧ Below w.heap.size w W)) := fun W hb N hN h0 => by
        refine ⟨?_, HR.out.2.trans (hb.mono HR.out.2.size)⟩
        rw [pick_take hkn, if_neg (by show ¬ 0 < min _ _; rw [← hN]; exact h0), List.append_nil]
        exact own_below HR.out.1 hb
      clear HR hcs hpl
      unfold QtP at HC
      generalize qty b (key a[k]) = N at *
      generalize a[k] = x at *
      obtain ⟨xi, xn⟩ := x
      simp only at *
      by_cases hlt : xn < N
      · have hm : xn = min xn N := by omega
        by_cases h0 : 0 < xn
        · go_wp2_with (first | (go_at_call 23; refine HC.out.mono ?_; clear HC; rintro e w2 ⟨rfl, hb2⟩; obtain ⟨d0, d1⟩ := HK1.out w2 hb2; clear HK1 HN; obtain ⟨v', w6, hr6, HZ⟩ := HA.out w2 hb2 xn hm h0; clear HA hm hb2) | (at_builtin; refine Lib.wpList_append_run _ rfl _ _ 22 22 rfl _ _ rfl rfl _ w6 hr6 ?_))
          go_roundw
          case rel => exact ⟨k + 1, v', by omega, rfl, by simp, HZ.out⟩
          case measure => simp [intOf]; omega
        · go_wp2_with (first | (go_at_call 23; refine HC.out.mono ?_; clear HC; rintro e w2 ⟨rfl, hb2⟩; obtain ⟨d0, d1⟩ := HK1.out w2 hb2; clear HK1 HA; have HZ := HN.out w2 hb2 xn hm h0; clear HN hm hb2))
          go_roundw
          case rel => exact ⟨k + 1, v, by omega, rfl, by simp, HZ.out⟩
          case measure => simp [intOf]; omega
      · have hm : N = min xn N := by omega
        by_cases h0 : 0 < N
        · go_wp2_with (first | (go_at_call 23; refine HC.out.mono ?_; clear HC; rintro e w2 ⟨rfl, hb2⟩; obtain ⟨d0, d1⟩ := HK1.out w2 hb2; clear HK1 HN; obtain ⟨v', w6, hr6, HZ⟩ := HA.out w2 hb2 N hm h0; clear HA hm hb2) | (at_builtin; refine Lib.wpList_append_run _ rfl _ _ 22 22 rfl _ _ rfl rfl _ w6 hr6 ?_))
          go_roundw
          case rel => exact ⟨k + 1, v', by omega, rfl, by simp, HZ.out⟩
          case measure => simp [intOf]; omega
        · go_wp2_with (first | (go_at_call 23; refine HC.out.mono ?_; clear HC; rintro e w2 ⟨rfl, hb2⟩; obtain ⟨d0, d1⟩ := HK1.out w2 hb2; clear HK1 HA; have HZ := HN.out w2 hb2 N hm h0; clear HN hm hb2))
          go_roundw
          case rel => exact ⟨k + 1, v, by omega, rfl, by simp, HZ.out⟩
          case measure => simp [intOf]; omega
    · have hkz : ¬ (k : Int) < (a.length : Int) := by omega
      have hO : Ol w.heap.size wr v (bth a b) := by
        have := HR.out.1
        rwa [List.take_of_length_le (by omega)] at this
      obtain ⟨a', cap', rfl, _, hr⟩ := Ol.read hO
      have HF : Hid (BtP a b w (.returned (.slice a' (bth a b).length cap')) wr) := ⟨a', cap', rfl, hr, HR.out.2⟩
      clear HR hO hr
      go_wp2_with fail
      go_ret
      exact HF.out
end Go.Proofs.Ytheikjjehidagaa

/- layer 17: the chapter's example -/
namespace Go.Proofs.Ytheikjjehidagaa
open Go.RowKit
set_option linter.unusedVariables false
set_option linter.unusedSimpArgs false
set_option maxRecDepth 20000
theorem Rw.new {w : World} {P : List Lt} {cs : Array Value} (h : cs = (rcs lcs P).toArray) : Rw 2 lcs (w.alloc (.cells cs 43)) (some ⟨w.heap.size, 0, none⟩) P := by
  intro _
  subst h
  refine ⟨w.heap.size, 0, rfl, by simp, fun i hi j hj => ?_⟩
  have h1 := flat_at lcs 2 lcs_len P i hi j hj
  rw [(Bx.new w (rcs lcs P).toArray 43).cell, Nat.zero_add, List.getElem?_toArray]
  exact h1
def sA : ByteArray := ⟨#[65]⟩
def sB : ByteArray := ⟨#[66]⟩
def sC : ByteArray := ⟨#[67]⟩
theorem tA : sA.toList = [65] := by rw [tl]; rfl
theorem tB : sB.toList = [66] := by rw [tl]; rfl
theorem tC : sC.toList = [67] := by rw [tl]; rfl
def ex1 : List Lt := [⟨sA, 5⟩, ⟨sB, 2⟩]
def ex2 : List Lt := [⟨sA, 1⟩, ⟨sC, 4⟩]
def ex3 : List Lt := [⟨sA, 6⟩, ⟨sB, 2⟩, ⟨sC, 4⟩]
def ex4 : List Lt := [⟨sB, 2⟩]
def ex5 : List Lt := [⟨sA, 6⟩, ⟨sC, 4⟩]
theorem g1 : Good ex1 := ⟨by unfold Srt ex1; simp [key, tA, tB]; decide, by decide, by unfold ex1 okq; simp⟩
theorem g2 : Good ex2 := ⟨by unfold Srt ex2; simp [key, tA, tC]; decide, by decide, by unfold ex2 okq; simp⟩
theorem g4 : Good ex4 := ⟨by unfold Srt ex4; simp, by decide, by unfold ex4 okq; simp⟩
theorem kA (n : Int) : key ⟨sA, n⟩ = [65] := tA
theorem kB (n : Int) : key ⟨sB, n⟩ = [66] := tB
theorem kC (n : Int) : key ⟨sC, n⟩ = [67] := tC
theorem m3 : mrg ex1 ex2 = (ex3, 0) := by
  unfold ex1 ex2 ex3
  simp [mrg, addE, addL, setR, qty, kA, kB, kC, okq, List.cons_lt_cons_iff]
theorem g3 : Good ex3 := by
  have := mrg_good (b := ex2) g1 (by rw [m3])
  rwa [m3] at this
theorem m5 : mnL ex3 ex4 = ex5 ∧ mnE ex3 ex4 = 0 := by
  have : mnOk ex3 ex4 := by
    unfold mnOk ex3 ex4
    simp [qty, kA, kB, kC]
  unfold mnL mnE
  rw [if_pos this, if_pos this]
  refine ⟨?_, rfl⟩
  unfold ex3 ex4 ex5 pick
  simp [qty, kA, kB, kC]
theorem ex_small : ∀ x ∈ ex1 ++ ex2, x.i.size ≤ 281474976710656 := by
  have h : ∀ x ∈ ex1 ++ ex2, x.i.size = 1 := by
    intro x hx
    unfold ex1 ex2 at hx
    simp only [List.mem_append, List.mem_cons, List.not_mem_nil, or_false] at hx
    rcases hx with (rfl | rfl) | (rfl | rfl) <;> rfl
  intro x hx
  rw [h x hx]
  omega
theorem ex_small2 : ∀ x ∈ ex3 ++ ex4, x.i.size ≤ 281474976710656 := by
  have h : ∀ x ∈ ex3 ++ ex4, x.i.size = 1 := by
    intro x hx
    unfold ex3 ex4 at hx
    simp only [List.mem_append, List.mem_cons, List.not_mem_nil, or_false] at hx
    rcases hx with (rfl | rfl | rfl) | rfl <;> rfl
  intro x hx
  rw [h x hx]
  omega
set_option maxHeartbeats 8000000 in
theorem xawake (w : World) : Calls Try.prog 8 #[] w (BbP true w) := by
  obtain ⟨w1, hw1⟩ : ∃ w1, w1 = w.alloc (.cells #[.string ⟨#[65]⟩, .int .i64 5, .string ⟨#[66]⟩, .int .i64 2] 43) := ⟨_, rfl⟩
  obtain ⟨w2, hw2⟩ : ∃ w2, w2 = w1.alloc (.cells #[.string ⟨#[65]⟩, .int .i64 1, .string ⟨#[67]⟩, .int .i64 4] 43) := ⟨_, rfl⟩
  have HW : Hid ((w.alloc (.cells #[.string ⟨#[65]⟩, .int .i64 5, .string ⟨#[66]⟩, .int .i64 2] 43)).alloc (.cells #[.string ⟨#[65]⟩, .int .i64 1, .string ⟨#[67]⟩, .int .i64 4] 43) = w2) := by rw [hw2, hw1]; exact rfl
  have hs1 : w1.heap.size = w.heap.size + 1 := by rw [hw1]; simp
  have hb1 : Below w.heap.size w w1 := by rw [hw1]; exact below_a _ _
  have hb2 : Below w1.heap.size w1 w2 := by rw [hw2]; exact below_a _ _
  have r1 : Rw 2 lcs w1 (some ⟨w.heap.size, 0, none⟩) ex1 := by rw [hw1]; exact Rw.new rfl
  have r2 : Rw 2 lcs w2 (some ⟨w.heap.size + 1, 0, none⟩) ex2 := by rw [hw2, ← hs1]; exact Rw.new rfl
  have hbw : Below w.heap.size w w2 := hb1.trans (hb2.mono hb1.size)
  have HC : Hid (Calls Try.prog 15 #[.slice (some ⟨w.heap.size, 0, none⟩) 2 2, .slice (some ⟨w.heap.size + 1, 0, none⟩) 2 2] w2 fun e w3 => ∃ a3 c3, e = .returned (.tuple #[.slice a3 3 c3, .int .i64 0]) ∧ Hid (Rw 2 lcs w3 a3 ex3 ∧ Below w.heap.size w w3)) := by
    refine (xplus ex1 ex2 g1 (by decide) ex_small _ 2 _ 2 w2 (r1.below hb2) r2).mono ?_
    rintro e w3 ⟨a3, c3, rfl, HZ⟩
    rw [m3] at HZ ⊢
    exact ⟨a3, c3, rfl, HZ.out.1, hbw.trans (HZ.out.2.mono hbw.size)⟩
  have HC2 : Hid (∀ w3 a3 c3, Rw 2 lcs w3 a3 ex3 → Below w.heap.size w w3 → Calls Try.prog 17 #[.slice a3 3 c3, .slice (some ⟨w3.heap.size, 0, none⟩) 1 1] (w3.alloc (.cells #[.string ⟨#[66]⟩, .int .i64 2] 43)) fun e w4 => ∃ a4 c4, e = .returned (.tuple #[.slice a4 2 c4, .int .i64 0]) ∧ Hid (Rw 2 lcs w4 a3 ex3 ∧ Rw 2 lcs w4 a4 ex5 ∧ Below w.heap.size w w4)) := fun w3 a3 c3 h3 hb3 => by
    have hba := below_a w3 (.cells #[.string ⟨#[66]⟩, .int .i64 2] 43)
    refine (xminus ex3 ex4 g3 g4 ex_small2 a3 c3 _ 1 _ (h3.below hba) (Rw.new rfl)).mono ?_
    rintro e w4 ⟨a4, c4, rfl, HZ⟩
    rw [m5.1] at HZ ⊢
    rw [m5.2]
    have hb4 := hb3.trans (hba.mono hb3.size)
    exact ⟨a4, c4, rfl, (h3.below hba).below HZ.out.2, HZ.out.1, hb4.trans (HZ.out.2.mono hb4.size)⟩
  have HC3 : Hid (∀ w4 a3 c3 a4, Rw 2 lcs w4 a3 ex3 → Rw 2 lcs w4 a4 ex5 → Below w.heap.size w w4 → Calls Try.prog 13 #[.slice a3 3 c3, .slice (some ⟨w4.heap.size, 0, none⟩) 3 3] (w4.alloc (.cells #[.string ⟨#[65]⟩, .int .i64 6, .string ⟨#[66]⟩, .int .i64 2, .string ⟨#[67]⟩, .int .i64 4] 43)) fun e w5 => e = .returned (.bool true) ∧ Hid (Rw 2 lcs w5 a4 ex5 ∧ Below w.heap.size w w5)) := fun w4 a3 c3 a4 h3 h4 hb4 => by
    have hba := below_a w4 (.cells #[.string ⟨#[65]⟩, .int .i64 6, .string ⟨#[66]⟩, .int .i64 2, .string ⟨#[67]⟩, .int .i64 4] 43)
    refine (rlots ex3 (by decide) a3 c3 _ 3 _ (h3.below hba) (Rw.new rfl)).mono ?_
    rintro e w5 ⟨rfl, hb5⟩
    have hb5' := hb4.trans (hba.mono hb4.size)
    exact ⟨rfl, (h4.below hba).below hb5, hb5'.trans (hb5.mono hb5'.size)⟩
  have HC4 : Hid (∀ w5 a4 c4, Rw 2 lcs w5 a4 ex5 → Below w.heap.size w w5 → Calls Try.prog 13 #[.slice a4 2 c4, .slice (some ⟨w5.heap.size, 0, none⟩) 2 2] (w5.alloc (.cells #[.string ⟨#[65]⟩, .int .i64 6, .string ⟨#[67]⟩, .int .i64 4] 43)) fun e w6 => e = .returned (.bool true) ∧ Hid (Below w.heap.size w w6)) := fun w5 a4 c4 h4 hb4 => by
    have hba := below_a w5 (.cells #[.string ⟨#[65]⟩, .int .i64 6, .string ⟨#[67]⟩, .int .i64 4] 43)
    refine (rlots ex5 (by decide) a4 c4 _ 2 _ (h4.below hba) (Rw.new rfl)).mono ?_
    rintro e w6 ⟨rfl, hb6⟩
    have hb6' := hb4.trans (hba.mono hb4.size)
    exact ⟨rfl, hb6'.trans (hb6.mono hb6'.size)⟩
  clear hw1 hw2 hs1 hb1 hb2 r1 r2 hbw
  go_enter Try.func8, Try.ntmps8
  go_wp2_with (first | (go_at_call 15; rw [HW.out]; refine HC.out.mono ?_; clear HC; rintro e w3 ⟨a3, c3, rfl, HZ3⟩) | (go_at_call 17; refine (HC2.out _ _ _ HZ3.out.1 HZ3.out.2).mono ?_; clear HC2 HZ3; rintro e w4 ⟨a4, c4, rfl, HZ4⟩) | (go_at_call 13; refine (HC3.out _ _ _ _ HZ4.out.1 HZ4.out.2.1 HZ4.out.2.2).mono ?_; clear HC3 HZ4; rintro e w5 ⟨rfl, HZ5⟩) | (go_at_call 13; refine (HC4.out _ _ _ HZ5.out.1 HZ5.out.2).mono ?_; clear HC4 HZ5; rintro e w6 ⟨rfl, HZ6⟩))
  go_ret
  exact ⟨rfl, HZ6.out⟩
end Go.Proofs.Ytheikjjehidagaa
