/- Lists of numbers in memory; the reference's digits. Condition: the text has at most 2 to the 40th bytes. -/
import Derived.Test.YtbgdmpaghkmadaaVE
import Derived.WalkKit
import Derived.ProofKit
import Derived.Handy
import Derived.WalkLawsBesides
import Derived.WalkSpells
import Derived.BigQuiet
import Derived.BigCall
import Derived.Deep.QuietTactic
import Derived.Deep.Light
import Derived.Deep.OwnRows
import Derived.Laws.AppendOwnNone
import Derived.Laws.Strings3
import Derived.Laws.RangeAny
import Derived.Deep.RegionWith
import Derived.Lib.BitFns
import Derived.Lib.Walk
import Derived.Lib.Strings
import Derived.Lib.OthersKept
import Derived.Deep.CutBlock
import Derived.Deep.DeepCutAuto
import Derived.Deep.LoopGhost
import Derived.Deep.RegionHeld3
import Derived.Lib.SmallJoins
import Derived.Maps.AppendAt
import Derived.Laws.IdiomStrings
import Derived.Lib.AppendZeros
import Derived.Deep.WholeRow
import Derived.Laws.BitsAllLaws
import Derived.Lib.ConvBytes
import Derived.Deep.RegionLaw
namespace Go.Proofs.Ytbgdmpaghkmadaa.N5
open Go.RowKit
set_option linter.unusedVariables false
set_option linter.unusedSimpArgs false
theorem Try.info3 : (Try.prog.info? 3).map (fun i => (i.zero, i.size, i.bytes)) = some (some (.int .i64 0), 1, 8) := by kernel_rfl
/-- numbers as cells -/
def cells (k : IntKind) (xs : List Nat) : List Value := xs.map fun c : Nat => Value.int k (c : Int)
theorem cells_len (k : IntKind) (xs : List Nat) : (cells k xs).length = xs.length := by simp [cells]
theorem cells_app (k : IntKind) (xs ys : List Nat) : cells k (xs ++ ys) = cells k xs ++ cells k ys := by simp [cells]
/-- a slice value whose elements read as these numbers -/
def Seg (k : IntKind) (w : World) (v : Value) (xs : List Nat) : Prop :=
  ∃ a cap, v = .slice a xs.length cap ∧ (xs ≠ [] → ∃ b, a = some ⟨b, 0, none⟩ ∧ b < w.heap.size ∧ ∀ j, j < xs.length → w.cell? ⟨b, j, none⟩ = some (.int k ((xs.getD j 0 : Nat) : Int)))
theorem Seg.of_owns {k : IntKind} {w : World} {base e : Nat} {v : Value} {xs : List Nat} (h : w.ownsRow base e 1 v xs.length (cells k xs)) : Seg k w v xs := by
  by_cases h0 : 0 < xs.length
  · obtain ⟨g, cap, hv, hb, hlt⟩ : ∃ g cap, v = .slice (some ⟨g, 0, none⟩) xs.length cap ∧ base ≤ g ∧ g < w.heap.size := by
      rcases h.2 with ⟨_, hn⟩ | ⟨g, cap, cur, hv, hb, hg, _⟩
      · omega
      · exact ⟨g, cap, hv, hb, (Array.getElem?_eq_some_iff.1 hg).1⟩
    refine ⟨_, cap, hv, fun _ => ⟨g, rfl, hlt, fun j hj => ?_⟩⟩
    have hc := h.cells (g := g) (by rw [hv]; rfl) j (.int k ((xs.getD j 0 : Nat) : Int)) (by simp [cells, List.getD_eq_getElem?_getD, hj])
    have ha : (⟨g, 0, none⟩ : Addr).add j = ⟨g, j, none⟩ := by
      cases j <;> simp [Addr.add]
    rw [ha] at hc
    exact hc
  · have : xs = [] := by
      cases xs with
      | nil => rfl
      | cons _ _ => simp at h0
    subst this
    rcases h.2 with ⟨hv, _⟩ | ⟨g, cap, cur, hv, _⟩
    · exact ⟨none, 0, hv, fun h => absurd rfl h⟩
    · exact ⟨_, cap, hv, fun h => absurd rfl h⟩
theorem cell_two_new (w : World) (x y : Value) (t : TypeId) : ∀ j u, [x, y][j]? = some u → (w.alloc (.cells #[x, y] t)).cell? ((⟨w.heap.size, 0, none⟩ : Addr).add j) = some u := by
  intro j u hj
  match j, hj with
  | 0, hj =>
    simp at hj
    subst hj
    simp [Addr.add]
  | 1, hj =>
    simp at hj
    subst hj
    simp [Addr.add]
theorem one_cells {k : IntKind} {xs : List Nat} : ∀ u ∈ cells k xs, u.oneCell' = true := by
  intro u hu
  simp only [cells, List.mem_map] at hu
  obtain ⟨c, _, rfl⟩ := hu
  rfl
/-- what digits hands back -/
def dsO (l : List UInt8) : List Nat := if an l = true then ds l else []
def SP (l : List UInt8) (w : World) (e : Ending) (w' : World) : Prop := ∃ v, e = .returned (.tuple #[v, .bool (an l)]) ∧ Seg .i64 w' v (dsO l) ∧ Below w.heap.size w w'
theorem SP.mk {l : List UInt8} {w w' : World} {v : Value} {g : Bool} (hg : g = an l) (h : Seg .i64 w' v (dsO l)) (hb : Below w.heap.size w w') : SP l w (.returned (.tuple #[v, .bool g])) w' := ⟨v, by rw [hg], h, hb⟩
set_option maxHeartbeats 4000000 in
theorem rdigits (s : ByteArray) (hs : s.size ≤ 1099511627776) (w : World) : Calls Try.prog 87 #[.string s] w (SP s.data.toList w) := by
  have HL : Hid (s.data.toList.length = s.size) := rfl
  obtain ⟨i0, hi, hz0, hz1, hz2⟩ := info_parts Try.info3
  have HI : Hid (Try.prog.info? 3 = some i0 ∧ i0.zero = some (.int .i64 0) ∧ i0.size = 1 ∧ i0.bytes = 8) := ⟨hi, hz0, hz1, hz2⟩
  clear hi hz0 hz1 hz2
  go_enter Try.func87, Try.ntmps87
  go_wp2_with fail
  go_loopw [4, 5] (fun v i wr => ∃ (k : Nat) (xs : List Nat), i = .int .i64 k ∧ k ≤ s.size ∧ Hid (wr.ownsRow w.heap.size 3 1 v xs.length (cells .i64 xs)) ∧ Hid (Below w.heap.size w wr) ∧ Hid (xs = ds (s.data.toList.take k)) ∧ xs.length ≤ 2 * k ∧ Hid (an (s.data.toList.drop k) = an s.data.toList)) (fun _ i _ => s.size - (Lib.intOf i).toNat)
  case atStart => exact ⟨0, [], rfl, Nat.zero_le _, World.ownsRow_nil _ _ _ _, Below.refl _ _, rfl, Nat.le_refl _, rfl⟩
  case round =>
    obtain ⟨k, xs, rfl, hk, hown, hbw, hxs, hxl, han⟩ := hrel
    by_cases hkn : k < s.size
    · have hkz : (k : Int) < (s.size : Int) := by omega
      have hdr := drop_at hkn
      have htk := take_at hkn
      obtain ⟨x, hx⟩ : ∃ x : UInt8, s[k] = x := ⟨_, rfl⟩
      rw [hx] at hdr htk
      have hxb := x.toNat_lt
      have hsz : w.heap.size ≤ wr.heap.size := hbw.out.size
      have HAN : Hid (an s.data.toList = ((decide (Up x.toNat) || decide (Dg x.toNat)) && an (s.data.toList.drop (k + 1)))) := by
        have h1 := han.out
        rw [hdr, an] at h1
        exact h1.symm
      have HDS : Hid (ds (s.data.toList.take (k + 1)) = xs ++ dsc x.toNat) := by
        unfold Hid
        rw [htk, ds_append, hxs.out, ds, ds, List.append_nil]
      clear hdr htk han hxs
      have Hfin : Hid (∀ (v' : Value) (w1 : World) (o : Obj) (n : Nat), (dsc x.toNat).length = n → (Up x.toNat ∨ Dg x.toNat) → w1.ownsRow w.heap.size 3 1 v' (xs.length + n) (cells .i64 xs ++ cells .i64 (dsc x.toNat)) → (wr.alloc o).grownBy w1 u4.ownBlock →
          (∃ (k' : Nat) (xs' : List Nat), Value.int .i64 ((k : Int) + 1) = .int .i64 k' ∧ k' ≤ s.size ∧ Hid (w1.ownsRow w.heap.size 3 1 v' xs'.length (cells .i64 xs')) ∧ Hid (Below w.heap.size w w1) ∧ Hid (xs' = ds (s.data.toList.take k')) ∧ xs'.length ≤ 2 * k' ∧ Hid (an (s.data.toList.drop k') = an s.data.toList)) ∧ s.size - (Lib.intOf (Value.int .i64 ((k : Int) + 1))).toNat < s.size - (Lib.intOf (Value.int .i64 (k : Int))).toNat) := by
        intro v' w1 o n hn hau ho hg
        refine ⟨⟨k + 1, xs ++ dsc x.toNat, by go_num, by omega, ?_, ?_, HDS.out.symm, ?_, ?_⟩, ?_⟩
        · unfold Hid
          rw [cells_app, List.length_append, hn]
          exact ho
        · exact (hbw.out.alloc hsz _).grown hg (by simp; omega) (fun j hj => (hown.out.lt j hj).1)
        · have := dsc_len x.toNat
          rw [List.length_append]
          omega
        · unfold Hid
          rw [HAN.out, show (decide (Up x.toNat) || decide (Dg x.toNat)) = true by rw [Bool.or_eq_true, decide_eq_true_eq, decide_eq_true_eq]; exact hau, Bool.true_and]
        · simp only [Lib.intOf]
          omega
      by_cases hg : Dg x.toNat
      · have hd := dsc_dg hg
        have h48 : 48 ≤ x.toNat := hg.1
        have h57 : x.toNat ≤ 57 := hg.2
        have hcl : cells .i64 (dsc x.toNat) = [.int .i64 ((x.toNat : Int) - 48)] := by
          rw [hd]
          simp only [cells, List.map]
          rw [show ((x.toNat - 48 : Nat) : Int) = (x.toNat : Int) - 48 by omega]
        have Hcl : Hid (cells .i64 (dsc x.toNat) = [.int .i64 ((x.toNat : Int) - 48)]) := hcl
        have Hn : Hid ((dsc x.toNat).length = 1) := by unfold Hid; rw [hd]; rfl
        have HG : Hid (Dg x.toNat) := hg
        have h1 : ((48 : Int) ≤ (x.toNat : Int)) := by omega
        have h2 : ((x.toNat : Int) ≤ 57) := by omega
        clear hd hcl hg
        go_wp2_with (at_builtin; refine wpList_append_own_at _ rfl _ _ 137 rfl w.heap.size 3 i0 (.int .i64 0) 1 8 Try.underlying137 HI.out.1 HI.out.2.1 HI.out.2.2.1 HI.out.2.2.2 rfl (by decide) _ _ _ rfl (hown.out.alloc _) ⟨wr.heap.size, 0, none⟩ 1 1 [.int .i64 ((x.toNat : Int) - 48)] rfl rfl (cell_one_new _ _ _) (by rw [← Hcl.out]; exact one_cells) (by unfold maxLen; omega) (by omega) (by simp; omega) ?_; intro v' w1 hown' hgrow _ _; have HO : Hid _ := hown'; have HGr : Hid _ := hgrow; clear hown' hgrow)
        exact Hfin.out v' w1 _ 1 Hn.out (Or.inr HG.out) (by rw [Hcl.out]; exact HO.out) HGr.out
      · by_cases hu : Up x.toNat
        · have hd := dsc_up hu
          have h65 : 65 ≤ x.toNat := hu.1
          have h90 : x.toNat ≤ 90 := hu.2
          have hcl : cells .i64 (dsc x.toNat) = [.int .i64 (((x.toNat : Int) - 65 + 10) / 10), .int .i64 (((x.toNat : Int) - 65) % 10)] := by
            rw [hd]
            simp only [cells, List.map]
            rw [show (((x.toNat - 55) / 10 : Nat) : Int) = ((x.toNat : Int) - 65 + 10) / 10 by omega, show (((x.toNat - 55) % 10 : Nat) : Int) = ((x.toNat : Int) - 65) % 10 by omega]
          have Hcl : Hid (cells .i64 (dsc x.toNat) = [.int .i64 (((x.toNat : Int) - 65 + 10) / 10), .int .i64 (((x.toNat : Int) - 65) % 10)]) := hcl
          have Hn : Hid ((dsc x.toNat).length = 2) := by unfold Hid; rw [hd]; rfl
          have HU : Hid (Up x.toNat) := hu
          have h1 : ((48 : Int) ≤ (x.toNat : Int)) := by omega
          have h2 : ¬ ((x.toNat : Int) ≤ 57) := by omega
          have h3 : ((65 : Int) ≤ (x.toNat : Int)) := by omega
          have h4 : ((x.toNat : Int) ≤ 90) := by omega
          clear hd hcl hu hg
          go_wp2_with (at_builtin; refine wpList_append_own_at _ rfl _ _ 137 rfl w.heap.size 3 i0 (.int .i64 0) 1 8 Try.underlying137 HI.out.1 HI.out.2.1 HI.out.2.2.1 HI.out.2.2.2 rfl (by decide) _ _ _ rfl (hown.out.alloc _) ⟨wr.heap.size, 0, none⟩ 2 2 [.int .i64 (((x.toNat : Int) - 65 + 10) / 10), .int .i64 (((x.toNat : Int) - 65) % 10)] rfl rfl (cell_two_new _ _ _ _) (by rw [← Hcl.out]; exact one_cells) (by unfold maxLen; omega) (by omega) (by simp; omega) ?_; intro v' w1 hown' hgrow _ _; have HO : Hid _ := hown'; have HGr : Hid _ := hgrow; clear hown' hgrow)
          exact Hfin.out v' w1 _ 2 Hn.out (Or.inl HU.out) (by rw [Hcl.out]; exact HO.out) HGr.out
        · have HNO : Hid (an s.data.toList = false) := by
            unfold Hid
            rw [HAN.out, decide_eq_false hu, decide_eq_false hg]
            rfl
          have hend : Hid (SP s.data.toList w (.returned (.tuple #[.slice none 0 0, .bool false])) wr) := by
            refine SP.mk HNO.out.symm ⟨none, 0, ?_, ?_⟩ hbw.out
            · unfold dsO
              rw [if_neg (by rw [HNO.out]; exact Bool.false_ne_true)]
              rfl
            · unfold dsO
              rw [if_neg (by rw [HNO.out]; exact Bool.false_ne_true)]
              intro h
              exact absurd rfl h
          by_cases h1 : (48 : Int) ≤ (x.toNat : Int)
          · have h2 : ¬ ((x.toNat : Int) ≤ 57) := by omega
            by_cases h3 : (65 : Int) ≤ (x.toNat : Int)
            · have h4 : ¬ ((x.toNat : Int) ≤ 90) := by omega
              clear hu hg Hfin
              go_wp2_with fail
              go_ret2
              exact hend.out
            · clear hu hg Hfin
              go_wp2_with fail
              go_ret2
              exact hend.out
          · have h3 : ¬ (65 : Int) ≤ (x.toNat : Int) := by omega
            clear hu hg Hfin
            go_wp2_with fail
            go_ret2
            exact hend.out
    · have hkz : ¬ (k : Int) < (s.size : Int) := by omega
      have HT : Hid (an s.data.toList = true) := by
        have h1 := han.out
        rw [List.drop_of_length_le (by rw [HL.out]; omega), an] at h1
        exact h1.symm
      have HX : Hid (xs = dsO s.data.toList) := by
        have h1 := hxs.out
        rw [List.take_of_length_le (by rw [HL.out]; omega)] at h1
        unfold Hid dsO
        rw [if_pos HT.out]
        exact h1
      clear hxs han
      go_wp2_with fail
      go_ret2
      exact SP.mk HT.out.symm (by rw [← HX.out]; exact Seg.of_owns hown.out) hbw.out
end Go.Proofs.Ytbgdmpaghkmadaa.N5
