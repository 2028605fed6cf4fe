/- Lists of numbers in memory; the walk of Runes: the signs of a text as a list in new memory. Condition: the text has at most 2 to the 40th bytes. -/
import Derived.Test.YtgkefaojbdjnoaaDoorO
import Derived.WalkKit
import Derived.ProofKit
import Derived.Handy
import Derived.WalkLawsBesides
import Derived.WalkSpells
import Derived.BigQuiet
import Derived.BigCall
import Derived.Deep.QuietTactic
import Derived.Deep.Light
import Derived.Deep.OwnRows
import Derived.Laws.AppendOwnNone
import Derived.Laws.Strings3
import Derived.Laws.RangeAny
import Derived.Deep.RegionWith
import Derived.Lib.BitFns
import Derived.Lib.Walk
import Derived.Lib.Strings
import Derived.Lib.OthersKept
import Derived.Deep.CutBlock
import Derived.Deep.DeepCutAuto
import Derived.Deep.LoopGhost
import Derived.Deep.RegionHeld3
import Derived.Lib.SmallJoins
import Derived.Maps.AppendAt
import Derived.Laws.IdiomStrings
namespace Go.Proofs.YtgkefaojbdjnoaaDoor
open Go.RowKit
set_option linter.unusedVariables false
set_option linter.unusedSimpArgs false
theorem Tryd.info21 : (Tryd.prog.info? 21).map (fun i => (i.zero, i.size, i.bytes)) = some (some (.int .i32 0), 1, 4) := by kernel_rfl
theorem Tryd.info3 : (Tryd.prog.info? 3).map (fun i => (i.zero, i.size, i.bytes)) = some (some (.int .i64 0), 1, 8) := by kernel_rfl
theorem grown_iterAt (w : World) (k : Nat) (s : ByteArray) (pos : Nat) : w.grownBy (w.iterAt k s pos) (some k) :=
  ⟨rfl, rfl, rfl, by rw [Lib.iterAt_size]; exact Nat.le_refl _, fun j _ hne => Lib.iterAt_other w k j s pos (fun e => hne (by rw [e]))⟩
/-- numbers as cells -/
def cells (k : IntKind) (xs : List Nat) : List Value := xs.map fun c : Nat => Value.int k (c : Int)
theorem cells_len (k : IntKind) (xs : List Nat) : (cells k xs).length = xs.length := by simp [cells]
theorem cells_snoc (k : IntKind) (xs : List Nat) (c : Nat) : cells k (xs ++ [c]) = cells k xs ++ [Value.int k (c : Int)] := by simp [cells]
/-- a slice value whose elements read as these numbers -/
def Seg (k : IntKind) (w : World) (v : Value) (xs : List Nat) : Prop :=
  ∃ a cap, v = .slice a xs.length cap ∧ (xs ≠ [] → ∃ b, a = some ⟨b, 0, none⟩ ∧ b < w.heap.size ∧ ∀ j, j < xs.length → w.cell? ⟨b, j, none⟩ = some (.int k ((xs.getD j 0 : Nat) : Int)))
theorem Seg.below {k : IntKind} {w w' : World} {v : Value} {xs : List Nat} (h : Seg k w v xs) (hb : Below w.heap.size w w') : Seg k w' v xs := by
  obtain ⟨a, cap, rfl, h2⟩ := h
  refine ⟨a, cap, rfl, fun hx => ?_⟩
  obtain ⟨b, rfl, hlt, hc⟩ := h2 hx
  exact ⟨b, rfl, Nat.lt_of_lt_of_le hlt hb.size, fun j hj => (hb.cell (by exact hlt)).trans (hc j hj)⟩
theorem Seg.of_owns {k : IntKind} {w : World} {base e : Nat} {v : Value} {xs : List Nat} (h : w.ownsRow base e 1 v xs.length (cells k xs)) : Seg k w v xs := by
  by_cases h0 : 0 < xs.length
  · obtain ⟨g, cap, hv, hb, hlt⟩ : ∃ g cap, v = .slice (some ⟨g, 0, none⟩) xs.length cap ∧ base ≤ g ∧ g < w.heap.size := by
      rcases h.2 with ⟨_, hn⟩ | ⟨g, cap, cur, hv, hb, hg, _⟩
      · omega
      · exact ⟨g, cap, hv, hb, (Array.getElem?_eq_some_iff.1 hg).1⟩
    refine ⟨_, cap, hv, fun _ => ⟨g, rfl, hlt, fun j hj => ?_⟩⟩
    have hc := h.cells (g := g) (by rw [hv]; rfl) j (.int k ((xs.getD j 0 : Nat) : Int)) (by simp [cells, List.getD_eq_getElem?_getD, hj])
    have ha : (⟨g, 0, none⟩ : Addr).add j = ⟨g, j, none⟩ := by
      cases j <;> simp [Addr.add]
    rw [ha] at hc
    exact hc
  · have : xs = [] := by
      cases xs with
      | nil => rfl
      | cons _ _ => simp at h0
    subst this
    rcases h.2 with ⟨hv, _⟩ | ⟨g, cap, cur, hv, _⟩
    · exact ⟨none, 0, hv, fun h => absurd rfl h⟩
    · exact ⟨_, cap, hv, fun h => absurd rfl h⟩
theorem cell_of_new {w : World} {k : IntKind} {c : Int} {e : TypeId} : ∀ (j : Nat) (u : Value), [Value.int k c][j]? = some u → (w.alloc (.cells #[.int k c] e)).cell? ((⟨w.heap.size, 0, none⟩ : Addr).add j) = some u := by
  intro j u hj
  match j, hj with
  | 0, hj =>
    simp at hj
    subst hj
    simp [Addr.add]
theorem one_cell {k : IntKind} {c : Int} : ∀ u ∈ [Value.int k c], u.oneCell' = true := by
  intro u hu
  simp at hu
  subst hu
  rfl
def RP (l : List UInt8) (w : World) (e : Ending) (w' : World) : Prop := ∃ v, e = .returned (.tuple #[v, .bool (ok l 0)]) ∧ Seg .i32 w' v (cs l 0) ∧ Below w.heap.size w w'
theorem RP.mk {l : List UInt8} {w w' : World} {v : Value} {g : Bool} (hg : g = ok l 0) (h : Seg .i32 w' v (cs l 0)) (hb : Below w.heap.size w w') : RP l w (.returned (.tuple #[v, .bool g])) w' := ⟨v, by rw [hg], h, hb⟩
set_option maxHeartbeats 4000000 in
theorem xrunes (s : ByteArray) (hs : s.size ≤ 1099511627776) (w : World) : Calls Tryd.prog 12 #[.string s] w (RP s.data.toList w) := by
  have HL : Hid (s.data.toList.length = s.size) := rfl
  obtain ⟨i0, hi, hz0, hz1, hz2⟩ := info_parts Tryd.info21
  have HI : Hid (Tryd.prog.info? 21 = some i0 ∧ i0.zero = some (.int .i32 0) ∧ i0.size = 1 ∧ i0.bytes = 4) := ⟨hi, hz0, hz1, hz2⟩
  clear hi hz0 hz1 hz2
  have hlt : Hid (w.heap.size < w.heap.size + 1) := Nat.lt_succ_self _
  go_enter Tryd.func12, Tryd.ntmps12
  go_wp2_with fail
  go_loopw [4, 5] (fun v b wr => ∃ (pos : Nat) (xs : List Nat) (g : Bool), Hid (wr.heap[w.heap.size]? = some (.stringIter s pos)) ∧ Hid (wr.ownsRow (w.heap.size + 1) 21 1 v xs.length (cells .i32 xs)) ∧ Hid (Below w.heap.size w wr) ∧ b = .bool g ∧ Hid (xs ++ cs s.data.toList pos = cs s.data.toList 0) ∧ Hid ((g && ok s.data.toList pos) = ok s.data.toList 0) ∧ xs.length ≤ pos ∧ pos ≤ s.size) (fun _ _ wr => s.size - wr.iterPos w.heap.size)
  case atStart => exact ⟨0, [], true, World.iter_heap w s 0, World.ownsRow_nil _ _ _ _, below_iter w s 0, rfl, rfl, by unfold Hid; rw [Bool.true_and], Nat.le_refl _, Nat.zero_le _⟩
  case round =>
    obtain ⟨pos, xs, g, hit, hown, hbw, rfl, hxs, hok, hxl, hps⟩ := hrel
    have hsz : w.heap.size < wr.heap.size := (Array.getElem?_eq_some_iff.1 hit.out).1
    by_cases hp : pos < s.size
    · have hnx : ∀ ty, (Instr.next (.pointer (some ⟨w.heap.size, 0, none⟩)) true ty).run Tryd.prog wr = _ := fun ty => next_at wr w.heap.size s pos ty hit.out hp
      have hwd := D_pos s.data.toList pos
      have hcv := (D_V s.data.toList pos).le
      have hin : pos + (D s.data.toList pos).2.1 ≤ s.size := D_in s.data.toList pos hp
      have Hst : Hid (cs s.data.toList pos = (D s.data.toList pos).1 :: cs s.data.toList (pos + (D s.data.toList pos).2.1)) := cs_step (by rw [HL.out]; exact hp)
      have Hok : Hid (ok s.data.toList pos = ((D s.data.toList pos).2.2 && ok s.data.toList (pos + (D s.data.toList pos).2.1))) := ok_step (by rw [HL.out]; exact hp)
      have His : Hid _ := D_is s.data.toList pos
      have hnb : ∀ j, u4.ownBlock = some j → w.heap.size < j := fun j hj => (hown.out.lt j hj).1
      have hit2 : Hid _ := Lib.iterAt_heap wr w.heap.size s pos (pos + (D s.data.toList pos).2.1) hit.out
      have hown2 : Hid ((wr.iterAt w.heap.size s (pos + (D s.data.toList pos).2.1)).ownsRow (w.heap.size + 1) 21 1 u4 xs.length (cells .i32 xs)) := hown.out.kept (grown_iterAt wr w.heap.size s (pos + (D s.data.toList pos).2.1)) (by
        cases hv : u4.ownBlock with
        | none => exact .inl rfl
        | some j => exact .inr (fun e => by have := hnb j hv; have := Option.some.inj e; omega))
      have hbw2 : Hid _ := Lib.below_iterAt hbw.out (k := w.heap.size) (Nat.le_refl _) s (pos + (D s.data.toList pos).2.1)
      have hsz2 : w.heap.size < (wr.iterAt w.heap.size s (pos + (D s.data.toList pos).2.1)).heap.size := by rw [Lib.iterAt_size]; exact hsz
      generalize (D s.data.toList pos).2.2 = b at *
      generalize (D s.data.toList pos).2.1 = k at *
      generalize (D s.data.toList pos).1 = c at *
      have Hnb : Hid (∀ j, u4.ownBlock = some j → w.heap.size < j) := hnb
      clear hnb
      generalize wr.iterAt w.heap.size s (pos + k) = wi at *
      have hfin : ∀ (v' : Value) (w1 : World) (g' : Bool), w1.ownsRow (w.heap.size + 1) 21 1 v' (xs.length + 1) (cells .i32 xs ++ [.int .i32 c]) → (wi.alloc (.cells #[.int .i32 c] 21)).grownBy w1 u4.ownBlock → g' = (g && b) →
          (∃ (pos' : Nat) (xs' : List Nat) (g'' : Bool), Hid (w1.heap[w.heap.size]? = some (.stringIter s pos')) ∧ Hid (w1.ownsRow (w.heap.size + 1) 21 1 v' xs'.length (cells .i32 xs')) ∧ Hid (Below w.heap.size w w1) ∧ Value.bool g' = .bool g'' ∧ Hid (xs' ++ cs s.data.toList pos' = cs s.data.toList 0) ∧ Hid ((g'' && ok s.data.toList pos') = ok s.data.toList 0) ∧ xs'.length ≤ pos' ∧ pos' ≤ s.size) ∧ s.size - w1.iterPos w.heap.size < s.size - wr.iterPos w.heap.size := by
        intro v' w1 g' ho hg hgb
        have hb : w1.heap[w.heap.size]? = some (.stringIter s (pos + k)) := by
          rw [hg.block w.heap.size (by simp; omega) (by
            cases hv : u4.ownBlock with
            | none => simp
            | some j => intro e; have := Hnb.out j hv; have := Option.some.inj e; omega)]
          rw [Lib.alloc_old wi _ _ hsz2]
          exact hit2.out
        refine ⟨⟨pos + k, xs ++ [c], g', hb, ?_, ?_, rfl, ?_, ?_, by simp; omega, hin⟩, ?_⟩
        · unfold Hid
          rw [cells_snoc, List.length_append]
          exact ho
        · exact (hbw2.out.alloc (by omega) _).grown hg (by simp; omega) (fun j hj => by have := Hnb.out j hj; omega)
        · have h1 := hxs.out
          rw [Hst.out] at h1
          unfold Hid
          rw [← h1]
          simp
        · have h1 := hok.out
          rw [Hok.out] at h1
          unfold Hid
          rw [← h1, hgb, Bool.and_assoc]
        · simp only [World.iterPos, hb, hit.out]
          omega
      have Hfin : Hid _ := hfin
      clear hfin
      have hcl : c < 1114112 := hcv
      by_cases hc : c = 65533
      · subst hc
        have hsl : (s.extract pos s.size).data.toList = s.data.toList.drop pos := by
          simp only [ByteArray.data_extract, Array.toList_extract, List.extract_eq_take_drop]
          rw [List.take_of_length_le (by rw [List.length_drop, HL.out]; omega)]
        have HP : Hid (∀ w, Calls Tryd.prog 33 #[.string (s.extract pos s.size), .string ⟨#[239, 191, 189]⟩] w fun e w' => e = .returned (.bool b) ∧ w = w') := fun w => (Tryd.strings_HasPrefix (s.extract pos s.size) ⟨#[239, 191, 189]⟩ w).mono fun e w' ⟨he, hw⟩ => ⟨by
          rw [he, hsl, His.out]
          simp [Lib.hasPrefix], hw.symm⟩
        have hpz : (pos : Int) ≤ (s.size : Int) := by omega
        clear hsl
        cases b
        · go_wp2_with (first | (at_builtin; refine wpList_append_own_at _ rfl _ _ 29 rfl (w.heap.size + 1) 21 i0 (.int .i32 0) 1 4 Tryd.underlying29 HI.out.1 HI.out.2.1 HI.out.2.2.1 HI.out.2.2.2 rfl (by decide) _ _ _ rfl (hown2.out.alloc _) ⟨wi.heap.size, 0, none⟩ 1 1 [.int .i32 65533] rfl rfl cell_of_new one_cell (by unfold maxLen; omega) (by omega) (by simp; omega) ?_; intro v' w1 hown' hgrow _ _; have HO : Hid _ := hown'; have HG : Hid _ := hgrow; clear hown' hgrow) | (go_at_call 33; refine Calls.mono (HP.out _) ?_; rintro e w2 ⟨rfl, rfl⟩))
          exact Hfin.out v' w1 false HO.out HG.out (by simp)
        · go_wp2_with (first | (at_builtin; refine wpList_append_own_at _ rfl _ _ 29 rfl (w.heap.size + 1) 21 i0 (.int .i32 0) 1 4 Tryd.underlying29 HI.out.1 HI.out.2.1 HI.out.2.2.1 HI.out.2.2.2 rfl (by decide) _ _ _ rfl (hown2.out.alloc _) ⟨wi.heap.size, 0, none⟩ 1 1 [.int .i32 65533] rfl rfl cell_of_new one_cell (by unfold maxLen; omega) (by omega) (by simp; omega) ?_; intro v' w1 hown' hgrow _ _; have HO : Hid _ := hown'; have HG : Hid _ := hgrow; clear hown' hgrow) | (go_at_call 33; refine Calls.mono (HP.out _) ?_; rintro e w2 ⟨rfl, rfl⟩))
          exact Hfin.out v' w1 g HO.out HG.out (by simp)
      · have hcb : ((c : Int) == 65533) = false := beq_eq_false_iff_ne.2 (by omega)
        have Hb : Hid (b = true) := by unfold Hid; rw [His.out]; simp [hc]
        clear hc
        go_wp2_with (at_builtin; refine wpList_append_own_at _ rfl _ _ 29 rfl (w.heap.size + 1) 21 i0 (.int .i32 0) 1 4 Tryd.underlying29 HI.out.1 HI.out.2.1 HI.out.2.2.1 HI.out.2.2.2 rfl (by decide) _ _ _ rfl (hown2.out.alloc _) ⟨wi.heap.size, 0, none⟩ 1 1 [.int .i32 c] rfl rfl cell_of_new one_cell (by unfold maxLen; omega) (by omega) (by simp; omega) ?_; intro v' w1 hown' hgrow _ _; have HO : Hid _ := hown'; have HG : Hid _ := hgrow; clear hown' hgrow)
        exact Hfin.out v' w1 g HO.out HG.out (by rw [Hb.out, Bool.and_true])
    · have hnx : ∀ ty, (Instr.next (.pointer (some ⟨w.heap.size, 0, none⟩)) true ty).run Tryd.prog wr = _ := fun ty => Lib.run_next_end_at wr w.heap.size s pos ty hit.out hp
      go_wp2_with fail
      go_ret2
      have h1 := hxs.out
      have h2 := hok.out
      rw [cs_end (by rw [HL.out]; omega), List.append_nil] at h1
      rw [ok_end (by rw [HL.out]; omega), Bool.and_true] at h2
      refine RP.mk h2 ?_ hbw.out
      rw [← h1]
      exact Seg.of_owns hown.out
end Go.Proofs.YtgkefaojbdjnoaaDoor
