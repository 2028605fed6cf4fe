/- Read of the program and of the reference. -/
import Derived.Test.YtpddddnjmklfdaaJ
import Derived.WalkKit
import Derived.ProofKit
import Derived.Handy
import Derived.WalkLawsBesides
import Derived.WalkSpells
import Derived.BigQuiet
import Derived.BigCall
import Derived.Deep.QuietTactic
import Derived.Deep.Light
import Derived.Deep.OwnRows
import Derived.Laws.AppendOwnNone
import Derived.Laws.Strings3
import Derived.Laws.RangeAny
import Derived.Deep.RegionWith
import Derived.Lib.BitFns
import Derived.Lib.Walk
import Derived.Lib.Strings
import Derived.Lib.OthersKept
import Derived.Deep.CutBlock
import Derived.Deep.DeepCutAuto
import Derived.Deep.LoopGhost
import Derived.Deep.RegionHeld3
import Derived.Lib.SmallJoins
import Derived.Maps.AppendAt
import Derived.Laws.IdiomStrings
import Derived.Lib.AppendZeros
import Derived.Deep.WholeRow
import Derived.Laws.BitsAllLaws
namespace Go.Proofs.Ytpddddnjmklfdaa
open Go.RowKit
set_option linter.unusedVariables false
set_option linter.unusedSimpArgs false
theorem Try.info9 : (Try.prog.info? 9).map (fun i => (i.zero, i.size, i.bytes)) = some (some (.string ⟨#[]⟩), 1, 16) := by kernel_rfl
/-- texts as cells -/
def scells (xs : List ByteArray) : List Value := xs.map fun s => Value.string s
theorem scells_len (xs : List ByteArray) : (scells xs).length = xs.length := List.length_map ..
theorem scells_app (xs ys : List ByteArray) : scells (xs ++ ys) = scells xs ++ scells ys := List.map_append ..
theorem one_scells {xs : List ByteArray} : ∀ u ∈ scells xs, u.oneCell' = true := by
  intro u hu
  simp only [scells, List.mem_map] at hu
  obtain ⟨c, _, rfl⟩ := hu
  rfl
theorem Strs.of_owns {w : World} {base e : Nat} {v : Value} {xs : List ByteArray} (h : w.ownsRow base e 1 v xs.length (scells xs)) (hl : xs.length ≤ 140737488355328) (hs : ∀ s ∈ xs, s.size ≤ 140737488355328) : ∃ a cap, v = .slice a xs.length cap ∧ Strs w a xs := by
  by_cases h0 : 0 < xs.length
  · obtain ⟨g, cap, hv, hb, hlt⟩ : ∃ g cap, v = .slice (some ⟨g, 0, none⟩) xs.length cap ∧ base ≤ g ∧ g < w.heap.size := by
      rcases h.2 with ⟨_, hn⟩ | ⟨g, cap, cur, hv, hb, hg, _⟩
      · omega
      · exact ⟨g, cap, hv, hb, (Array.getElem?_eq_some_iff.1 hg).1⟩
    refine ⟨_, cap, hv, fun _ => ⟨g, 0, rfl, hlt, fun j hj => ?_⟩, hl, hs⟩
    have hc := h.cells (g := g) (by rw [hv]; rfl) j (.string xs[j]) (by simp [scells, hj])
    have ha : (⟨g, 0, none⟩ : Addr).add j = ⟨g, 0 + j, none⟩ := by
      cases j <;> simp [Addr.add]
    rw [ha] at hc
    exact hc
  · have : xs = [] := by
      cases xs with
      | nil => rfl
      | cons _ _ => simp at h0
    subst this
    rcases h.2 with ⟨hv, _⟩ | ⟨g, cap, cur, hv, _⟩
    · exact ⟨none, 0, hv, fun h => absurd h (by simp), hl, hs⟩
    · exact ⟨_, cap, hv, fun h => absurd h (by simp), hl, hs⟩
theorem own_keep {w w' : World} {B e size n : Nat} {v : Value} {xs : List Value} (h : w.ownsRow B e size v n xs) (hb : Below w.heap.size w w') : w'.ownsRow B e size v n xs := by
  refine ⟨h.1, ?_⟩
  rcases h.2 with h2 | ⟨g, cap, cur, hv, hB, hg, hr⟩
  · exact .inl h2
  · exact .inr ⟨g, cap, cur, hv, hB, by rw [hb.block g (Array.getElem?_eq_some_iff.1 hg).1]; exact hg, hr⟩
/-- what Read hands back -/
def RP (l : List UInt8) (w : World) (e : Ending) (w' : World) : Prop :=
  ∃ (xs : List ByteArray) (a : Option Addr) (cap : Nat), e = .returned (.tuple #[.slice a xs.length cap, .int .i64 ((rdA l).2.1 : Nat), .int .i64 ((rdA l).2.2 : Nat)]) ∧ ls xs = (rdA l).1 ∧ Strs w' a xs ∧ Below w.heap.size w w'
theorem RP.mk {l : List UInt8} {w w' : World} {v : Value} {y z : Int} {xs : List ByteArray} {n m : Nat} (hy : y = n) (hz : z = m) (hr : rdA l = (ls xs, n, m)) (h : w'.ownsRow w.heap.size 9 1 v xs.length (scells xs)) (hl : xs.length ≤ 140737488355328) (hs : ∀ s ∈ xs, s.size ≤ 140737488355328) (hb : Below w.heap.size w w') : RP l w (.returned (.tuple #[v, .int .i64 y, .int .i64 z])) w' := by
  obtain ⟨a, cap, rfl, hst⟩ := Strs.of_owns h hl hs
  exact ⟨xs, a, cap, by rw [hr, hy, hz], by rw [hr], hst, hb⟩
/-- from a place on -/
def At (l : List UInt8) (xs : List ByteArray) (k : Nat) : Prop := rdA l = (ls xs ++ (rdA (l.drop k)).1, k + (rdA (l.drop k)).2.1, (rdA (l.drop k)).2.2)
theorem At.end_ {l : List UInt8} {xs : List ByteArray} {k : Nat} (h : At l xs k) (hk : l.length ≤ k) : rdA l = (ls xs, k, 0) := by
  unfold At at h
  rw [h, rdA_end (by rw [List.length_drop]; omega), List.append_nil]
  rfl
theorem At.no {l : List UInt8} {xs : List ByteArray} {k : Nat} (h : At l xs k) (hk : k < l.length) (he : nextE (l.drop k) ≠ 0) : rdA l = (ls xs, k, nextE (l.drop k)) := by
  unfold At at h
  rw [h, rdA_no (by rw [List.length_drop]; omega) he, List.append_nil]
  rfl
theorem At.next {l : List UInt8} {xs : List ByteArray} {k : Nat} (h : At l xs k) (hk : k < l.length) (he : nextE (l.drop k) = 0) : At l (xs ++ [⟨(nextL (l.drop k)).toArray⟩]) (k + nextN (l.drop k)) := by
  unfold At at h ⊢
  rw [h, rdA_step (by rw [List.length_drop]; omega) he, List.drop_drop]
  refine Prod.ext ?_ (Prod.ext ?_ rfl)
  · show ls xs ++ nextL (l.drop k) :: _ = ls (xs ++ [_]) ++ _
    rw [show ls (xs ++ [(⟨(nextL (l.drop k)).toArray⟩ : ByteArray)]) = ls xs ++ [nextL (l.drop k)] from List.map_append .., List.append_assoc]
    rfl
  · show k + (_ + _) = k + _ + _
    rw [Nat.add_assoc]
theorem next_bounds {l : List UInt8} (h : nextE l = 0) : (nextL l).length ≤ 4096 ∧ 12 ≤ nextN l ∧ nextN l ≤ l.length := by
  have h1 := nextE_ok h
  refine ⟨?_, by rw [nextN_ok h]; omega, nextN_le h⟩
  rw [nextL_ok h, List.length_take]
  omega
set_option maxHeartbeats 4000000 in
theorem xread (s : ByteArray) (hs : s.size ≤ 1099511627776) (w : World) : Calls Try.prog 19 #[.string s] w (RP s.data.toList w) := by
  have HL : Hid (s.data.toList.length = s.size) := rfl
  obtain ⟨i0, hi, hz0, hz1, hz2⟩ := info_parts Try.info9
  have HI : Hid (Try.prog.info? 9 = some i0 ∧ i0.zero = some (.string ⟨#[]⟩) ∧ i0.size = 1 ∧ i0.bytes = 16) := ⟨hi, hz0, hz1, hz2⟩
  clear hi hz0 hz1 hz2
  go_enter Try.func19, Try.ntmps19
  go_wp2_with fail
  go_loopw [5, 6] (fun v i wr => ∃ (k : Nat) (xs : List ByteArray), i = .int .i64 k ∧ k ≤ s.size ∧ Hid (wr.ownsRow w.heap.size 9 1 v xs.length (scells xs)) ∧ Hid (Below w.heap.size w wr) ∧ Hid (At s.data.toList xs k) ∧ 12 * xs.length ≤ k ∧ Hid (∀ t ∈ xs, t.size ≤ 140737488355328)) (fun _ i _ => s.size - (Lib.intOf i).toNat)
  case atStart => exact ⟨0, [], rfl, Nat.zero_le _, World.ownsRow_nil _ _ _ _, Below.refl _ _, by unfold Hid At; rw [List.drop_zero, Nat.zero_add]; rfl, Nat.le_refl _, fun t ht => by cases ht⟩
  case round =>
    obtain ⟨k, xs, rfl, hk, hown, hbw, hat, hxl, hxs⟩ := hrel
    by_cases hkn : k < s.size
    · have hkz : (k : Int) < (s.size : Int) := by omega
      have hkz2 : (k : Int) ≤ (s.size : Int) := by omega
      have e2 := drop_all s k
      have s2 := ext_len s k s.size (Nat.le_refl _)
      have hsz : w.heap.size ≤ wr.heap.size := hbw.out.size
      have HN : Hid (∀ w, Calls Try.prog 17 #[.string (s.extract k s.size)] w fun e w' => e = .returned (.tuple #[.string ⟨(nextL (s.data.toList.drop k)).toArray⟩, .int .i64 (nextN (s.data.toList.drop k)), .int .i64 (nextE (s.data.toList.drop k))]) ∧ Below w.heap.size w w') := fun w => by
        have := xnext (s.extract k s.size) (by omega) w
        rw [e2] at this
        exact this
      by_cases he : nextE (s.data.toList.drop k) = 0
      · have hA := hat.out.next (by rw [HL.out]; exact hkn) he
        obtain ⟨b1, b2, b3⟩ := next_bounds he
        rw [he] at HN
        rw [List.length_drop, HL.out] at b3
        have hRs : (⟨(nextL (s.data.toList.drop k)).toArray⟩ : ByteArray).size ≤ 4096 := by rw [ba_size]; exact b1
        generalize (⟨(nextL (s.data.toList.drop k)).toArray⟩ : ByteArray) = R at *
        generalize nextN (s.data.toList.drop k) = n at *
        clear e2 b1 he hat
        have HA : Hid (At s.data.toList (xs ++ [R]) (k + n)) := hA
        clear hA
        have HK : Hid (∀ (w1 : World), Below wr.heap.size wr w1 → w1.ownsRow w.heap.size 9 1 u5 xs.length (scells xs)) := fun w1 hb => own_keep hown.out hb
        have hkn2 : (k : Int) + (n : Int) ≤ 1099511627776 := by omega
        have Hfin : Hid (∀ (v' : Value) (w1 w2 : World) (o : Obj), Below w.heap.size w w1 → w1.ownsRow w.heap.size 9 1 u5 xs.length (scells xs) → w2.ownsRow w.heap.size 9 1 v' (xs.length + 1) (scells xs ++ [.string R]) → (w1.alloc o).grownBy w2 u5.ownBlock →
          (∃ (k' : Nat) (xs' : List ByteArray), Value.int .i64 ((k : Int) + (n : Int)) = .int .i64 k' ∧ k' ≤ s.size ∧ Hid (w2.ownsRow w.heap.size 9 1 v' xs'.length (scells xs')) ∧ Hid (Below w.heap.size w w2) ∧ Hid (At s.data.toList xs' k') ∧ 12 * xs'.length ≤ k' ∧ Hid (∀ t ∈ xs', t.size ≤ 140737488355328)) ∧ s.size - (Lib.intOf (Value.int .i64 ((k : Int) + (n : Int)))).toNat < s.size - (Lib.intOf (Value.int .i64 (k : Int))).toNat) := by
          intro v' w1 w2 o hb hw1 ho hg
          refine ⟨⟨k + n, xs ++ [R], by rw [Int.natCast_add], by omega, ?_, ?_, HA.out, ?_, ?_⟩, ?_⟩
          · unfold Hid
            rw [scells_app, List.length_append]
            exact ho
          · exact (hb.alloc hb.size _).grown hg (by simp; have := hb.size; omega) (fun j hj => (hw1.lt j hj).1)
          · rw [List.length_append]
            show 12 * (xs.length + 1) ≤ _
            omega
          · intro t ht
            rcases List.mem_append.1 ht with h | h
            · exact hxs.out t h
            · rw [List.mem_singleton] at h
              subst h
              omega
          · simp only [Lib.intOf]
            omega
        clear HA hown
        go_wp2_with fail
        refine (HN.out _).mono ?_
        rintro e w1 ⟨rfl, hb1⟩
        have HB1 : Hid (Below w.heap.size w w1) := hbw.out.trans (hb1.mono hsz)
        have HO1 : Hid (w1.ownsRow w.heap.size 9 1 u5 xs.length (scells xs)) := HK.out w1 hb1
        have hsz1 : w.heap.size ≤ w1.heap.size := HB1.out.size
        clear hb1 HK
        go_wp2_with (at_builtin; refine wpList_append_own_at _ rfl _ _ 22 rfl w.heap.size 9 i0 (.string ⟨#[]⟩) 1 16 Try.underlying22 HI.out.1 HI.out.2.1 HI.out.2.2.1 HI.out.2.2.2 rfl (by decide) _ _ _ rfl (HO1.out.alloc _) ⟨w1.heap.size, 0, none⟩ 1 1 [.string R] rfl rfl (cell_one_new _ _ _) (one_scells (xs := [R])) (by unfold maxLen; omega) (by omega) (by simp; omega) ?_; intro v' w2 hown' hgrow _ _; have HO : Hid _ := hown'; have HGr : Hid _ := hgrow; clear hown' hgrow)
        exact Hfin.out v' w1 w2 _ HB1.out HO1.out HO.out HGr.out
      · have HA : Hid (rdA s.data.toList = (ls xs, k, nextE (s.data.toList.drop k))) := hat.out.no (by rw [HL.out]; exact hkn) he
        have hv := nextE_vals (s.data.toList.drop k)
        have HR : Hid (nextL (s.data.toList.drop k) = [] ∧ nextN (s.data.toList.drop k) = 0) := ⟨nextL_no he, nextN_no he⟩
        rw [HR.out.1, HR.out.2] at HN
        generalize nextE (s.data.toList.drop k) = m at *
        have hm0 : ((m : Int) != 0) = true := by rw [bne_iff_ne]; omega
        have HK : Hid (∀ (w1 : World), Below wr.heap.size wr w1 → w1.ownsRow w.heap.size 9 1 u5 xs.length (scells xs)) := fun w1 hb => own_keep hown.out hb
        clear e2 hat hown HR he
        go_wp2_with fail
        refine (HN.out _).mono ?_
        rintro e w1 ⟨rfl, hb1⟩
        have HB1 : Hid (Below w.heap.size w w1) := hbw.out.trans (hb1.mono hsz)
        have HO1 : Hid (w1.ownsRow w.heap.size 9 1 u5 xs.length (scells xs)) := HK.out w1 hb1
        clear hb1 HK
        go_wp2_with fail
        go_ret3
        exact RP.mk rfl rfl HA.out HO1.out (by omega) hxs.out HB1.out
    · have hkz : ¬ (k : Int) < (s.size : Int) := by omega
      have HA : Hid (rdA s.data.toList = (ls xs, k, 0)) := hat.out.end_ (by rw [HL.out]; omega)
      clear hat
      go_wp2_with fail
      go_ret3
      exact RP.mk rfl rfl HA.out hown.out (by omega) hxs.out hbw.out
set_option maxHeartbeats 4000000 in
theorem rread (s : ByteArray) (hs : s.size ≤ 1099511627776) (w : World) : Calls Try.prog 20 #[.string s] w (RP s.data.toList w) := by
  have HL : Hid (s.data.toList.length = s.size) := rfl
  obtain ⟨i0, hi, hz0, hz1, hz2⟩ := info_parts Try.info9
  have HI : Hid (Try.prog.info? 9 = some i0 ∧ i0.zero = some (.string ⟨#[]⟩) ∧ i0.size = 1 ∧ i0.bytes = 16) := ⟨hi, hz0, hz1, hz2⟩
  clear hi hz0 hz1 hz2
  go_enter Try.func20, Try.ntmps20
  go_wp2_with fail
  go_loopw [5, 6] (fun v i wr => ∃ (k : Nat) (xs : List ByteArray), i = .int .i64 k ∧ k ≤ s.size ∧ Hid (wr.ownsRow w.heap.size 9 1 v xs.length (scells xs)) ∧ Hid (Below w.heap.size w wr) ∧ Hid (At s.data.toList xs k) ∧ 12 * xs.length ≤ k ∧ Hid (∀ t ∈ xs, t.size ≤ 140737488355328)) (fun _ i _ => s.size - (Lib.intOf i).toNat)
  case atStart => exact ⟨0, [], rfl, Nat.zero_le _, World.ownsRow_nil _ _ _ _, Below.refl _ _, by unfold Hid At; rw [List.drop_zero, Nat.zero_add]; rfl, Nat.le_refl _, fun t ht => by cases ht⟩
  case round =>
    obtain ⟨k, xs, rfl, hk, hown, hbw, hat, hxl, hxs⟩ := hrel
    by_cases hkn : k < s.size
    · have hkz : (k : Int) < (s.size : Int) := by omega
      have hkz2 : (k : Int) ≤ (s.size : Int) := by omega
      have e2 := drop_all s k
      have s2 := ext_len s k s.size (Nat.le_refl _)
      have hsz : w.heap.size ≤ wr.heap.size := hbw.out.size
      have HN : Hid (∀ w, Calls Try.prog 18 #[.string (s.extract k s.size)] w fun e w' => e = .returned (.tuple #[.string ⟨(nextL (s.data.toList.drop k)).toArray⟩, .int .i64 (nextN (s.data.toList.drop k)), .int .i64 (nextE (s.data.toList.drop k))]) ∧ Below w.heap.size w w') := fun w => by
        have := rnext (s.extract k s.size) (by omega) w
        rw [e2] at this
        exact this
      by_cases he : nextE (s.data.toList.drop k) = 0
      · have hA := hat.out.next (by rw [HL.out]; exact hkn) he
        obtain ⟨b1, b2, b3⟩ := next_bounds he
        rw [he] at HN
        rw [List.length_drop, HL.out] at b3
        have hRs : (⟨(nextL (s.data.toList.drop k)).toArray⟩ : ByteArray).size ≤ 4096 := by rw [ba_size]; exact b1
        generalize (⟨(nextL (s.data.toList.drop k)).toArray⟩ : ByteArray) = R at *
        generalize nextN (s.data.toList.drop k) = n at *
        clear e2 b1 he hat
        have HA : Hid (At s.data.toList (xs ++ [R]) (k + n)) := hA
        clear hA
        have HK : Hid (∀ (w1 : World), Below wr.heap.size wr w1 → w1.ownsRow w.heap.size 9 1 u5 xs.length (scells xs)) := fun w1 hb => own_keep hown.out hb
        have hkn2 : (k : Int) + (n : Int) ≤ 1099511627776 := by omega
        have Hfin : Hid (∀ (v' : Value) (w1 w2 : World) (o : Obj), Below w.heap.size w w1 → w1.ownsRow w.heap.size 9 1 u5 xs.length (scells xs) → w2.ownsRow w.heap.size 9 1 v' (xs.length + 1) (scells xs ++ [.string R]) → (w1.alloc o).grownBy w2 u5.ownBlock →
          (∃ (k' : Nat) (xs' : List ByteArray), Value.int .i64 ((k : Int) + (n : Int)) = .int .i64 k' ∧ k' ≤ s.size ∧ Hid (w2.ownsRow w.heap.size 9 1 v' xs'.length (scells xs')) ∧ Hid (Below w.heap.size w w2) ∧ Hid (At s.data.toList xs' k') ∧ 12 * xs'.length ≤ k' ∧ Hid (∀ t ∈ xs', t.size ≤ 140737488355328)) ∧ s.size - (Lib.intOf (Value.int .i64 ((k : Int) + (n : Int)))).toNat < s.size - (Lib.intOf (Value.int .i64 (k : Int))).toNat) := by
          intro v' w1 w2 o hb hw1 ho hg
          refine ⟨⟨k + n, xs ++ [R], by rw [Int.natCast_add], by omega, ?_, ?_, HA.out, ?_, ?_⟩, ?_⟩
          · unfold Hid
            rw [scells_app, List.length_append]
            exact ho
          · exact (hb.alloc hb.size _).grown hg (by simp; have := hb.size; omega) (fun j hj => (hw1.lt j hj).1)
          · rw [List.length_append]
            show 12 * (xs.length + 1) ≤ _
            omega
          · intro t ht
            rcases List.mem_append.1 ht with h | h
            · exact hxs.out t h
            · rw [List.mem_singleton] at h
              subst h
              omega
          · simp only [Lib.intOf]
            omega
        clear HA hown
        go_wp2_with fail
        refine (HN.out _).mono ?_
        rintro e w1 ⟨rfl, hb1⟩
        have HB1 : Hid (Below w.heap.size w w1) := hbw.out.trans (hb1.mono hsz)
        have HO1 : Hid (w1.ownsRow w.heap.size 9 1 u5 xs.length (scells xs)) := HK.out w1 hb1
        have hsz1 : w.heap.size ≤ w1.heap.size := HB1.out.size
        clear hb1 HK
        go_wp2_with (at_builtin; refine wpList_append_own_at _ rfl _ _ 22 rfl w.heap.size 9 i0 (.string ⟨#[]⟩) 1 16 Try.underlying22 HI.out.1 HI.out.2.1 HI.out.2.2.1 HI.out.2.2.2 rfl (by decide) _ _ _ rfl (HO1.out.alloc _) ⟨w1.heap.size, 0, none⟩ 1 1 [.string R] rfl rfl (cell_one_new _ _ _) (one_scells (xs := [R])) (by unfold maxLen; omega) (by omega) (by simp; omega) ?_; intro v' w2 hown' hgrow _ _; have HO : Hid _ := hown'; have HGr : Hid _ := hgrow; clear hown' hgrow)
        exact Hfin.out v' w1 w2 _ HB1.out HO1.out HO.out HGr.out
      · have HA : Hid (rdA s.data.toList = (ls xs, k, nextE (s.data.toList.drop k))) := hat.out.no (by rw [HL.out]; exact hkn) he
        have hv := nextE_vals (s.data.toList.drop k)
        have HR : Hid (nextL (s.data.toList.drop k) = [] ∧ nextN (s.data.toList.drop k) = 0) := ⟨nextL_no he, nextN_no he⟩
        rw [HR.out.1, HR.out.2] at HN
        generalize nextE (s.data.toList.drop k) = m at *
        have hm0 : ((m : Int) != 0) = true := by rw [bne_iff_ne]; omega
        have HK : Hid (∀ (w1 : World), Below wr.heap.size wr w1 → w1.ownsRow w.heap.size 9 1 u5 xs.length (scells xs)) := fun w1 hb => own_keep hown.out hb
        clear e2 hat hown HR he
        go_wp2_with fail
        refine (HN.out _).mono ?_
        rintro e w1 ⟨rfl, hb1⟩
        have HB1 : Hid (Below w.heap.size w w1) := hbw.out.trans (hb1.mono hsz)
        have HO1 : Hid (w1.ownsRow w.heap.size 9 1 u5 xs.length (scells xs)) := HK.out w1 hb1
        clear hb1 HK
        go_wp2_with fail
        go_ret3
        exact RP.mk rfl rfl HA.out HO1.out (by omega) hxs.out HB1.out
    · have hkz : ¬ (k : Int) < (s.size : Int) := by omega
      have HA : Hid (rdA s.data.toList = (ls xs, k, 0)) := hat.out.end_ (by rw [HL.out]; omega)
      clear hat
      go_wp2_with fail
      go_ret3
      exact RP.mk rfl rfl HA.out hown.out (by omega) hxs.out hbw.out
end Go.Proofs.Ytpddddnjmklfdaa
