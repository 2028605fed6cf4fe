/- The walks of Clone and Cut. Condition: the text has at most 2 to the 47th bytes. -/
import Derived.Test.YtdmlgheajblcdaaGreatK04
import Derived.WalkKit
import Derived.ProofKit
import Derived.Handy
import Derived.WalkLawsBesides
import Derived.WalkSpells
import Derived.BigQuiet
import Derived.BigCall
import Derived.Deep.QuietTactic
import Derived.Deep.Light
import Derived.Deep.OwnRows
import Derived.Laws.AppendOwnNone
import Derived.Laws.Strings3
import Derived.Laws.RangeAny
import Derived.Deep.RegionWith
import Derived.Lib.BitFns
import Derived.Lib.Walk
import Derived.Lib.Strings
import Derived.Lib.OthersKept
import Derived.Deep.CutBlock
import Derived.Deep.DeepCutAuto
import Derived.Deep.LoopGhost
import Derived.Deep.RegionHeld3
import Derived.Lib.SmallJoins
import Derived.Maps.AppendAt
import Derived.Laws.IdiomStrings
import Derived.Lib.AppendZeros
import Derived.Deep.WholeRow
import Derived.Laws.BitsAllLaws
import Derived.Lib.ConvBytes
import Derived.Deep.RegionLaw
import Derived.Lib.IndexBytes
namespace Go.Proofs.YtdmlgheajblcdaaGreat.N4
open Go.RowKit
set_option linter.unusedVariables false
set_option linter.unusedSimpArgs false
theorem ext_take (s : ByteArray) (e : Nat) : (s.extract 0 e).data.toList = s.data.toList.take e := by
  simp [ByteArray.data_extract]
theorem ext_size (s : ByteArray) (e : Nat) : (s.extract 0 e).size ≤ s.size := by
  simp [ByteArray.size_extract]
  omega
end Go.Proofs.YtdmlgheajblcdaaGreat.N4

/- The walk of Check. -/
namespace Go.Proofs.YtdmlgheajblcdaaGreat.N4
open Go.RowKit
set_option linter.unusedVariables false
set_option linter.unusedSimpArgs false
theorem bad_may {k a c : Nat} (h0 : k = 0 → a = 0) : Bad k a c ↔ (k = 0 ∧ ¬ Let c) ∨ ¬ May a c := by
  by_cases hk : k = 0
  · have := h0 hk
    subst hk this
    by_cases h : c = 32
    · subst h; exact ⟨fun _ => .inl ⟨rfl, by decide⟩, fun _ => .inl ⟨by decide, .inl rfl⟩⟩
    · by_cases h1 : Let c
      · simp only [Bad, May]
        constructor
        · rintro (⟨h2, _⟩ | ⟨h2, _⟩)
          · exact absurd h1 h2
          · omega
        · rintro (⟨_, h2⟩ | h2)
          · exact absurd h1 h2
          · exact absurd (Or.inr ⟨h, Or.inl h1⟩) h2
      · exact ⟨fun _ => .inl ⟨rfl, h1⟩, fun _ => .inl ⟨h1, .inl rfl⟩⟩
  · by_cases h : c = 32
    · subst h
      constructor
      · rintro (⟨h1, h2 | h2⟩ | ⟨_, _, h1, h2, h3⟩)
        · exact absurd h2 hk
        · exact absurd (.inl rfl) h2.2
        · refine .inr ?_
          rintro (⟨_, h4 | h4 | h4⟩ | ⟨h4, _⟩)
          · exact h2 h4
          · exact h3 h4
          · exact h4 h1
          · exact h4 rfl
      · rintro (⟨h1, _⟩ | h1)
        · exact absurd h1 hk
        · refine .inr ⟨by omega, rfl, ?_, fun h2 => h1 (.inl ⟨rfl, .inl h2⟩), fun h2 => h1 (.inl ⟨rfl, .inr (.inl h2)⟩)⟩
          by_cases h2 : Jnt a
          · exact h2
          · exact absurd (.inl ⟨rfl, .inr (.inr h2)⟩) h1
    · constructor
      · rintro (⟨h1, h2 | ⟨h2, h3⟩⟩ | ⟨_, h1, _⟩)
        · exact absurd h2 hk
        · refine .inr ?_
          rintro (⟨h4, _⟩ | ⟨_, h4 | h4 | h4⟩)
          · exact h h4
          · exact h1 h4
          · exact h2 h4
          · exact h3 h4
        · exact absurd h1 h
      · rintro (⟨h1, _⟩ | h1)
        · exact absurd h1 hk
        · exact .inl ⟨fun h2 => h1 (.inr ⟨h, .inl h2⟩), .inr ⟨fun h2 => h1 (.inr ⟨h, .inr (.inl h2)⟩), fun h2 => h1 (.inr ⟨h, .inr (.inr h2)⟩)⟩⟩

def chk (l : List UInt8) : Nat × Nat := if 160 < l.length then (0, 2) else chkG l.length (sg l 0) 0 0
set_option maxHeartbeats 4000000 in
theorem xcheck (s : ByteArray) (hs : s.size ≤ 9223372036854775807) (w : World) : Calls Tryz.prog 167 #[.string s] w (TB (chk s.data.toList) w) := by
  have HL : Hid (s.data.toList.length = s.size) := rfl
  by_cases hz : 160 < s.size
  · have hz' : 160 < (s.size : Int) := by omega
    have H : Hid (chk s.data.toList = (0, 2)) := by
      unfold Hid chk
      rw [if_pos (by rw [HL.out]; exact hz)]
    clear hz
    go_enter Tryz.func167, Tryz.ntmps167
    go_wp2
    go_ret2
    exact TB.mk (by rw [H.out]; rfl) (by rw [H.out]; rfl) (Below.refl _ _)
  have hz' : ¬ 160 < (s.size : Int) := by omega
  have H : Hid (chk s.data.toList = chkG s.data.toList.length (sg s.data.toList 0) 0 0) := by
    unfold Hid chk
    rw [if_neg (by rw [HL.out]; exact hz)]
  clear hz
  go_enter Tryz.func167, Tryz.ntmps167
  go_wp2
  go_loopw [4, 5] (fun n v w' => ∃ (pos k a : Nat), w' = w.iter s pos ∧ n = .int .i64 k ∧ v = .int .i32 a ∧ Hid (chkG s.data.toList.length (sg s.data.toList pos) k a = chk s.data.toList) ∧ k ≤ 40 ∧ a < 1114112 ∧ (k = 0 → a = 0)) (fun _ _ w' => s.size - w'.iterPos w.heap.size)
  case atStart => exact ⟨0, 0, 0, rfl, rfl, rfl, H.out.symm, by omega, by omega, fun _ => rfl⟩
  case round =>
    obtain ⟨pos, k, a, rfl, rfl, rfl, hc, hk, ha, hka⟩ := hrel
    have HKA : Hid (k = 0 → a = 0) := hka
    clear hka
    by_cases hp : pos < s.size
    · have hnx : ∀ ty, (Instr.next (.pointer (some ⟨w.heap.size, 0, none⟩)) true ty).run Tryz.prog (w.iter s pos) = _ := fun ty => next_D w s pos ty hp
      have hwd := D_pos s.data.toList pos
      have hv := (D_V s.data.toList pos).le
      have Hst : Hid (sg s.data.toList pos = (pos, (D s.data.toList pos).1, (D s.data.toList pos).2.2) :: sg s.data.toList (pos + (D s.data.toList pos).2.1)) := sg_step (by rw [HL.out]; exact hp)
      generalize (D s.data.toList pos).2.1 = wdt at *
      generalize (D s.data.toList pos).1 = c at *
      by_cases hk40 : k = 40
      · subst hk40
        go_wp2
        go_ret2
        have h1 := hc.out
        rw [Hst.out, chkG, if_pos rfl] at h1
        exact TB.mk (by rw [← h1]) (by rw [← h1]; rfl) (below_iter w s _)
      have g40 : ((k : Int) == 40) = false := beq_eq_false_iff_ne.2 (by omega)
      have HK : Hid (¬ k = 40) := hk40
      clear hk40
      by_cases hbad : Bad k a c
      · have HB : Hid (Bad k a c) := hbad
        have HM := (bad_may HKA.out).1 hbad
        clear hbad
        have hfin : Hid (chk s.data.toList = (pos, 11)) := by
          have h1 := hc.out
          rw [Hst.out, chkG, if_neg HK.out, if_pos HB.out] at h1
          exact h1.symm
        by_cases hk0 : k = 0
        · subst hk0
          by_cases hle : Let c
          · have HLe : Hid (Let c) := hle
            have HMy : Hid (¬ May a c) := HM.elim (fun h => absurd hle h.2) id
            clear hle HM
            go_wp2_with (first | (go_at_call 168; refine (calls_t (xletter c hv _) HLe.out).mono ?_; rintro e w1 ⟨rfl, rfl⟩) | (go_at_call 169; refine (calls_f (xmay a c ha hv _) HMy.out).mono ?_; rintro e w1 ⟨rfl, rfl⟩))
            go_ret2
            exact TB.mk (by rw [hfin.out]) (by rw [hfin.out]; rfl) (below_iter w s _)
          · have HLe : Hid (¬ Let c) := hle
            clear hle HM
            go_wp2_with (go_at_call 168; refine (calls_f (xletter c hv _) HLe.out).mono ?_; rintro e w1 ⟨rfl, rfl⟩)
            go_ret2
            exact TB.mk (by rw [hfin.out]) (by rw [hfin.out]; rfl) (below_iter w s _)
        · have g0 : ((k : Int) == 0) = false := beq_eq_false_iff_ne.2 (by omega)
          have HMy : Hid (¬ May a c) := HM.elim (fun h => absurd h.1 hk0) id
          clear hk0 HM
          go_wp2_with (go_at_call 169; refine (calls_f (xmay a c ha hv _) HMy.out).mono ?_; rintro e w1 ⟨rfl, rfl⟩)
          go_ret2
          exact TB.mk (by rw [hfin.out]) (by rw [hfin.out]; rfl) (below_iter w s _)
      · have HB : Hid (¬ Bad k a c) := hbad
        have HM := fun h => hbad ((bad_may HKA.out).2 h)
        have HMy : Hid (May a c) := by
          by_cases h : May a c
          · exact h
          · exact absurd (.inr h) HM
        by_cases hk0 : k = 0
        · have HLe : Hid (Let c) := by
            by_cases h : Let c
            · exact h
            · exact absurd (.inl ⟨hk0, h⟩) HM
          clear hbad HM
          subst hk0
          go_wp2_with (first | (go_at_call 168; refine (calls_t (xletter c hv _) HLe.out).mono ?_; rintro e w1 ⟨rfl, rfl⟩) | (go_at_call 169; refine (calls_t (xmay a c ha hv _) HMy.out).mono ?_; rintro e w1 ⟨rfl, rfl⟩))
          go_roundw
          case rel =>
            refine ⟨pos + wdt, 1, c, rfl, by go_num, rfl, ?_, by omega, hv, by omega⟩
            have h1 := hc.out
            rw [Hst.out, chkG, if_neg HK.out, if_neg HB.out] at h1
            exact h1
          case measure =>
            simp
            omega
        · have g0 : ((k : Int) == 0) = false := beq_eq_false_iff_ne.2 (by omega)
          have hk2 : k < 40 := by have := HK.out; omega
          clear hk0 hbad HM
          go_wp2_with (go_at_call 169; refine (calls_t (xmay a c ha hv _) HMy.out).mono ?_; rintro e w1 ⟨rfl, rfl⟩)
          go_roundw
          case rel =>
            refine ⟨pos + wdt, k + 1, c, rfl, by go_num, rfl, ?_, by omega, hv, by omega⟩
            have h1 := hc.out
            rw [Hst.out, chkG, if_neg HK.out, if_neg HB.out] at h1
            exact h1
          case measure =>
            simp
            omega
    · have hnx : ∀ ty, (Instr.next (.pointer (some ⟨w.heap.size, 0, none⟩)) true ty).run Tryz.prog (w.iter s pos) = _ := fun ty => run_next_end w s pos ty hp
      have h1 := hc.out
      rw [sg_end (by rw [HL.out]; omega), chkG] at h1
      have hfin : Hid (chk s.data.toList = (s.size, if k = 0 ∨ a = 32 then 11 else 0)) := h1.symm
      clear h1
      by_cases hk0 : k = 0
      · subst hk0
        go_wp2
        go_ret2
        exact TB.mk (by rw [hfin.out]) (by rw [hfin.out, if_pos (by simp)]; rfl) (below_iter w s _)
      have g0 : ((k : Int) == 0) = false := beq_eq_false_iff_ne.2 (by omega)
      by_cases ha0 : a = 32
      · subst ha0
        go_wp2
        go_ret2
        exact TB.mk (by rw [hfin.out]) (by rw [hfin.out, if_pos (by simp)]; rfl) (below_iter w s _)
      have g1 : ((a : Int) == 32) = false := beq_eq_false_iff_ne.2 (by omega)
      have HN : Hid (¬ (k = 0 ∨ a = 32)) := by rintro (h | h); exact hk0 h; exact ha0 h
      clear hk0 ha0
      go_wp2
      go_ret2
      exact TB.mk (by rw [hfin.out]) (by rw [hfin.out, if_neg HN.out]; rfl) (below_iter w s _)
end Go.Proofs.YtdmlgheajblcdaaGreat.N4

/- Lists of numbers in memory; the walk of Runes: the signs of a text as a list in new memory. Condition: the text has at most 2 to the 40th bytes. -/
namespace Go.Proofs.YtdmlgheajblcdaaGreat.N4
open Go.RowKit
set_option linter.unusedVariables false
set_option linter.unusedSimpArgs false
theorem Tryz.info21 : (Tryz.prog.info? 21).map (fun i => (i.zero, i.size, i.bytes)) = some (some (.int .i32 0), 1, 4) := by kernel_rfl
theorem Tryz.info3 : (Tryz.prog.info? 3).map (fun i => (i.zero, i.size, i.bytes)) = some (some (.int .i64 0), 1, 8) := by kernel_rfl
theorem grown_iterAt (w : World) (k : Nat) (s : ByteArray) (pos : Nat) : w.grownBy (w.iterAt k s pos) (some k) :=
  ⟨rfl, rfl, rfl, by rw [Lib.iterAt_size]; exact Nat.le_refl _, fun j _ hne => Lib.iterAt_other w k j s pos (fun e => hne (by rw [e]))⟩
/-- numbers as cells -/
def cells (k : IntKind) (xs : List Nat) : List Value := xs.map fun c : Nat => Value.int k (c : Int)
theorem cells_len (k : IntKind) (xs : List Nat) : (cells k xs).length = xs.length := by simp [cells]
theorem cells_snoc (k : IntKind) (xs : List Nat) (c : Nat) : cells k (xs ++ [c]) = cells k xs ++ [Value.int k (c : Int)] := by simp [cells]
/-- a slice value whose elements read as these numbers -/
def Seg (k : IntKind) (w : World) (v : Value) (xs : List Nat) : Prop :=
  ∃ a cap, v = .slice a xs.length cap ∧ (xs ≠ [] → ∃ b, a = some ⟨b, 0, none⟩ ∧ b < w.heap.size ∧ ∀ j, j < xs.length → w.cell? ⟨b, j, none⟩ = some (.int k ((xs.getD j 0 : Nat) : Int)))
theorem Seg.below {k : IntKind} {w w' : World} {v : Value} {xs : List Nat} (h : Seg k w v xs) (hb : Below w.heap.size w w') : Seg k w' v xs := by
  obtain ⟨a, cap, rfl, h2⟩ := h
  refine ⟨a, cap, rfl, fun hx => ?_⟩
  obtain ⟨b, rfl, hlt, hc⟩ := h2 hx
  exact ⟨b, rfl, Nat.lt_of_lt_of_le hlt hb.size, fun j hj => (hb.cell (by exact hlt)).trans (hc j hj)⟩
theorem Seg.of_owns {k : IntKind} {w : World} {base e : Nat} {v : Value} {xs : List Nat} (h : w.ownsRow base e 1 v xs.length (cells k xs)) : Seg k w v xs := by
  by_cases h0 : 0 < xs.length
  · obtain ⟨g, cap, hv, hb, hlt⟩ : ∃ g cap, v = .slice (some ⟨g, 0, none⟩) xs.length cap ∧ base ≤ g ∧ g < w.heap.size := by
      rcases h.2 with ⟨_, hn⟩ | ⟨g, cap, cur, hv, hb, hg, _⟩
      · omega
      · exact ⟨g, cap, hv, hb, (Array.getElem?_eq_some_iff.1 hg).1⟩
    refine ⟨_, cap, hv, fun _ => ⟨g, rfl, hlt, fun j hj => ?_⟩⟩
    have hc := h.cells (g := g) (by rw [hv]; rfl) j (.int k ((xs.getD j 0 : Nat) : Int)) (by simp [cells, List.getD_eq_getElem?_getD, hj])
    have ha : (⟨g, 0, none⟩ : Addr).add j = ⟨g, j, none⟩ := by
      cases j <;> simp [Addr.add]
    rw [ha] at hc
    exact hc
  · have : xs = [] := by
      cases xs with
      | nil => rfl
      | cons _ _ => simp at h0
    subst this
    rcases h.2 with ⟨hv, _⟩ | ⟨g, cap, cur, hv, _⟩
    · exact ⟨none, 0, hv, fun h => absurd rfl h⟩
    · exact ⟨_, cap, hv, fun h => absurd rfl h⟩
theorem cell_of_new {w : World} {k : IntKind} {c : Int} {e : TypeId} : ∀ (j : Nat) (u : Value), [Value.int k c][j]? = some u → (w.alloc (.cells #[.int k c] e)).cell? ((⟨w.heap.size, 0, none⟩ : Addr).add j) = some u := by
  intro j u hj
  match j, hj with
  | 0, hj =>
    simp at hj
    subst hj
    simp [Addr.add]
theorem one_cell {k : IntKind} {c : Int} : ∀ u ∈ [Value.int k c], u.oneCell' = true := by
  intro u hu
  simp at hu
  subst hu
  rfl
end Go.Proofs.YtdmlgheajblcdaaGreat.N4

/- The reference's walk over all signs of a text: two lists in new memory. Condition: the text has at most 2 to the 40th bytes. -/
namespace Go.Proofs.YtdmlgheajblcdaaGreat.N4
open Go.RowKit
set_option linter.unusedVariables false
set_option linter.unusedSimpArgs false
/-- two slices of the call's own, apart, with these numbers -/
def Two (B : Nat) (w : World) (v1 v2 : Value) (xs ys : List Nat) : Prop :=
  w.ownsRow B 3 1 v1 xs.length (cells .i64 xs) ∧ w.ownsRow B 3 1 v2 ys.length (cells .i64 ys) ∧ ∀ j, v1.ownBlock = some j → v2.ownBlock ≠ some j
theorem Two.swap {B : Nat} {w : World} {v1 v2 : Value} {xs ys : List Nat} (h : Two B w v1 v2 xs ys) : Two B w v2 v1 ys xs :=
  ⟨h.2.1, h.1, fun j hj e => h.2.2 j e hj⟩
theorem Two.first {B : Nat} {w w1 : World} {v1 v2 v' : Value} {xs ys : List Nat} {c : Nat} (h : Two B w v1 v2 xs ys) (o : Obj)
    (ho : w1.ownsRow B 3 1 v' (xs.length + 1) (cells .i64 xs ++ [.int .i64 c])) (hg : (w.alloc o).grownBy w1 v1.ownBlock) (ha : v'.ownBlock = v1.ownBlock ∨ v'.ownBlock = some (w.alloc o).heap.size) : Two B w1 v' v2 (xs ++ [c]) ys := by
  refine ⟨?_, ?_, ?_⟩
  · rw [cells_snoc, List.length_append]
    exact ho
  · refine (h.2.1.alloc o).kept hg ?_
    cases hv : v2.ownBlock with
    | none => exact .inl rfl
    | some j => exact .inr (fun e => h.2.2 j e.symm hv)
  · intro j hj hv
    rcases ha with ha | ha
    · exact h.2.2 j (ha.symm.trans hj) hv
    · have h1 := (h.2.1.lt j hv).2
      have h2 := Option.some.inj (ha.symm.trans hj)
      simp at h2
      omega
theorem below_first {B : Nat} {w0 w w1 : World} {v1 : Value} {n : Nat} {zs : List Value} (hb : Below B w0 w) (hB : B ≤ w.heap.size) (o : Obj) (h : w.ownsRow B 3 1 v1 n zs) (hg : (w.alloc o).grownBy w1 v1.ownBlock) : Below B w0 w1 :=
  (hb.alloc hB o).grown hg (by simp; omega) (fun j hj => (h.lt j hj).1)
def SGP (l : List UInt8) (w : World) (e : Ending) (w' : World) : Prop := ∃ v1 v2, e = .returned (.tuple #[v1, v2, .bool (ok l 0)]) ∧ Seg .i64 w' v1 (cs l 0) ∧ Seg .i64 w' v2 (ps l 0) ∧ Below w.heap.size w w'
theorem SGP.mk {l : List UInt8} {w w' : World} {v1 v2 : Value} {g : Bool} (hg : g = ok l 0) (h1 : Seg .i64 w' v1 (cs l 0)) (h2 : Seg .i64 w' v2 (ps l 0)) (hb : Below w.heap.size w w') : SGP l w (.returned (.tuple #[v1, v2, .bool g])) w' := ⟨v1, v2, by rw [hg], h1, h2, hb⟩
set_option maxHeartbeats 4000000 in
theorem rsigns (s : ByteArray) (hs : s.size ≤ 1099511627776) (w : World) : Calls Tryz.prog 102 #[.string s] w (SGP s.data.toList w) := by
  have HL : Hid (s.data.toList.length = s.size) := rfl
  obtain ⟨i0, hi, hz0, hz1, hz2⟩ := info_parts Tryz.info3
  have HI : Hid (Tryz.prog.info? 3 = some i0 ∧ i0.zero = some (.int .i64 0) ∧ i0.size = 1 ∧ i0.bytes = 8) := ⟨hi, hz0, hz1, hz2⟩
  clear hi hz0 hz1 hz2
  go_enter Tryz.func102, Tryz.ntmps102
  go_wp2_with fail
  go_loopw [5, 6, 7, 8] (fun v1 v2 b i wr => ∃ (pos : Nat) (xs ys : List Nat) (g : Bool), i = .int .i64 pos ∧ b = .bool g ∧ Hid (Two w.heap.size wr v1 v2 xs ys) ∧ Hid (Below w.heap.size w wr) ∧ Hid (xs ++ cs s.data.toList pos = cs s.data.toList 0) ∧ Hid (ys ++ ps s.data.toList pos = ps s.data.toList 0) ∧ Hid ((g && ok s.data.toList pos) = ok s.data.toList 0) ∧ xs.length ≤ pos ∧ ys.length ≤ pos ∧ pos ≤ s.size) (fun _ _ _ i _ => s.size - (Lib.intOf i).toNat)
  case atStart => exact ⟨0, [], [], true, rfl, rfl, ⟨World.ownsRow_nil _ _ _ _, World.ownsRow_nil _ _ _ _, by intro j hj; cases hj⟩, Below.refl _ _, rfl, rfl, by unfold Hid; rw [Bool.true_and], Nat.le_refl _, Nat.le_refl _, Nat.zero_le _⟩
  case round =>
    obtain ⟨pos, xs, ys, g, rfl, rfl, htwo, hbw, hxs, hys, hok, hxl, hyl, hps⟩ := hrel
    have hsz : w.heap.size ≤ wr.heap.size := hbw.out.size
    by_cases hp : pos < s.size
    · have hpz : (pos : Int) < (s.size : Int) := by omega
      have hwd := D_pos s.data.toList pos
      have hcv := (D_V s.data.toList pos).le
      have hin : pos + (D s.data.toList pos).2.1 ≤ s.size := D_in s.data.toList pos hp
      have Hst : Hid (cs s.data.toList pos = (D s.data.toList pos).1 :: cs s.data.toList (pos + (D s.data.toList pos).2.1)) := cs_step (by rw [HL.out]; exact hp)
      have Hpt : Hid (ps s.data.toList pos = pos :: ps s.data.toList (pos + (D s.data.toList pos).2.1)) := ps_step (by rw [HL.out]; exact hp)
      have Hok : Hid (ok s.data.toList pos = ((D s.data.toList pos).2.2 && ok s.data.toList (pos + (D s.data.toList pos).2.1))) := ok_step (by rw [HL.out]; exact hp)
      have HS : Hid (∀ w, Calls Tryz.prog 116 #[.string s, .int .i64 pos] w fun e w' => e = .returned (.tuple #[.int .i64 (D s.data.toList pos).1, .int .i64 (D s.data.toList pos).2.1, .bool (D s.data.toList pos).2.2]) ∧ w = w') := fun w => rsign s pos (by omega) hpz (by omega) w
      have HT1 : Hid (wr.ownsRow w.heap.size 3 1 u5 xs.length (cells .i64 xs)) := htwo.out.1
      generalize (D s.data.toList pos).2.2 = b at *
      generalize (D s.data.toList pos).2.1 = k at *
      generalize (D s.data.toList pos).1 = c at *
      have Hfin : Hid (∀ (v' v'' : Value) (w2 : World) (g' : Bool), Two w.heap.size w2 v' v'' (xs ++ [c]) (ys ++ [pos]) → Below w.heap.size w w2 → g' = (g && b) →
          (∃ (pos' : Nat) (xs' ys' : List Nat) (g'' : Bool), Value.int .i64 ((pos : Int) + (k : Int)) = .int .i64 (pos' : Int) ∧ Value.bool g' = .bool g'' ∧ Hid (Two w.heap.size w2 v' v'' xs' ys') ∧ Hid (Below w.heap.size w w2) ∧ Hid (xs' ++ cs s.data.toList pos' = cs s.data.toList 0) ∧ Hid (ys' ++ ps s.data.toList pos' = ps s.data.toList 0) ∧ Hid ((g'' && ok s.data.toList pos') = ok s.data.toList 0) ∧ xs'.length ≤ pos' ∧ ys'.length ≤ pos' ∧ pos' ≤ s.size) ∧
            s.size - (Lib.intOf (Value.int .i64 ((pos : Int) + (k : Int)))).toNat < s.size - (Lib.intOf (Value.int .i64 (pos : Int))).toNat) := by
        intro v' v'' w2 g' h2 hb2 hg
        refine ⟨⟨pos + k, xs ++ [c], ys ++ [pos], g', by simp, rfl, h2, hb2, ?_, ?_, ?_, by simp; omega, by simp; omega, hin⟩, ?_⟩
        · have h1 := hxs.out
          rw [Hst.out] at h1
          unfold Hid
          rw [← h1]
          simp
        · have h1 := hys.out
          rw [Hpt.out] at h1
          unfold Hid
          rw [← h1]
          simp
        · have h1 := hok.out
          rw [Hok.out] at h1
          unfold Hid
          rw [← h1, hg, Bool.and_assoc]
        · simp [Lib.intOf]
          omega
      cases g
      · go_wp2_with (first | (go_at_call 116; refine Calls.mono (HS.out _) ?_; rintro e w2 ⟨rfl, rfl⟩) | (at_builtin; refine wpList_append_own_at _ rfl (.tmp 23) (.tmp 25) 25 rfl w.heap.size 3 i0 (.int .i64 0) 1 8 Tryz.underlying25 HI.out.1 HI.out.2.1 HI.out.2.2.1 HI.out.2.2.2 rfl (by decide) _ xs.length (cells .i64 xs) rfl (HT1.out.alloc _) ⟨wr.heap.size, 0, none⟩ 1 1 [.int .i64 c] rfl rfl cell_of_new one_cell (by unfold maxLen; omega) (by omega) (by simp; omega) ?_; intro v' w1 hown' hgrow _ hat; have HT2 : Hid (Two w.heap.size w1 v' u6 (xs ++ [c]) ys) := htwo.out.first _ hown' hgrow hat; have HB2 : Hid (Below w.heap.size w w1) := below_first hbw.out hsz _ htwo.out.1 hgrow; have HT3 : Hid (w1.ownsRow w.heap.size 3 1 u6 ys.length (cells .i64 ys)) := HT2.out.2.1; have hsz1 : w.heap.size ≤ w1.heap.size := HB2.out.size; clear hown' hgrow hat) | (at_builtin; refine wpList_append_own_at _ rfl (.tmp 27) (.tmp 29) 25 rfl w.heap.size 3 i0 (.int .i64 0) 1 8 Tryz.underlying25 HI.out.1 HI.out.2.1 HI.out.2.2.1 HI.out.2.2.2 rfl (by decide) _ ys.length (cells .i64 ys) rfl (HT3.out.alloc _) ⟨w1.heap.size, 0, none⟩ 1 1 [.int .i64 pos] rfl rfl cell_of_new one_cell (by unfold maxLen; omega) (by omega) (by simp; omega) ?_; intro v'' w2 hown' hgrow _ hat; have HT4 : Hid (Two w.heap.size w2 v' v'' (xs ++ [c]) (ys ++ [pos])) := (HT2.out.swap.first _ hown' hgrow hat).swap; have HB4 : Hid (Below w.heap.size w w2) := below_first HB2.out hsz1 _ HT2.out.2.1 hgrow; clear hown' hgrow hat))
        exact Hfin.out v' v'' w2 false HT4.out HB4.out (by simp)
      · go_wp2_with (first | (go_at_call 116; refine Calls.mono (HS.out _) ?_; rintro e w2 ⟨rfl, rfl⟩) | (at_builtin; refine wpList_append_own_at _ rfl (.tmp 23) (.tmp 25) 25 rfl w.heap.size 3 i0 (.int .i64 0) 1 8 Tryz.underlying25 HI.out.1 HI.out.2.1 HI.out.2.2.1 HI.out.2.2.2 rfl (by decide) _ xs.length (cells .i64 xs) rfl (HT1.out.alloc _) ⟨wr.heap.size, 0, none⟩ 1 1 [.int .i64 c] rfl rfl cell_of_new one_cell (by unfold maxLen; omega) (by omega) (by simp; omega) ?_; intro v' w1 hown' hgrow _ hat; have HT2 : Hid (Two w.heap.size w1 v' u6 (xs ++ [c]) ys) := htwo.out.first _ hown' hgrow hat; have HB2 : Hid (Below w.heap.size w w1) := below_first hbw.out hsz _ htwo.out.1 hgrow; have HT3 : Hid (w1.ownsRow w.heap.size 3 1 u6 ys.length (cells .i64 ys)) := HT2.out.2.1; have hsz1 : w.heap.size ≤ w1.heap.size := HB2.out.size; clear hown' hgrow hat) | (at_builtin; refine wpList_append_own_at _ rfl (.tmp 27) (.tmp 29) 25 rfl w.heap.size 3 i0 (.int .i64 0) 1 8 Tryz.underlying25 HI.out.1 HI.out.2.1 HI.out.2.2.1 HI.out.2.2.2 rfl (by decide) _ ys.length (cells .i64 ys) rfl (HT3.out.alloc _) ⟨w1.heap.size, 0, none⟩ 1 1 [.int .i64 pos] rfl rfl cell_of_new one_cell (by unfold maxLen; omega) (by omega) (by simp; omega) ?_; intro v'' w2 hown' hgrow _ hat; have HT4 : Hid (Two w.heap.size w2 v' v'' (xs ++ [c]) (ys ++ [pos])) := (HT2.out.swap.first _ hown' hgrow hat).swap; have HB4 : Hid (Below w.heap.size w w2) := below_first HB2.out hsz1 _ HT2.out.2.1 hgrow; clear hown' hgrow hat))
        exact Hfin.out v' v'' w2 b HT4.out HB4.out (by simp)
    · have hpz : ¬ (pos : Int) < (s.size : Int) := by omega
      go_wp2_with fail
      go_ret3
      have h1 := hxs.out
      have h2 := hys.out
      have h3 := hok.out
      rw [cs_end (by rw [HL.out]; omega), List.append_nil] at h1
      rw [ps_end (by rw [HL.out]; omega), List.append_nil] at h2
      rw [ok_end (by rw [HL.out]; omega), Bool.and_true] at h3
      refine SGP.mk h3 ?_ ?_ hbw.out
      · rw [← h1]
        exact Seg.of_owns htwo.out.1
      · rw [← h2]
        exact Seg.of_owns htwo.out.2.1
end Go.Proofs.YtdmlgheajblcdaaGreat.N4

/- The reference's tests and turns of one sign. -/
namespace Go.Proofs.YtdmlgheajblcdaaGreat.N4
open Go.RowKit
set_option linter.unusedVariables false
set_option linter.unusedSimpArgs false
set_option maxHeartbeats 4000000 in
theorem rletter (c : Nat) (w : World) : Calls Tryz.prog 103 #[.int .i64 c] w (BP (Let c) w) := by
  go_enter Tryz.func103, Tryz.ntmps103
  go_wp2_with go_in
  all_goals go_ret
  all_goals first | exact BP.t (by omega) | exact BP.f (by omega) | (refine BP.b ?_; simp only [Bool.and_eq_true, Bool.or_eq_true, decide_eq_true_eq, bne_iff_ne, ne_eq, beq_iff_eq]; omega)
set_option maxHeartbeats 4000000 in
theorem rdigit (c : Nat) (w : World) : Calls Tryz.prog 104 #[.int .i64 c] w (BP (Dig c) w) := by
  go_enter Tryz.func104, Tryz.ntmps104
  go_wp2_with go_in
  all_goals go_ret
  all_goals first | exact BP.t (by omega) | exact BP.f (by omega) | (refine BP.b ?_; simp only [Bool.and_eq_true, Bool.or_eq_true, decide_eq_true_eq, bne_iff_ne, ne_eq, beq_iff_eq]; omega)
set_option maxHeartbeats 4000000 in
theorem rjoint (c : Nat) (w : World) : Calls Tryz.prog 105 #[.int .i64 c] w (BP (Jnt c) w) := by
  by_cases h : Jnt c
  · rcases h with rfl | rfl | rfl | rfl | rfl
    all_goals
      go_enter Tryz.func105, Tryz.ntmps105
      go_wp2_with go_in
      go_ret
      exact BP.t (by decide)
  · have h1 : ((c : Int) == 32) = false := beq_eq_false_iff_ne.2 (by omega)
    have h2 : ((c : Int) == 45) = false := beq_eq_false_iff_ne.2 (by omega)
    have h3 : ((c : Int) == 46) = false := beq_eq_false_iff_ne.2 (by omega)
    have h4 : ((c : Int) == 38) = false := beq_eq_false_iff_ne.2 (by omega)
    have h5 : ((c : Int) == 39) = false := beq_eq_false_iff_ne.2 (by omega)
    have H : Hid (¬ Jnt c) := h
    clear h
    go_enter Tryz.func105, Tryz.ntmps105
    go_wp2_with go_in
    go_ret
    exact BP.f H.out
end Go.Proofs.YtdmlgheajblcdaaGreat.N4

/- The reference's Check. -/
namespace Go.Proofs.YtdmlgheajblcdaaGreat.N4
open Go.RowKit
set_option linter.unusedVariables false
set_option linter.unusedSimpArgs false
theorem cs_at {l : List UInt8} {k : Nat} (h : k < (cs l 0).length) : Vl ((cs l 0).getD k 0) := by
  rw [List.getD_eq_getElem?_getD, List.getElem?_eq_getElem h]
  exact cs_V l 0 _ (List.getElem_mem h)
theorem chkG_at (l : List UInt8) (z k a : Nat) (hk : k < (cs l 0).length) : chkG z ((sg l 0).drop k) k a = if k = 40 then ((ps l 0).getD k 0, 2) else if Bad k a ((cs l 0).getD k 0) then ((ps l 0).getD k 0, 11) else chkG z ((sg l 0).drop (k + 1)) (k + 1) ((cs l 0).getD k 0) := by
  have hk2 : k < (sg l 0).length := by simpa [cs] using hk
  have e1 : (cs l 0).getD k 0 = (sg l 0)[k].2.1 := by simp [cs, List.getD_eq_getElem?_getD, hk2]
  have e2 : (ps l 0).getD k 0 = (sg l 0)[k].1 := by simp [ps, List.getD_eq_getElem?_getD, hk2]
  rw [e1, e2, List.drop_eq_getElem_cons hk2, chkG]
def lst (xs : List Nat) (k : Nat) : Nat := if k = 0 then 0 else xs.getD (k - 1) 0
theorem lst_zero (xs : List Nat) : lst xs 0 = 0 := rfl
theorem lst_succ (xs : List Nat) (k : Nat) : lst xs (k + 1) = xs.getD k 0 := by
  unfold lst
  rw [if_neg (by omega)]
  rfl
set_option maxRecDepth 100000 in
set_option maxHeartbeats 4000000 in
theorem rcheck (s : ByteArray) (hs : s.size ≤ 9223372036854775807) (w : World) : Calls Tryz.prog 72 #[.string s] w (TB (chk s.data.toList) w) := by
  have HL : Hid (s.data.toList.length = s.size) := rfl
  by_cases hz : 160 < s.size
  · have hz' : 160 < (s.size : Int) := by omega
    have H : Hid (chk s.data.toList = (0, 2)) := by
      unfold Hid chk
      rw [if_pos (by rw [HL.out]; exact hz)]
    clear hz
    go_enter Tryz.func72, Tryz.ntmps72
    go_wp2_with fail
    go_ret2
    exact TB.mk (by rw [H.out]; rfl) (by rw [H.out]; rfl) (Below.refl _ _)
  have hz' : ¬ 160 < (s.size : Int) := by omega
  have H : Hid (chkG s.data.toList.length ((sg s.data.toList 0).drop 0) 0 0 = chk s.data.toList) := by
    unfold Hid chk
    rw [if_neg (by rw [HL.out]; exact hz), List.drop_zero]
  have hz2 : s.size ≤ 160 := by omega
  clear hz
  go_enter Tryz.func72, Tryz.ntmps72
  go_wp2_with fail
  refine (rsigns s (by omega) _).mono ?_
  rintro e W1 ⟨v1, v2, rfl, hs1, hs2, hb1⟩
  obtain ⟨a1, cap, rfl, hsg1⟩ := hs1
  obtain ⟨a2, cap2, rfl, hsg2⟩ := hs2
  have HSG1 : Hid _ := hsg1
  have HSG2 : Hid _ := hsg2
  have HB1 : Hid (Below w.heap.size w W1) := hb1
  have hcl : (cs s.data.toList 0).length ≤ s.size := cs_len s.data.toList
  have HV : Hid (∀ k, k < (cs s.data.toList 0).length → Vl ((cs s.data.toList 0).getD k 0)) := fun k hk => cs_at hk
  have HPL : Hid ((ps s.data.toList 0).length = (cs s.data.toList 0).length) := (cs_ps _ _).symm
  have HG : Hid (∀ k a, k < (cs s.data.toList 0).length → chkG s.data.toList.length ((sg s.data.toList 0).drop k) k a = if k = 40 then ((ps s.data.toList 0).getD k 0, 2) else if Bad k a ((cs s.data.toList 0).getD k 0) then ((ps s.data.toList 0).getD k 0, 11) else chkG s.data.toList.length ((sg s.data.toList 0).drop (k + 1)) (k + 1) ((cs s.data.toList 0).getD k 0)) := fun k a hk => chkG_at _ _ k a hk
  have HGL : Hid ((sg s.data.toList 0).length = (cs s.data.toList 0).length) := by unfold Hid cs; simp
  clear hsg1 hsg2 hb1
  rw [HPL.out] at HSG2 ⊢
  generalize cs s.data.toList 0 = xs at *
  generalize ps s.data.toList 0 = ys at *
  generalize sg s.data.toList 0 = gs at *
  generalize chk s.data.toList = X at *
  go_wp2_with fail
  go_loopw [7] (fun i wr => ∃ k : Nat, i = .int .i64 k ∧ k ≤ xs.length ∧ k ≤ 40 ∧ Hid (chkG s.data.toList.length (gs.drop k) k (lst xs k) = X) ∧ Hid (Below W1.heap.size W1 wr)) (fun i _ => xs.length - (Lib.intOf i).toNat)
  case atStart => exact ⟨0, rfl, Nat.zero_le _, Nat.zero_le _, H, Below.refl _ _⟩
  case round =>
    obtain ⟨k, rfl, hk, hk40, hch, hbr⟩ := hrel
    by_cases hkn : k < xs.length
    · have hkz : (k : Int) < (xs.length : Int) := by omega
      obtain ⟨b, rfl, hlt, hc⟩ := HSG1.out (by intro e; rw [e] at hkn; simp at hkn)
      obtain ⟨b2, rfl, hlt2, hc2⟩ := HSG2.out (by intro e; have h1 := HPL.out; rw [e] at h1; simp at h1; omega)
      have hck : wr.cell? ⟨b, k, none⟩ = some (.int .i64 ((xs.getD k 0 : Nat) : Int)) := (hbr.out.cell (by exact hlt)).trans (hc k hkn)
      have hpk : wr.cell? ⟨b2, k, none⟩ = some (.int .i64 ((ys.getD k 0 : Nat) : Int)) := (hbr.out.cell (by exact hlt2)).trans (hc2 k (by have := HPL.out; omega))
      have hv := (HV.out k hkn).le
      by_cases h40 : k = 40
      · subst h40
        have HX : Hid (X = (ys.getD 40 0, 2)) := by
          have h1 := hch.out
          rw [HG.out 40 _ hkn, if_pos rfl] at h1
          exact h1.symm
        clear hc hc2
        generalize ys.getD 40 0 = p at *
        generalize xs.getD 40 0 = c at *
        go_wp2_with fail
        go_ret2
        exact TB.mk (by rw [HX.out]) (by rw [HX.out]; rfl) (HB1.out.trans (hbr.out.mono HB1.out.size))
      have HX' : Hid (Bad k (lst xs k) (xs.getD k 0) → Hid (X = (ys.getD k 0, 11))) := by
        intro hb
        have h1 := hch.out
        rw [HG.out k _ hkn, if_neg h40, if_pos hb] at h1
        exact h1.symm
      have HN' : Hid (¬ Bad k (lst xs k) (xs.getD k 0) → Hid (chkG s.data.toList.length (gs.drop (k + 1)) (k + 1) (lst xs (k + 1)) = X)) := by
        intro hb
        have h1 := hch.out
        rw [HG.out k _ hkn, if_neg h40, if_neg hb] at h1
        rw [lst_succ]
        exact h1
      have hk39 : k < 40 := by omega
      clear h40 hch
      by_cases hk0 : k = 0
      · subst hk0
        clear hc hc2
        rw [lst_zero] at HX' HN'
        generalize ys.getD 0 0 = p at *
        generalize xs.getD 0 0 = c at *
        by_cases hle : Let c
        · have HN : Hid (chkG s.data.toList.length (gs.drop (0 + 1)) (0 + 1) (lst xs (0 + 1)) = X) := HN'.out (by rintro (⟨h2, _⟩ | ⟨h2, _⟩); exact h2 hle; omega)
          have HLe : Hid (Let c) := hle
          clear hle HN' HX'
          go_wp2_with (go_at_call 103; refine (calls_t (rletter c _) HLe.out).mono ?_; rintro e w2 ⟨rfl, rfl⟩)
          exact ⟨⟨_, by go_num, by omega, by omega, HN, hbr⟩, by simp [Lib.intOf]; omega⟩
        · have HX : Hid (X = (p, 11)) := HX'.out (Or.inl ⟨hle, Or.inl rfl⟩)
          have HLe : Hid (¬ Let c) := hle
          clear hle HN' HX'
          go_wp2_with (go_at_call 103; refine (calls_f (rletter c _) HLe.out).mono ?_; rintro e w2 ⟨rfl, rfl⟩)
          go_ret2
          exact TB.mk (by rw [HX.out]) (by rw [HX.out]; rfl) (HB1.out.trans (hbr.out.mono HB1.out.size))
      obtain ⟨j, rfl⟩ : ∃ j, k = j + 1 := ⟨k - 1, by omega⟩
      clear hk0
      have hcp : wr.cell? ⟨b, j, none⟩ = some (.int .i64 ((xs.getD j 0 : Nat) : Int)) := (hbr.out.cell (by exact hlt)).trans (hc j (by omega))
      rw [lst_succ xs j] at HX' HN'
      clear hc hc2
      generalize ys.getD (j + 1) 0 = p at *
      generalize xs.getD j 0 = a at *
      generalize xs.getD (j + 1) 0 = c at *
      have gk : ((j : Int) + 1 == 40) = false := beq_eq_false_iff_ne.2 (by omega)
      have gk0 : ((j : Int) + 1 == 0) = false := beq_eq_false_iff_ne.2 (by omega)
      by_cases h32 : c = 32
      · subst h32
        by_cases hja : Jnt a
        · have HJa : Hid (Jnt a) := hja
          by_cases h46 : a = 46
          · have HN : Hid _ := HN'.out (by rintro (⟨_, h2 | ⟨_, h2⟩⟩ | ⟨_, _, _, h2, _⟩); omega; exact h2 (by decide); exact h2 h46)
            have g46 : ((a : Int) != 46) = false := by rw [h46]; rfl
            clear hja HN' HX' h46
            go_wp2_with (first | (go_at_call 103; refine (calls_f (rletter 32 _) (by decide)).mono ?_; rintro e w2 ⟨rfl, rfl⟩) | (go_at_call 104; refine (calls_f (rdigit 32 _) (by decide)).mono ?_; rintro e w2 ⟨rfl, rfl⟩) | (go_at_call_of 105 (Value.int .i64 32); refine (calls_t (rjoint 32 _) (by decide)).mono ?_; rintro e w2 ⟨rfl, rfl⟩))
            refine (calls_t (rjoint a _) HJa.out).mono ?_
            rintro e w2 ⟨rfl, rfl⟩
            go_wp2_with fail
            exact ⟨⟨j + 1 + 1, by go_num, by omega, by omega, HN, hbr⟩, by simp [Lib.intOf]; omega⟩
          have g46 : ((a : Int) != 46) = true := by rw [bne_iff_ne]; omega
          by_cases h38 : a = 38
          · have HN : Hid _ := HN'.out (by rintro (⟨_, h2 | ⟨_, h2⟩⟩ | ⟨_, _, _, _, h2⟩); omega; exact h2 (by decide); exact h2 h38)
            have g38 : ((a : Int) != 38) = false := by rw [h38]; rfl
            clear hja HN' HX' h46 h38
            go_wp2_with (first | (go_at_call 103; refine (calls_f (rletter 32 _) (by decide)).mono ?_; rintro e w2 ⟨rfl, rfl⟩) | (go_at_call 104; refine (calls_f (rdigit 32 _) (by decide)).mono ?_; rintro e w2 ⟨rfl, rfl⟩) | (go_at_call_of 105 (Value.int .i64 32); refine (calls_t (rjoint 32 _) (by decide)).mono ?_; rintro e w2 ⟨rfl, rfl⟩))
            refine (calls_t (rjoint a _) HJa.out).mono ?_
            rintro e w2 ⟨rfl, rfl⟩
            go_wp2_with fail
            exact ⟨⟨j + 1 + 1, by go_num, by omega, by omega, HN, hbr⟩, by simp [Lib.intOf]; omega⟩
          have g38 : ((a : Int) != 38) = true := by rw [bne_iff_ne]; omega
          have HX : Hid (X = (p, 11)) := HX'.out (Or.inr ⟨by omega, rfl, hja, h46, h38⟩)
          clear hja HN' HX' h46 h38
          go_wp2_with (first | (go_at_call 103; refine (calls_f (rletter 32 _) (by decide)).mono ?_; rintro e w2 ⟨rfl, rfl⟩) | (go_at_call 104; refine (calls_f (rdigit 32 _) (by decide)).mono ?_; rintro e w2 ⟨rfl, rfl⟩) | (go_at_call_of 105 (Value.int .i64 32); refine (calls_t (rjoint 32 _) (by decide)).mono ?_; rintro e w2 ⟨rfl, rfl⟩))
          refine (calls_t (rjoint a _) HJa.out).mono ?_
          rintro e w2 ⟨rfl, rfl⟩
          go_wp2_with fail
          go_ret2
          exact TB.mk (by rw [HX.out]) (by rw [HX.out]; rfl) (HB1.out.trans (hbr.out.mono HB1.out.size))
        · have HJa : Hid (¬ Jnt a) := hja
          have HN : Hid _ := HN'.out (by rintro (⟨_, h2 | ⟨_, h2⟩⟩ | ⟨_, _, h2, _⟩); omega; exact h2 (by decide); exact hja h2)
          clear hja HN' HX'
          go_wp2_with (first | (go_at_call 103; refine (calls_f (rletter 32 _) (by decide)).mono ?_; rintro e w2 ⟨rfl, rfl⟩) | (go_at_call 104; refine (calls_f (rdigit 32 _) (by decide)).mono ?_; rintro e w2 ⟨rfl, rfl⟩) | (go_at_call_of 105 (Value.int .i64 32); refine (calls_t (rjoint 32 _) (by decide)).mono ?_; rintro e w2 ⟨rfl, rfl⟩))
          refine (calls_f (rjoint a _) HJa.out).mono ?_
          rintro e w2 ⟨rfl, rfl⟩
          go_wp2_with fail
          exact ⟨⟨j + 1 + 1, by go_num, by omega, by omega, HN, hbr⟩, by simp [Lib.intOf]; omega⟩
      · have g32 : ((c : Int) == 32) = false := beq_eq_false_iff_ne.2 (by omega)
        by_cases hle : Let c
        · have HLe : Hid (Let c) := hle
          have HN : Hid _ := HN'.out (by rintro (⟨h2, _⟩ | ⟨_, h2, _⟩); exact h2 hle; exact h32 h2)
          clear hle HN' HX' h32
          go_wp2_with (go_at_call 103; refine (calls_t (rletter c _) HLe.out).mono ?_; rintro e w2 ⟨rfl, rfl⟩)
          exact ⟨⟨j + 1 + 1, by go_num, by omega, by omega, HN, hbr⟩, by simp [Lib.intOf]; omega⟩
        have HLe : Hid (¬ Let c) := hle
        by_cases hdi : Dig c
        · have HDi : Hid (Dig c) := hdi
          have HN : Hid _ := HN'.out (by rintro (⟨_, h2 | ⟨h2, _⟩⟩ | ⟨_, h2, _⟩); omega; exact h2 hdi; exact h32 h2)
          clear hle hdi HN' HX' h32
          go_wp2_with (first | (go_at_call 103; refine (calls_f (rletter c _) HLe.out).mono ?_; rintro e w2 ⟨rfl, rfl⟩) | (go_at_call 104; refine (calls_t (rdigit c _) HDi.out).mono ?_; rintro e w2 ⟨rfl, rfl⟩))
          exact ⟨⟨j + 1 + 1, by go_num, by omega, by omega, HN, hbr⟩, by simp [Lib.intOf]; omega⟩
        have HDi : Hid (¬ Dig c) := hdi
        by_cases hjn : Jnt c
        · have HJn : Hid (Jnt c) := hjn
          have HN : Hid _ := HN'.out (by rintro (⟨_, h2 | ⟨_, h2⟩⟩ | ⟨_, h2, _⟩); omega; exact h2 hjn; exact h32 h2)
          clear hle hdi hjn HN' HX' h32
          go_wp2_with (first | (go_at_call 103; refine (calls_f (rletter c _) HLe.out).mono ?_; rintro e w2 ⟨rfl, rfl⟩) | (go_at_call 104; refine (calls_f (rdigit c _) HDi.out).mono ?_; rintro e w2 ⟨rfl, rfl⟩) | (go_at_call 105; refine (calls_t (rjoint c _) HJn.out).mono ?_; rintro e w2 ⟨rfl, rfl⟩))
          exact ⟨⟨j + 1 + 1, by go_num, by omega, by omega, HN, hbr⟩, by simp [Lib.intOf]; omega⟩
        · have HJn : Hid (¬ Jnt c) := hjn
          have HX : Hid (X = (p, 11)) := HX'.out (Or.inl ⟨hle, Or.inr ⟨hdi, hjn⟩⟩)
          clear hle hdi hjn HN' HX' h32
          go_wp2_with (first | (go_at_call 103; refine (calls_f (rletter c _) HLe.out).mono ?_; rintro e w2 ⟨rfl, rfl⟩) | (go_at_call 104; refine (calls_f (rdigit c _) HDi.out).mono ?_; rintro e w2 ⟨rfl, rfl⟩) | (go_at_call 105; refine (calls_f (rjoint c _) HJn.out).mono ?_; rintro e w2 ⟨rfl, rfl⟩))
          go_ret2
          exact TB.mk (by rw [HX.out]) (by rw [HX.out]; rfl) (HB1.out.trans (hbr.out.mono HB1.out.size))
    · have hkz : ¬ (k : Int) < (xs.length : Int) := by omega
      have hke : k = xs.length := by omega
      have HX : Hid (X = (s.size, if k = 0 ∨ lst xs k = 32 then 11 else 0)) := by
        have h1 := hch.out
        rw [List.drop_of_length_le (by rw [HGL.out]; omega), chkG] at h1
        exact h1.symm
      clear hch
      by_cases hk0 : k = 0
      · have HX0 : Hid (X = (s.size, 11)) := by
          have h1 := HX.out
          rw [if_pos (Or.inl hk0)] at h1
          exact h1
        have g0 : (((xs.length : Nat) : Int) == 0) = true := beq_iff_eq.2 (by omega)
        clear HX hk0 hke
        go_wp2_with fail
        go_ret2
        exact TB.mk (by rw [HX0.out]) (by rw [HX0.out]; rfl) (HB1.out.trans (hbr.out.mono HB1.out.size))
      · have g0 : (((xs.length : Nat) : Int) == 0) = false := beq_eq_false_iff_ne.2 (by omega)
        obtain ⟨j, rfl⟩ : ∃ j, k = j + 1 := ⟨k - 1, by omega⟩
        obtain ⟨b, rfl, hlt, hc⟩ := HSG1.out (by intro e; rw [e] at hke; simp at hke)
        have hcp : wr.cell? ⟨b, j, none⟩ = some (.int .i64 ((xs.getD j 0 : Nat) : Int)) := (hbr.out.cell (by exact hlt)).trans (hc j (by omega))
        rw [lst_succ] at HX
        clear hc
        generalize xs.getD j 0 = a at *
        have hjl : (xs.length : Int) - 1 = (j : Int) := by omega
        by_cases ha : a = 32
        · have HX0 : Hid (X = (s.size, 11)) := by
            have h1 := HX.out
            rw [if_pos (Or.inr ha)] at h1
            exact h1
          have ga : ((a : Int) == 32) = true := beq_iff_eq.2 (by omega)
          clear HX ha hk0 hke
          go_wp2_with fail
          go_ret2
          exact TB.mk (by rw [HX0.out]) (by rw [HX0.out]; rfl) (HB1.out.trans (hbr.out.mono HB1.out.size))
        · have HX0 : Hid (X = (s.size, 0)) := by
            have h1 := HX.out
            rw [if_neg (by rintro (h | h); exact hk0 h; exact ha h)] at h1
            exact h1
          have ga : ((a : Int) == 32) = false := beq_eq_false_iff_ne.2 (by omega)
          clear HX ha hk0 hke
          go_wp2_with fail
          go_ret2
          exact TB.mk (by rw [HX0.out]) (by rw [HX0.out]; rfl) (HB1.out.trans (hbr.out.mono HB1.out.size))
end Go.Proofs.YtdmlgheajblcdaaGreat.N4
