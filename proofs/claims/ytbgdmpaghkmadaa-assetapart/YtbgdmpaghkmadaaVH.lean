/- The reference's Digit and Check. Condition: the text has at most 2 to the 39th bytes. -/
import Derived.Test.YtbgdmpaghkmadaaVG
import Derived.WalkKit
import Derived.ProofKit
import Derived.Handy
import Derived.WalkLawsBesides
import Derived.WalkSpells
import Derived.BigQuiet
import Derived.BigCall
import Derived.Deep.QuietTactic
import Derived.Deep.Light
import Derived.Deep.OwnRows
import Derived.Laws.AppendOwnNone
import Derived.Laws.Strings3
import Derived.Laws.RangeAny
import Derived.Deep.RegionWith
import Derived.Lib.BitFns
import Derived.Lib.Walk
import Derived.Lib.Strings
import Derived.Lib.OthersKept
import Derived.Deep.CutBlock
import Derived.Deep.DeepCutAuto
import Derived.Deep.LoopGhost
import Derived.Deep.RegionHeld3
import Derived.Lib.SmallJoins
import Derived.Maps.AppendAt
import Derived.Laws.IdiomStrings
import Derived.Lib.AppendZeros
import Derived.Deep.WholeRow
import Derived.Laws.BitsAllLaws
import Derived.Lib.ConvBytes
import Derived.Deep.RegionLaw
namespace Go.Proofs.Ytbgdmpaghkmadaa.N5
open Go.RowKit
set_option linter.unusedVariables false
set_option linter.unusedSimpArgs false
theorem str_of {w : World} {l : List UInt8} {b cap : Nat} (hb : w.heap[b]? = some (.cells (Lib.byteCells l).toArray 5 (0, 0))) : (convert 128 9 (Value.slice (some ⟨b, 0, none⟩) l.length cap)).run Try.prog w = .ok (.string ⟨l.toArray⟩) w := by
  refine run_convert_bytes_back w 128 9 5 ⟨b, 0, none⟩ cap l Try.underlying128 Try.underlying5 Try.underlying9 ?_
  intro j hj
  have ha : (⟨b, 0, none⟩ : Addr).add j = ⟨b, j, none⟩ := by
    cases j <;> simp [Addr.add]
  rw [ha]
  simp [World.cell?, hb, Lib.byteCells, hj]
theorem str_new (w : World) (l : List UInt8) (cap : Nat) : (convert 128 9 (Value.slice (some ⟨w.heap.size, 0, none⟩) l.length cap)).run Try.prog (w.alloc (.cells (Lib.byteCells l).toArray 5)) = .ok (.string ⟨l.toArray⟩) (w.alloc (.cells (Lib.byteCells l).toArray 5)) := str_of (heap_alloc_new w _)
theorem below_new (w : World) (o : Obj) : Below w.heap.size w (w.alloc o) := (Below.refl _ w).alloc (Nat.le_refl _) _
theorem u8n (n : Nat) (h : n < 256) : (n.toUInt8).toNat = n := by
  simp
  omega
def DB (a e : Nat) (w : World) (r : Ending) (w' : World) : Prop := r = .returned (.tuple #[.int .u8 a, .int .i64 e]) ∧ Below w.heap.size w w'
theorem DB.mk {a e : Nat} {x y : Int} {w w' : World} (h : x = a) (h2 : y = e) (hb : Below w.heap.size w w') : DB a e w (.returned (.tuple #[.int .u8 x, .int .i64 y])) w' := ⟨by rw [h, h2], hb⟩
/-- with a digit behind eleven signs: right just where it is the one -/
theorem rgt_snoc {l : List UInt8} (h : an l = true) (c : UInt8) (hc : Dg c.toNat) : rgt (l ++ [c]) = decide (c.toNat = 48 + dgN l) := by
  unfold rgt
  rw [an_append, h, Bool.true_and, an, an, decide_eq_true hc, Bool.or_true, Bool.true_and, Bool.true_and]
  rw [Bool.eq_iff_iff, decide_eq_true_eq, decide_eq_true_eq]
  exact full_dgN l c hc
def NB (n : Int) (w : World) (e : Ending) (w' : World) : Prop := e = .returned (.int .i64 n) ∧ Below w.heap.size w w'
theorem NB.mk {n m : Int} {w w' : World} (h : m = n) (hb : Below w.heap.size w w') : NB n w (.returned (.int .i64 m)) w' := ⟨by rw [h], hb⟩
theorem rgt_shp {l : List UInt8} (h : shp l = true) : rgt l = decide (full l % 10 = 0) := by
  have ha : an l = true := by
    have h0 := h
    rw [shp_iff] at h0
    have h1 := last_of h0.1
    unfold shp at h
    rw [Bool.and_eq_true, Bool.and_eq_true] at h
    rw [h1, an_append, head_an h.2.2, an, an, decide_eq_true h0.2.2, Bool.or_true]
    rfl
  unfold rgt
  rw [ha, Bool.true_and]
set_option maxHeartbeats 4000000 in
theorem rCheck (s : ByteArray) (w : World) : Calls Try.prog 70 #[.string s] w (NB (chk s.data.toList) w) := by
  by_cases h12 : s.size = 12
  · have hne : (((s.size : Nat) : Int) != 12) = false := by rw [h12]; rfl
    have h12z : (12 : Int) ≤ (s.size : Int) := by omega
    have h11n : 11 < s.size := by omega
    have hx : s.data.toList.getD 11 0 = s[11] := at_data h11n
    have hl12 : s.data.toList.length = 12 := h12
    have HSH : Hid (shp s.data.toList = (decide (Dg (s.data.toList.getD 11 0).toNat) && head (s.data.toList.take 11))) := by
      unfold Hid shp
      rw [decide_eq_true hl12, Bool.true_and]
    rw [hx] at HSH
    obtain ⟨x, hx2⟩ : ∃ x : UInt8, s[11] = x := ⟨_, rfl⟩
    rw [hx2] at HSH
    have hxl := x.toNat_lt
    have hsl : (s.extract 0 11).size ≤ 12 := Nat.le_trans (ext_size s 11) (by omega)
    have HC : Hid (∀ w, Calls Try.prog 80 #[.string (s.extract 0 11)] w (BB (head (s.data.toList.take 11)) w)) := fun w => by
      have := rshaped (s.extract 0 11) (by omega) w
      rw [ext_take] at this
      exact this
    have HRI : Hid (∀ w, Calls Try.prog 81 #[.string s] w (BB (rgt s.data.toList) w)) := fun w => rright s (by omega) w
    clear hx h12 hl12 hsl
    by_cases h48 : x.toNat < 48
    · have h48z : (x.toNat : Int) < 48 := by omega
      have hc : Hid (chk s.data.toList = 11) := by
        unfold Hid chk
        rw [if_neg (by rw [HSH.out, Bool.and_eq_true, decide_eq_true_eq]; omega)]
      clear HSH HC HRI
      go_enter Try.func70, Try.ntmps70
      go_wp2_with fail
      go_ret
      exact NB.mk (by rw [hc.out]; rfl) (Below.refl _ _)
    have h48z : ¬ (x.toNat : Int) < 48 := by omega
    by_cases h57 : 57 < x.toNat
    · have h57z : (57 : Int) < (x.toNat : Int) := by omega
      have hc : Hid (chk s.data.toList = 11) := by
        unfold Hid chk
        rw [if_neg (by rw [HSH.out, Bool.and_eq_true, decide_eq_true_eq]; omega)]
      clear HSH HC HRI
      go_enter Try.func70, Try.ntmps70
      go_wp2_with fail
      go_ret
      exact NB.mk (by rw [hc.out]; rfl) (Below.refl _ _)
    have h57z : ¬ (57 : Int) < (x.toNat : Int) := by omega
    by_cases hh : head (s.data.toList.take 11) = true
    · have hsp : shp s.data.toList = true := by
        rw [HSH.out, hh, decide_eq_true (by omega : Dg x.toNat)]
        rfl
      rw [rgt_shp hsp] at HRI
      rw [hh] at HC
      have HCK : Hid (chk s.data.toList = if full s.data.toList % 10 = 0 then 0 else 12) := by
        unfold Hid chk
        rw [if_pos hsp]
      clear hsp hh HSH
      by_cases hf : full s.data.toList % 10 = 0
      · rw [decide_eq_true hf] at HRI
        rw [if_pos hf] at HCK
        clear hf
        go_enter Try.func70, Try.ntmps70
        go_wp2_with fail
        refine (HC.out _).mono ?_
        rintro e W1 ⟨rfl, hb1⟩
        have HB1 : Hid (Below w.heap.size w W1) := hb1
        clear hb1
        go_wp2_with fail
        refine (HRI.out _).mono ?_
        rintro e W2 ⟨rfl, hb2⟩
        have HB2 : Hid (Below w.heap.size w W2) := HB1.out.trans (hb2.mono HB1.out.size)
        clear hb2
        go_wp2_with fail
        go_ret
        exact NB.mk (by rw [HCK.out]; rfl) HB2.out
      · rw [decide_eq_false hf] at HRI
        rw [if_neg hf] at HCK
        clear hf
        go_enter Try.func70, Try.ntmps70
        go_wp2_with fail
        refine (HC.out _).mono ?_
        rintro e W1 ⟨rfl, hb1⟩
        have HB1 : Hid (Below w.heap.size w W1) := hb1
        clear hb1
        go_wp2_with fail
        refine (HRI.out _).mono ?_
        rintro e W2 ⟨rfl, hb2⟩
        have HB2 : Hid (Below w.heap.size w W2) := HB1.out.trans (hb2.mono HB1.out.size)
        clear hb2
        go_wp2_with fail
        go_ret
        exact NB.mk (by rw [HCK.out]; rfl) HB2.out
    · have hc : Hid (chk s.data.toList = 11) := by
        unfold Hid chk
        rw [if_neg (by rw [HSH.out, Bool.and_eq_true]; exact fun h => hh h.2)]
      rw [Bool.eq_false_iff.2 hh] at HC
      clear HSH HRI hh
      go_enter Try.func70, Try.ntmps70
      go_wp2_with fail
      refine (HC.out _).mono ?_
      rintro e W1 ⟨rfl, hb1⟩
      have HB1 : Hid (Below w.heap.size w W1) := hb1
      clear hb1
      go_wp2_with fail
      go_ret
      exact NB.mk (by rw [hc.out]; rfl) HB1.out
  · have hne : (((s.size : Nat) : Int) != 12) = true := by rw [bne_iff_ne]; omega
    have hc : Hid (chk s.data.toList = 11) := by
      unfold Hid chk shp
      rw [if_neg (by rw [Bool.and_eq_true, decide_eq_true_eq]; exact fun h => h12 h.1)]
    clear h12
    go_enter Try.func70, Try.ntmps70
    go_wp2_with fail
    go_ret
    exact NB.mk (by rw [hc.out]; rfl) (Below.refl _ _)
end Go.Proofs.Ytbgdmpaghkmadaa.N5
