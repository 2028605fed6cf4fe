/- NewReader, Int, above, Count, Bool, End, Text. -/
import Derived.Test.YtdmlgheajblcdaaGreatK01
import Derived.Test.YtdmlgheajblcdaaGreatShelf
import Derived.WalkKit
import Derived.ProofKit
import Derived.Handy
import Derived.WalkLawsBesides
import Derived.WalkSpells
import Derived.BigQuiet
import Derived.BigCall
import Derived.Deep.QuietTactic
import Derived.Deep.Light
import Derived.Deep.OwnRows
import Derived.Laws.AppendOwnNone
import Derived.Laws.Strings3
import Derived.Laws.RangeAny
import Derived.Deep.RegionWith
import Derived.Lib.BitFns
import Derived.Lib.Walk
import Derived.Lib.Strings
import Derived.Lib.OthersKept
import Derived.Deep.CutBlock
import Derived.Deep.DeepCutAuto
import Derived.Deep.LoopGhost
import Derived.Deep.RegionHeld3
import Derived.Lib.SmallJoins
import Derived.Maps.AppendAt
import Derived.Laws.IdiomStrings
import Derived.Lib.AppendZeros
import Derived.Deep.WholeRow
import Derived.Laws.BitsAllLaws
import Derived.Lib.ConvBytes
import Derived.Deep.RegionLaw
namespace Go.Proofs.YtdmlgheajblcdaaGreat
open Go.RowKit
set_option linter.unusedVariables false
set_option linter.unusedSimpArgs false
set_option maxHeartbeats 4000000 in
theorem xclone (s : ByteArray) (hs : s.size ≤ 281474976710656) (w : World) : Calls Tryz.prog 78 #[.string s] w fun e w' => e = .returned (.string s) ∧ Below w.heap.size w w' := by
  have H : Hid (∀ w, Calls Tryz.prog 107 #[.string s] w fun e w' => e = .returned (.string s) ∧ Below w.heap.size w w') := fun w => Tryz.stringslite_Clone s w hs
  go_enter Tryz.func78, Tryz.ntmps78
  go_wp2_with fail
  refine (H.out _).mono ?_
  rintro e w1 ⟨rfl, hb⟩
  have HB : Hid (Below w.heap.size w w1) := hb
  clear hb
  go_wp2_with fail
  go_ret
  exact ⟨rfl, HB.out⟩
/-- a new reader -/
def NwP (l : List UInt8) (w : World) (e : Ending) (w' : World) : Prop := ∃ q, e = .returned (.pointer (some ⟨q, 0, none⟩)) ∧ w.heap.size ≤ q ∧ Hid (Rm w' q ⟨l, 0, 0⟩) ∧ Hid (Below w.heap.size w w')
set_option maxHeartbeats 4000000 in
theorem xnew (s : ByteArray) (hs : s.size ≤ 281474976710656) (w : World) : Calls Tryz.prog 55 #[.string s] w (NwP s.data.toList w) := by
  have H : Hid (∀ w, Calls Tryz.prog 78 #[.string s] w fun e w' => e = .returned (.string s) ∧ Below w.heap.size w w') := fun w => xclone s hs w
  have HS : Hid (s.size ≤ 281474976710656) := hs
  clear hs
  go_enter Tryz.func55, Tryz.ntmps55
  go_wp2_with fail
  refine (H.out _).mono ?_
  rintro e w1 ⟨rfl, hb⟩
  have HB : Hid (Below w.heap.size w w1) := hb
  clear hb
  go_wp2_with fail
  go_ret
  refine ⟨w1.heap.size, rfl, HB.out.size, ⟨heap_alloc_new w1 _, ?_, Nat.zero_le _⟩, HB.out.alloc HB.out.size _⟩
  have := HS.out
  show s.size ≤ _
  omega
theorem not64 (x : Nat) (hx : x < 9223372036854775808) : bits .xor .i64 (-1) (x : Int) = -1 - (x : Int) := by
  show IntKind.i64.wrap ((BitVec.ofInt 64 (-1) ^^^ BitVec.ofInt 64 (x : Int)).toNat : Int) = _
  have e1 : BitVec.ofInt 64 (-1) = BitVec.allOnes 64 := by decide
  rw [e1, BitVec.allOnes_xor, BitVec.toNat_not, BitVec.ofInt_natCast, BitVec.toNat_ofNat, Nat.mod_eq_of_lt (by omega), IntKind.wrap_i64]
  omega
theorem notu64 (x : Nat) (hx : x < 18446744073709551616) : bits .xor .u64 IntKind.u64.max (x : Int) = ((18446744073709551615 - x : Nat) : Int) := by
  show IntKind.u64.wrap ((BitVec.ofInt 64 (18446744073709551615) ^^^ BitVec.ofInt 64 (x : Int)).toNat : Int) = _
  have e1 : BitVec.ofInt 64 (18446744073709551615) = BitVec.allOnes 64 := by decide
  rw [e1, BitVec.allOnes_xor, BitVec.toNat_not, BitVec.ofInt_natCast, BitVec.toNat_ofNat, Nat.mod_eq_of_lt (by omega), IntKind.wrap_u64]
  omega
theorem and_one (u : Nat) (hu : u < 18446744073709551616) : bits .and .u64 (u : Int) 1 = ((u % 2 : Nat) : Int) := by
  have := u64_and_nat u 1 hu (by omega)
  rw [Nat.and_one_is_mod] at this
  exact this
theorem un_odd {u : Nat} (h : u % 2 = 1) : un u = -1 - ((u / 2 : Nat) : Int) := if_pos h
theorem un_even {u : Nat} (h : ¬ u % 2 = 1) : un u = ((u / 2 : Nat) : Int) := if_neg h
theorem rUint_small {r : Rd} (hl : r.at_ ≤ r.s.length) : (rUint r).2 < 18446744073709551616 := by
  rw [rUint_nxt]
  split
  · exact (nxt_small hl).1
  · show 0 < _; omega
set_option maxHeartbeats 4000000 in
theorem xint (q : Nat) (r : Rd) (w : World) (h : Rm w q r) : Calls Tryz.prog 57 #[.pointer (some ⟨q, 0, none⟩)] w (RP q (.int .i64 (rInt r).2) (rInt r).1 w) := by
  have HX : Hid (Calls Tryz.prog 88 #[.pointer (some ⟨q, 0, none⟩)] w (RP q (.int .u64 (rUint r).2) (rUint r).1 w)) := xuint q r w h
  have hu := rUint_small h.le
  have HI : Hid ((rInt r).2 = un (rUint r).2 ∧ (rInt r).1 = (rUint r).1) := ⟨rfl, rfl⟩
  clear h
  generalize (rUint r).2 = u at *
  by_cases h2 : u % 2 = 1
  · have ha : bits .and .u64 (u : Int) 1 = 1 := by rw [and_one u hu, h2]; rfl
    have HU : Hid (un u = -1 - ((u / 2 : Nat) : Int)) := un_odd h2
    have HX2 : Hid (bits .xor .i64 (-1) ((u : Int) / 2) = -1 - ((u / 2 : Nat) : Int)) := not64 (u / 2) (by omega)
    clear h2
    go_enter Tryz.func57, Tryz.ntmps57
    go_wp2_with fail
    refine HX.out.mono ?_
    rintro e w1 ⟨rfl, HR1, HB1⟩
    go_wp2_with fail
    go_ret
    exact RP.mk (by rw [HI.out.1, HU.out, ← HX2.out]; rfl) (by rw [HI.out.2]; exact HR1.out) HB1.out
  · have ha : bits .and .u64 (u : Int) 1 = 0 := by rw [and_one u hu, show u % 2 = 0 by omega]; rfl
    have HU : Hid (un u = ((u / 2 : Nat) : Int)) := un_even h2
    clear h2
    go_enter Tryz.func57, Tryz.ntmps57
    go_wp2_with fail
    refine HX.out.mono ?_
    rintro e w1 ⟨rfl, HR1, HB1⟩
    go_wp2_with fail
    go_ret
    exact RP.mk (by rw [HI.out.1, HU.out]; rfl) (by rw [HI.out.2]; exact HR1.out) HB1.out
/-- A call answers a truth, and leaves the world alone. -/
def BP (b : Bool) (w : World) (e : Ending) (w' : World) : Prop := e = .returned (.bool b) ∧ w = w'
theorem BP.mk {b c : Bool} {w : World} (h : c = b) : BP b w (.returned (.bool c)) w := ⟨by rw [h], rfl⟩
set_option maxHeartbeats 4000000 in
theorem xabove (n : Nat) (hn : n < 18446744073709551616) (m : Int) (hm : I64 m) (w : World) : Calls Tryz.prog 109 #[.int .u64 n, .int .i64 m] w (BP (decide (m < (n : Int))) w) := by
  obtain ⟨h1, h2⟩ := hm
  by_cases h0 : m < 0
  · have HD : Hid (decide (m < (n : Int)) = true) := by unfold Hid; rw [decide_eq_true_iff]; omega
    unfold BP
    go_enter Tryz.func109, Tryz.ntmps109
    go_wp2_with fail
    go_ret
    exact ⟨by rw [HD.out]; rfl, rfl⟩
  · have hw : IntKind.u64.wrap m = m := IntWalk.u64_in m (by omega)
    obtain ⟨b, hb⟩ : ∃ b, b = decide (m < (n : Int)) := ⟨_, rfl⟩
    rw [← hb]
    have HD : Hid (b = decide (m < (n : Int))) := hb
    clear hb
    unfold BP
    go_enter Tryz.func109, Tryz.ntmps109
    go_wp2_with fail
    go_ret
    exact ⟨by rw [HD.out]; rfl, rfl⟩
theorem Rm.fl {w w' : World} {q : Nat} {r : Rd} {e : Nat} (h : Rm w q r) (hw : w' = if r.e = 0 then w.setCell ⟨q, 3, none⟩ (.int .i64 e) else w) : Rm w' q (r.fl e) ∧ Bt q w w' := by
  unfold Rd.fl
  by_cases he : r.e = 0
  · rw [if_pos he] at hw
    subst hw
    rw [if_pos he]
    exact ⟨h.setE e, Bt.set q w 3 _⟩
  · rw [if_neg he] at hw
    subst hw
    rw [if_neg he]
    exact ⟨h, Bt.refl q _⟩
theorem xfl (q : Nat) (r : Rd) (e : Nat) (w : World) (h : Rm w q r) : Calls Tryz.prog 89 #[.pointer (some ⟨q, 0, none⟩), .int .i64 e] w (RP q (.tuple #[]) (r.fl e) w) :=
  (xfail q r e w h).mono fun _ _ hh => ⟨hh.1, (h.fl hh.2).1, (h.fl hh.2).2⟩
/-- the fault of a length, by what next tells -/
def cE (t : Nat × Nat × Nat) (m : Int) : Nat := if t.1 ≠ 0 then t.1 else if m < (t.2.1 : Int) then 2 else 0
theorem rCount_nxt (r : Rd) (m : Int) : rCount r m = if cE (nxt r) m = 0 then ({ r with at_ := (nxt r).2.2 }, (nxt r).2.1) else (r.fl (cE (nxt r) m), 0) := by
  unfold rCount cE
  rw [rUint_nxt]
  by_cases h : r.e ≠ 0
  · rw [nxt_bad h, if_neg h]
    simp only [h, ne_eq, not_false_eq_true, if_true, if_false]
    rw [fl_bad h]
  · have h0 : r.e = 0 := by simpa using h
    by_cases h1 : (nxt r).1 = 0
    · rw [if_pos h1]
      simp only [h0, h1, ne_eq, not_true_eq_false, if_false, gt_iff_lt]
      split <;> simp
    · rw [if_neg h1]
      simp only [h0, h1, ne_eq, not_false_eq_true, if_true, if_false]
      simp [Rd.fl, h0]
set_option maxHeartbeats 4000000 in
theorem xcount (q : Nat) (r : Rd) (m : Int) (hm : I64 m) (w : World) (h : Rm w q r) : Calls Tryz.prog 112 #[.pointer (some ⟨q, 0, none⟩), .int .i64 m] w (RP q (.int .i64 (rCount r m).2) (rCount r m).1 w) := by
  have HX : Hid (Calls Tryz.prog 108 #[.pointer (some ⟨q, 0, none⟩)] w (N3 (nxt r) w)) := xnext q r w h
  have HF : Hid (∀ (e : Nat) (w1 : World), Rm w1 q r → Calls Tryz.prog 89 #[.pointer (some ⟨q, 0, none⟩), .int .i64 e] w1 (RP q (.tuple #[]) (r.fl e) w1)) := fun e w1 h => xfl q r e w1 h
  have hsm := nxt_small h.le
  have HU : Hid (rCount r m = if cE (nxt r) m = 0 then ({ r with at_ := (nxt r).2.2 }, (nxt r).2.1) else (r.fl (cE (nxt r) m), 0)) := rCount_nxt r m
  have HR : Hid (Rm w q r) := h
  have hlen := h.len
  have HA : Hid (∀ w, Calls Tryz.prog 109 #[.int .u64 (nxt r).2.1, .int .i64 m] w (BP (decide (m < ((nxt r).2.1 : Int))) w)) := fun w => xabove _ hsm.1 m hm w
  have HM : Hid (I64 m) := hm
  clear h hm
  unfold N3 at HX
  generalize nxt r = t at *
  obtain ⟨t0, t1, t2⟩ := t
  simp only at HX hsm HA
  obtain ⟨d, hd⟩ : ∃ d, d = decide (m < (t1 : Int)) := ⟨_, rfl⟩
  rw [← hd] at HA
  have HD : Hid (d = decide (m < (t1 : Int))) := hd
  clear hd
  by_cases h0 : t0 = 0
  · subst h0
    cases d with
    | false =>
      have hle : (t1 : Int) ≤ m := by have := HD.out; simpa using this
      have HC : Hid (cE (0, t1, t2) m = 0) := by unfold Hid cE; simp; omega
      rw [if_pos HC.out] at HU
      have ht1 : (t1 : Int) ≤ 9223372036854775807 := by have := HM.out.2; omega
      go_enter Tryz.func112, Tryz.ntmps112
      go_wp2_with fail
      refine HX.out.mono ?_
      rintro e w1 ⟨rfl, n, hn⟩
      have HR1 : Hid (Rm w1 q r) := by unfold Hid; rw [hn]; exact HR.out.drewN n
      have HB1 : Hid (Bt q w w1) := by unfold Hid; rw [hn]; exact (Bt.refl q w).drewN n
      have c2 : w1.cell? ⟨q, 2, none⟩ = some (.int .i64 r.at_) := HR1.out.cell 2
      have f2 := HR1.out.froz 2
      clear hn
      go_wp2_with ((go_at_call 109; refine (HA.out _).mono ?_; rintro e w3 ⟨rfl, rfl⟩))
      go_ret
      exact RP.mk (by rw [HU.out]; rfl) (by rw [HU.out]; exact HR1.out.setAt t2 hsm.2) (HB1.out.trans (Bt.set q w1 2 _))
    | true =>
      have hle : m < (t1 : Int) := by have := HD.out; simpa using this
      have HC : Hid (cE (0, t1, t2) m = 2) := by unfold Hid cE; simp; omega
      rw [if_neg (by rw [HC.out]; omega), HC.out] at HU
      go_enter Tryz.func112, Tryz.ntmps112
      go_wp2_with fail
      refine HX.out.mono ?_
      rintro e w1 ⟨rfl, n, hn⟩
      have HR1 : Hid (Rm w1 q r) := by unfold Hid; rw [hn]; exact HR.out.drewN n
      have HB1 : Hid (Bt q w w1) := by unfold Hid; rw [hn]; exact (Bt.refl q w).drewN n
      clear hn
      go_wp2_with ((go_at_call 109; refine (HA.out _).mono ?_; rintro e w3 ⟨rfl, rfl⟩))
      refine (HF.out 2 _ HR1.out).mono ?_
      rintro e w2 ⟨rfl, HR2, HB2⟩
      have HB3 : Hid (Bt q w w2) := HB1.out.trans HB2.out
      go_wp2_with fail
      go_ret
      exact RP.mk (by rw [HU.out]; rfl) (by rw [HU.out]; exact HR2.out) HB3.out
  · have hz : ((t0 : Int) == 0) = false := by rw [beq_eq_false_iff_ne]; omega
    have hz2 : ((t0 : Int) != 0) = true := by rw [bne_iff_ne]; omega
    have HC : Hid (cE (t0, t1, t2) m = t0) := by unfold Hid cE; simp [h0]
    rw [if_neg (by rw [HC.out]; exact h0), HC.out] at HU
    go_enter Tryz.func112, Tryz.ntmps112
    go_wp2_with fail
    refine HX.out.mono ?_
    rintro e w1 ⟨rfl, n, hn⟩
    have HR1 : Hid (Rm w1 q r) := by unfold Hid; rw [hn]; exact HR.out.drewN n
    have HB1 : Hid (Bt q w w1) := by unfold Hid; rw [hn]; exact (Bt.refl q w).drewN n
    clear hn
    go_wp2_with fail
    refine (HF.out t0 _ HR1.out).mono ?_
    rintro e w2 ⟨rfl, HR2, HB2⟩
    have HB3 : Hid (Bt q w w2) := HB1.out.trans HB2.out
    go_wp2_with fail
    go_ret
    exact RP.mk (by rw [HU.out]; rfl) (by rw [HU.out]; exact HR2.out) HB3.out
theorem rBool_bad2 {r : Rd} (h0 : r.e = 0) (h : r.at_ = r.s.length) : rBool r = (r.fl 14, false) := by
  unfold rBool Rd.fl
  rw [if_neg (by simpa using h0), if_pos h0, h, List.getElem?_eq_none (Nat.le_refl _)]
theorem rBool_good {r : Rd} (h0 : r.e = 0) {c : UInt8} (h : r.s[r.at_]? = some c) : rBool r = if 1 < c.toNat then (r.fl 15, false) else ({ r with at_ := r.at_ + 1 }, c.toNat == 1) := by
  unfold rBool Rd.fl
  rw [if_neg (by simpa using h0), if_pos h0, h]
set_option maxHeartbeats 4000000 in
theorem xbool (q : Nat) (r : Rd) (w : World) (h : Rm w q r) : Calls Tryz.prog 87 #[.pointer (some ⟨q, 0, none⟩)] w (RP q (.bool (rBool r).2) (rBool r).1 w) := by
  have HE : Hid (∀ w, Rm w q r → Calls Tryz.prog 58 #[.pointer (some ⟨q, 0, none⟩)] w (NP .i64 r.e w)) := fun w h => xerr q r w h
  have HF : Hid (∀ (e : Nat) (w1 : World), Rm w1 q r → Calls Tryz.prog 89 #[.pointer (some ⟨q, 0, none⟩), .int .i64 e] w1 (RP q (.tuple #[]) (r.fl e) w1)) := fun e w1 h => xfl q r e w1 h
  have HR : Hid (Rm w q r) := h
  have c1 : w.cell? ⟨q, 1, none⟩ = some (.string ⟨r.s.toArray⟩) := h.cell 1
  have c2 : w.cell? ⟨q, 2, none⟩ = some (.int .i64 r.at_) := h.cell 2
  have f2 := h.froz 2
  obtain ⟨S, hS⟩ : ∃ S : ByteArray, S = ⟨r.s.toArray⟩ := ⟨_, rfl⟩
  rw [← hS] at c1
  have hsz : S.size = r.s.length := by rw [hS]; rfl
  have hs : S.size ≤ 9223372036854775807 := by have := h.len; omega
  have ha : r.at_ ≤ S.size := by have := h.le; omega
  have hds : r.s = S.data.toList := by rw [hS]
  by_cases h0 : r.e = 0
  · have hz : ((r.e : Int) != 0) = false := by rw [h0]; rfl
    by_cases hl : r.at_ = S.size
    · have HU : Hid (rBool r = (r.fl 14, false)) := rBool_bad2 h0 (by omega)
      have hlz : ((r.at_ : Int) == (S.size : Int)) = true := by rw [hl]; simp
      clear h hS hsz hds
      go_enter Tryz.func87, Tryz.ntmps87
      go_wp2_with fail
      refine (HE.out _ HR.out).mono ?_
      rintro e w1 ⟨rfl, rfl⟩
      go_wp2_with fail
      go_quiet (fail)
      go_wp2_with fail
      refine (HF.out 14 _ (HR.out.drewN _)).mono ?_
      rintro e w2 ⟨rfl, HR2, HB2⟩
      have HB3 : Hid (Bt q w w2) := ((Bt.refl q w).drewN _).trans HB2.out
      clear HB2
      go_wp2_with fail
      go_ret
      exact RP.mk (by rw [HU.out]; rfl) (by rw [HU.out]; exact HR2.out) HB3.out
    · have hlt : r.at_ < S.size := by omega
      obtain ⟨x, hx⟩ : ∃ x : UInt8, S[r.at_] = x := ⟨_, rfl⟩
      have hxl := x.toNat_lt
      have hix : ∀ w : World, (Instr.index 9 (.string S) (.int .i64 r.at_)).run Tryz.prog w = .ok (.int .u8 (x.toNat : Int)) w := fun w => idx_at hlt hx rfl w
      have HG : Hid (rBool r = if 1 < x.toNat then (r.fl 15, false) else ({ r with at_ := r.at_ + 1 }, x.toNat == 1)) := rBool_good h0 (by
        rw [hds, ← hx]
        have h1 : r.at_ < S.data.toList.length := hlt
        rw [List.getElem?_eq_getElem h1]
        rfl)
      have hlz : ((r.at_ : Int) == (S.size : Int)) = false := by rw [beq_eq_false_iff_ne]; omega
      have hll : r.at_ + 1 ≤ r.s.length := by omega
      clear h hS hsz hds hx hl
      by_cases hc : 1 < x.toNat
      · have hcz : (1 : Int) < (x.toNat : Int) := by omega
        rw [if_pos hc] at HG
        go_enter Tryz.func87, Tryz.ntmps87
        go_wp2_with fail
        refine (HE.out _ HR.out).mono ?_
        rintro e w1 ⟨rfl, rfl⟩
        go_wp2_with fail
        go_quiet (fail)
        go_wp2_with fail
        go_quiet (fail)
        go_wp2_with fail
        refine (HF.out 15 _ (HR.out.drewN _)).mono ?_
        rintro e w2 ⟨rfl, HR2, HB2⟩
        have HB3 : Hid (Bt q w w2) := ((Bt.refl q w).drewN _).trans HB2.out
        clear HB2
        go_wp2_with fail
        go_ret
        exact RP.mk (by rw [HG.out]; rfl) (by rw [HG.out]; exact HR2.out) HB3.out
      · have hcz : ¬ (1 : Int) < (x.toNat : Int) := by omega
        rw [if_neg hc] at HG
        have hb : ((x.toNat : Int) == 1) = (x.toNat == 1) := by
          by_cases h1 : x.toNat = 1
          · rw [h1]; rfl
          · rw [show (x.toNat == 1) = false by simpa using h1]; rw [beq_eq_false_iff_ne]; omega
        generalize (x.toNat == 1) = b at *
        have HRW : Hid (∀ n, Rm ((w.drewN n).setCell ⟨q, 2, none⟩ (.int .i64 ((r.at_ : Int) + 1))) q { r with at_ := r.at_ + 1 }) := fun n => (HR.out.drewN n).setAt (r.at_ + 1) hll
        go_enter Tryz.func87, Tryz.ntmps87
        go_wp2_with fail
        refine (HE.out _ HR.out).mono ?_
        rintro e w1 ⟨rfl, rfl⟩
        go_wp2_with fail
        go_quiet (fail)
        go_wp2_with fail
        go_quiet (fail)
        go_wp2_with fail
        go_ret
        exact RP.mk (by rw [HG.out]; rfl) (by rw [HG.out]; exact HRW.out _) (((Bt.refl q w).drewN _).trans (Bt.set q _ 2 _))
  · have hz : ((r.e : Int) != 0) = true := by rw [bne_iff_ne]; omega
    have HU : Hid (rBool r = (r, false)) := rBool_bad h0
    clear h hS hsz hds
    go_enter Tryz.func87, Tryz.ntmps87
    go_wp2_with fail
    refine (HE.out _ HR.out).mono ?_
    rintro e w1 ⟨rfl, rfl⟩
    go_wp2_with fail
    go_ret
    exact RP.mk (by rw [HU.out]; rfl) (by rw [HU.out]; exact HR.out) (Bt.refl q w)
theorem rEnd_bad2 {r : Rd} (h0 : r.e = 0) (h : r.at_ < r.s.length) : rEnd r = (r.fl 16, false) := by
  unfold rEnd
  rw [if_pos h]
  simp [Rd.fl, h0]
theorem rEnd_good {r : Rd} (h0 : r.e = 0) (h : ¬ r.at_ < r.s.length) : rEnd r = (r, true) := by
  unfold rEnd
  rw [if_neg h]
  simp [h0]
set_option maxHeartbeats 4000000 in
theorem xend (q : Nat) (r : Rd) (w : World) (h : Rm w q r) : Calls Tryz.prog 59 #[.pointer (some ⟨q, 0, none⟩)] w (RP q (.bool (rEnd r).2) (rEnd r).1 w) := by
  have HE : Hid (∀ r w, Rm w q r → Calls Tryz.prog 58 #[.pointer (some ⟨q, 0, none⟩)] w (NP .i64 r.e w)) := fun r w h => xerr q r w h
  have HF : Hid (∀ (e : Nat) (w1 : World), Rm w1 q r → Calls Tryz.prog 89 #[.pointer (some ⟨q, 0, none⟩), .int .i64 e] w1 (RP q (.tuple #[]) (r.fl e) w1)) := fun e w1 h => xfl q r e w1 h
  have HR : Hid (Rm w q r) := h
  have HQ : Hid (∀ n, Calls Tryz.prog 58 #[.pointer (some ⟨q, 0, none⟩)] (w.drewN n) fun e w' => e = .returned (.int .i64 (r.e : Int)) ∧ w' = w.drewN n) := fun n => (xerr q r _ (h.drewN n)).mono fun _ _ h => ⟨h.1, h.2.symm⟩
  have c1 : w.cell? ⟨q, 1, none⟩ = some (.string ⟨r.s.toArray⟩) := h.cell 1
  have c2 : w.cell? ⟨q, 2, none⟩ = some (.int .i64 r.at_) := h.cell 2
  obtain ⟨S, hS⟩ : ∃ S : ByteArray, S = ⟨r.s.toArray⟩ := ⟨_, rfl⟩
  rw [← hS] at c1
  have hsz : S.size = r.s.length := by rw [hS]; rfl
  have hs : S.size ≤ 9223372036854775807 := by have := h.len; omega
  have ha : r.at_ ≤ S.size := by have := h.le; omega
  by_cases h0 : r.e = 0
  · have hz : ((r.e : Int) == 0) = true := by rw [h0]; rfl
    by_cases hl : r.at_ < S.size
    · have HU : Hid (rEnd r = (r.fl 16, false)) := rEnd_bad2 h0 (by omega)
      have hlz : (r.at_ : Int) < (S.size : Int) := by omega
      have hfz : (r.fl 16).e = 16 := by simp [Rd.fl, h0]
      clear h hS hsz
      go_enter Tryz.func59, Tryz.ntmps59
      go_wp2_with fail
      go_quiet ((go_at_call 58; refine Calls.quiet_of_same (HQ.out _)))
      go_wp2_with fail
      refine (HF.out 16 _ (HR.out.drewN _)).mono ?_
      rintro e w2 ⟨rfl, HR2, HB2⟩
      have HB3 : Hid (Bt q w w2) := ((Bt.refl q w).drewN _).trans HB2.out
      have HE2 : Hid (Calls Tryz.prog 58 #[.pointer (some ⟨q, 0, none⟩)] w2 (NP .i64 16 w2)) := by have := HE.out _ _ HR2.out; rw [hfz] at this; exact this
      clear HB2
      go_wp2_with fail
      refine HE2.out.mono ?_
      rintro e w3 ⟨rfl, rfl⟩
      go_wp2_with fail
      go_ret
      exact RP.mk (by rw [HU.out]; rfl) (by rw [HU.out]; exact HR2.out) HB3.out
    · have HU : Hid (rEnd r = (r, true)) := rEnd_good h0 (by omega)
      have hlz : ¬ (r.at_ : Int) < (S.size : Int) := by omega
      clear h hS hsz
      go_enter Tryz.func59, Tryz.ntmps59
      go_wp2_with fail
      go_quiet ((go_at_call 58; refine Calls.quiet_of_same (HQ.out _)))
      go_wp2_with fail
      refine (HE.out r _ (HR.out.drewN _)).mono ?_
      rintro e w3 ⟨rfl, rfl⟩
      go_wp2_with fail
      go_ret
      exact RP.mk (by rw [HU.out]; rfl) (by rw [HU.out]; exact HR.out.drewN _) ((Bt.refl q w).drewN _)
  · have hz : ((r.e : Int) == 0) = false := by rw [beq_eq_false_iff_ne]; omega
    have HU : Hid (rEnd r = (r, false)) := rEnd_bad h0
    clear h hS hsz
    go_enter Tryz.func59, Tryz.ntmps59
    go_wp2_with fail
    go_quiet ((go_at_call 58; refine Calls.quiet_of_same (HQ.out _)))
    go_wp2_with fail
    refine (HE.out r _ (HR.out.drewN _)).mono ?_
    rintro e w3 ⟨rfl, rfl⟩
    go_wp2_with fail
    go_ret
    exact RP.mk (by rw [HU.out]; rfl) (by rw [HU.out]; exact HR.out.drewN _) ((Bt.refl q w).drewN _)
end Go.Proofs.YtdmlgheajblcdaaGreat

/- Text. -/
namespace Go.Proofs.YtdmlgheajblcdaaGreat
open Go.RowKit
set_option linter.unusedVariables false
set_option linter.unusedSimpArgs false
/-- the fault of a text, by what next tells -/
def tE (t : Nat × Nat × Nat) (m : Int) (n : Nat) : Nat := if t.1 ≠ 0 then t.1 else if m < (t.2.1 : Int) then 2 else if n < t.2.2 + t.2.1 then 14 else 0
theorem fl_self {r : Rd} {e : Nat} : ({ r with e := e } : Rd).s = r.s := rfl
theorem rText_nxt (r : Rd) (m : Int) : rText r m = if tE (nxt r) m r.s.length = 0 then ({ r with at_ := (nxt r).2.2 + (nxt r).2.1 }, (r.s.drop (nxt r).2.2).take (nxt r).2.1) else (r.fl (tE (nxt r) m r.s.length), []) := by
  by_cases h : r.e ≠ 0
  · rw [rText_bad h, nxt_bad h]
    unfold tE
    simp only [h, ne_eq, not_false_eq_true, if_true, if_false]
    rw [fl_bad h]
  · have h0 : r.e = 0 := by simpa using h
    unfold rText
    rw [rCount_nxt]
    unfold cE tE
    by_cases h1 : (nxt r).1 = 0
    · simp only [h1, ne_eq, not_true_eq_false, if_false]
      by_cases h2 : m < ((nxt r).2.1 : Int)
      · simp [h2, Rd.fl, h0]
      · simp only [h2, if_false, if_true, h0]
        simp only [not_true_eq_false, if_false]
        split <;> simp_all
    · simp [h1, Rd.fl, h0]
set_option maxHeartbeats 4000000 in
theorem xtext (q : Nat) (r : Rd) (m : Int) (hm : I64 m) (w : World) (h : Rm w q r) (hs : r.s.length ≤ 281474976710656) : Calls Tryz.prog 79 #[.pointer (some ⟨q, 0, none⟩), .int .i64 m] w (RP q (.string ⟨(rText r m).2.toArray⟩) (rText r m).1 w) := by
  have HX : Hid (Calls Tryz.prog 108 #[.pointer (some ⟨q, 0, none⟩)] w (N3 (nxt r) w)) := xnext q r w h
  have HF : Hid (∀ (e : Nat) (w1 : World), Rm w1 q r → Calls Tryz.prog 89 #[.pointer (some ⟨q, 0, none⟩), .int .i64 e] w1 (RP q (.tuple #[]) (r.fl e) w1)) := fun e w1 h => xfl q r e w1 h
  have hsm := nxt_small h.le
  have HU : Hid (rText r m = if tE (nxt r) m r.s.length = 0 then ({ r with at_ := (nxt r).2.2 + (nxt r).2.1 }, (r.s.drop (nxt r).2.2).take (nxt r).2.1) else (r.fl (tE (nxt r) m r.s.length), [])) := rText_nxt r m
  have HR : Hid (Rm w q r) := h
  have hlen := h.len
  have HA : Hid (∀ (k : Int), I64 k → ∀ w, Calls Tryz.prog 109 #[.int .u64 (nxt r).2.1, .int .i64 k] w (BP (decide (k < ((nxt r).2.1 : Int))) w)) := fun k hk w => xabove _ hsm.1 k hk w
  have HM : Hid (I64 m) := hm
  clear h hm
  unfold N3 at HX
  generalize nxt r = t at *
  obtain ⟨t0, t1, t2⟩ := t
  simp only at HX hsm HA
  obtain ⟨S, hS⟩ : ∃ S : ByteArray, Hid (S = ⟨r.s.toArray⟩) := ⟨_, rfl⟩
  have hsz : S.size = r.s.length := by rw [hS.out]; rfl
  have hds : r.s = S.data.toList := by rw [hS.out]
  have hsS : S.size ≤ 281474976710656 := by omega
  have ht2 : t2 ≤ S.size := by have := hsm.2; omega
  have hm1 := HM.out.1
  have hm2 := HM.out.2
  have HD1 : Hid (∀ w, Calls Tryz.prog 109 #[.int .u64 t1, .int .i64 m] w (BP (decide (m < (t1 : Int))) w)) := fun w => HA.out m HM.out w
  have HD2 : Hid (∀ w, Calls Tryz.prog 109 #[.int .u64 t1, .int .i64 ((S.size : Int) - t2)] w (BP (decide ((S.size : Int) - t2 < (t1 : Int))) w)) := fun w => HA.out ((S.size : Int) - t2) ⟨by omega, by omega⟩ w
  clear HA
  by_cases h0 : t0 = 0
  · subst h0
    by_cases h1 : m < (t1 : Int)
    · have HC : Hid (tE (0, t1, t2) m r.s.length = 2) := by unfold Hid tE; simp [h1]
      rw [if_neg (by rw [HC.out]; omega), HC.out] at HU
      rw [decide_eq_true h1] at HD1
      clear HC hS hds h1 hsz
      go_enter Tryz.func79, Tryz.ntmps79
      go_wp2_with fail
      refine HX.out.mono ?_
      rintro e w1 ⟨rfl, n, hn⟩
      have HR1 : Hid (Rm w1 q r) := by unfold Hid; rw [hn]; exact HR.out.drewN n
      have HB1 : Hid (Bt q w w1) := by unfold Hid; rw [hn]; exact (Bt.refl q w).drewN n
      clear hn
      go_wp2_with fail
      refine (HD1.out _).mono ?_
      rintro e w2 ⟨rfl, rfl⟩
      go_wp2_with fail
      refine (HF.out 2 _ HR1.out).mono ?_
      rintro e w2 ⟨rfl, HR2, HB2⟩
      have HB3 : Hid (Bt q w w2) := HB1.out.trans HB2.out
      clear HB2
      go_wp2_with fail
      go_ret
      exact RP.mk (by rw [HU.out]; rfl) (by rw [HU.out]; exact HR2.out) HB3.out
    · rw [decide_eq_false h1] at HD1
      by_cases h2 : (S.size : Int) - t2 < (t1 : Int)
      · have HC : Hid (tE (0, t1, t2) m r.s.length = 14) := by unfold Hid tE; simp [h1]; omega
        rw [if_neg (by rw [HC.out]; omega), HC.out] at HU
        rw [decide_eq_true h2] at HD2
        clear HC hds h1 h2 hsz
        go_enter Tryz.func79, Tryz.ntmps79
        go_wp2_with fail
        refine HX.out.mono ?_
        rintro e w1 ⟨rfl, n, hn⟩
        have HR1 : Hid (Rm w1 q r) := by unfold Hid; rw [hn]; exact HR.out.drewN n
        have HB1 : Hid (Bt q w w1) := by unfold Hid; rw [hn]; exact (Bt.refl q w).drewN n
        have c1 : w1.cell? ⟨q, 1, none⟩ = some (.string S) := by rw [hS.out]; exact HR1.out.cell 1
        clear hn hS
        go_wp2_with fail
        refine (HD1.out _).mono ?_
        rintro e w2 ⟨rfl, rfl⟩
        go_wp2_with fail
        refine (HD2.out _).mono ?_
        rintro e w2 ⟨rfl, rfl⟩
        go_wp2_with fail
        refine (HF.out 14 _ HR1.out).mono ?_
        rintro e w2 ⟨rfl, HR2, HB2⟩
        have HB3 : Hid (Bt q w w2) := HB1.out.trans HB2.out
        clear HB2
        go_wp2_with fail
        go_ret
        exact RP.mk (by rw [HU.out]; rfl) (by rw [HU.out]; exact HR2.out) HB3.out
      · have HC : Hid (tE (0, t1, t2) m r.s.length = 0) := by unfold Hid tE; simp [h1]; omega
        rw [if_pos HC.out] at HU
        rw [decide_eq_false h2] at HD2
        have hle : t2 + t1 ≤ S.size := by omega
        have HT : Hid ((S.extract t2 (t2 + t1)).data.toList = (r.s.drop t2).take t1) := by
          unfold Hid
          rw [ext_list, ← hds]
          congr 1
          omega
        have hx := ext_len S t2 (t2 + t1) hle
        have HK : Hid (∀ w, Calls Tryz.prog 78 #[.string (S.extract t2 (t2 + t1))] w fun e w' => e = .returned (.string (S.extract t2 (t2 + t1))) ∧ Below w.heap.size w w') := fun w => xclone _ (by omega) w
        have hle2 : t2 + t1 ≤ r.s.length := by omega
        have hb1 : (0 : Int) ≤ (t2 : Int) := by omega
        have hb2 : (t2 : Int) ≤ (t2 : Int) + t1 := by omega
        have hb3 : (t2 : Int) + t1 ≤ (S.size : Int) := by omega
        have hb4 : (0 : Int) ≤ (t2 : Int) + t1 := by omega
        clear HC hds h1 h2 hsz
        go_enter Tryz.func79, Tryz.ntmps79
        go_wp2_with fail
        refine HX.out.mono ?_
        rintro e w1 ⟨rfl, n, hn⟩
        have HR1 : Hid (Rm w1 q r) := by unfold Hid; rw [hn]; exact HR.out.drewN n
        have HB1 : Hid (Bt q w w1) := by unfold Hid; rw [hn]; exact (Bt.refl q w).drewN n
        have c1 : w1.cell? ⟨q, 1, none⟩ = some (.string S) := by rw [hS.out]; exact HR1.out.cell 1
        have c2 : w1.cell? ⟨q, 2, none⟩ = some (.int .i64 r.at_) := HR1.out.cell 2
        have f2 := HR1.out.froz 2
        clear hn
        go_wp2_with fail
        refine (HD1.out _).mono ?_
        rintro e w2 ⟨rfl, rfl⟩
        go_wp2_with fail
        refine (HD2.out _).mono ?_
        rintro e w2 ⟨rfl, rfl⟩
        have HR2 : Hid (Rm (w1.setCell ⟨q, 2, none⟩ (.int .i64 ((t2 : Int) + t1))) q { r with at_ := t2 + t1 }) := HR1.out.setAt (t2 + t1) hle2
        have HB2 : Hid (Bt q w (w1.setCell ⟨q, 2, none⟩ (.int .i64 ((t2 : Int) + t1)))) := HB1.out.trans (Bt.set q w1 2 _)
        go_upto_region 10 with fail
        generalize w1.setCell ⟨q, 2, none⟩ (.int .i64 ((t2 : Int) + t1)) = w2 at *
        clear c1 c2 f2
        have d1 : w2.cell? ⟨q, 1, none⟩ = some (.string S) := by rw [hS.out]; exact HR2.out.cell 1
        have d2 : w2.cell? ⟨q, 2, none⟩ = some (.int .i64 ((t2 : Int) + t1)) := HR2.out.cell 2
        have HKP : Hid (∀ (n : Nat) (w3 : World), Below (w2.drewN n).heap.size (w2.drewN n) w3 → w3.cell? ⟨q, 1, none⟩ = some (.string S) ∧ w3.cell? ⟨q, 2, none⟩ = some (.int .i64 ((t2 : Int) + t1))) := fun n w3 hb => ⟨(hb.cell (by exact HR2.out.lt)).trans d1, (hb.cell (by exact HR2.out.lt)).trans d2⟩
        clear hS
        go_region_held3 (fun w' => w'.cell? ⟨q, 1, none⟩ = some (.string S) ∧ w'.cell? ⟨q, 2, none⟩ = some (.int .i64 ((t2 : Int) + t1))) (first | go_keep | exact HKP.out _ _ hb3) (first | (go_at_call 78; go_must (refine (HK.out _).mono ?_; rintro e w3 ⟨rfl, hb3⟩)))
        have HR3 : Hid (Rm w3 q { r with at_ := t2 + t1 }) := (HR2.out.drewN _).keep hb3
        have HB3 : Hid (Bt q w w3) := (HB2.out.drewN _).trans (Bt.of_below hb3)
        clear hb3
        go_wp2_with fail
        go_ret
        exact RP.mk (by rw [HU.out, ← HT.out]; rfl) (by rw [HU.out]; exact HR3.out) HB3.out
  · have hz : ((t0 : Int) == 0) = false := by rw [beq_eq_false_iff_ne]; omega
    have hz2 : ((t0 : Int) != 0) = true := by rw [bne_iff_ne]; omega
    have HC : Hid (tE (t0, t1, t2) m r.s.length = t0) := by unfold Hid tE; simp [h0]
    rw [if_neg (by rw [HC.out]; exact h0), HC.out] at HU
    clear HC hS hds hsz
    go_enter Tryz.func79, Tryz.ntmps79
    go_wp2_with fail
    refine HX.out.mono ?_
    rintro e w1 ⟨rfl, n, hn⟩
    have HR1 : Hid (Rm w1 q r) := by unfold Hid; rw [hn]; exact HR.out.drewN n
    have HB1 : Hid (Bt q w w1) := by unfold Hid; rw [hn]; exact (Bt.refl q w).drewN n
    clear hn
    go_wp2_with fail
    refine (HF.out t0 _ HR1.out).mono ?_
    rintro e w2 ⟨rfl, HR2, HB2⟩
    have HB3 : Hid (Bt q w w2) := HB1.out.trans HB2.out
    clear HB2
    go_wp2_with fail
    go_ret
    exact RP.mk (by rw [HU.out]; rfl) (by rw [HU.out]; exact HR2.out) HB3.out
end Go.Proofs.YtdmlgheajblcdaaGreat

/- Ints of the reader. -/
namespace Go.Proofs.YtdmlgheajblcdaaGreat
open Go.RowKit
set_option linter.unusedVariables false
set_option linter.unusedSimpArgs false
theorem Tryz.info3 : (Tryz.prog.info? 3).map (fun i => (i.zero, i.size, i.bytes)) = some (some (.int .i64 0), 1, 8) := by kernel_rfl
theorem Tryz.info5 : (Tryz.prog.info? 5).map (fun i => (i.zero, i.size, i.bytes)) = some (some (.int .u8 0), 1, 1) := by kernel_rfl
theorem info_parts {P : Program} {t : TypeId} {z : Value} {s b : Nat} (h : (P.info? t).map (fun i => (i.zero, i.size, i.bytes)) = some (some z, s, b)) : ∃ i, P.info? t = some i ∧ i.zero = some z ∧ i.size = s ∧ i.bytes = b := by
  obtain ⟨i, hi, he⟩ := Option.map_eq_some_iff.1 h
  simp only [Prod.mk.injEq] at he
  exact ⟨i, hi, he.1, he.2.1, he.2.2⟩
/-- numbers as cells -/
def icells (xs : List Int) : List Value := xs.map fun n => Value.int .i64 n
theorem icells_len (xs : List Int) : (icells xs).length = xs.length := List.length_map ..
theorem icells_app (xs ys : List Int) : icells (xs ++ ys) = icells xs ++ icells ys := List.map_append ..
theorem one_icells {xs : List Int} : ∀ u ∈ icells xs, u.oneCell' = true := by
  intro u hu
  simp only [icells, List.mem_map] at hu
  obtain ⟨c, _, rfl⟩ := hu
  rfl
/-- append of one number -/
theorem app_int {B : Nat} {w : World} {v : Value} {xs : List Int} (h : w.ownsRow B 3 1 v xs.length (icells xs)) (hB : B ≤ w.heap.size) (n : Int) (hl : xs.length ≤ 1099511627776) :
    ∃ v' w', (Builtin.append_ #[25, 25] 25 #[v, .slice (some ⟨w.heap.size, 0, none⟩) 1 1]).run Tryz.prog (w.alloc (.cells #[.int .i64 n] 3)) = .ok v' w' ∧ w'.ownsRow B 3 1 v' (xs ++ [n]).length (icells (xs ++ [n])) ∧ (w.alloc (.cells #[.int .i64 n] 3)).grownBy w' v.ownBlock := by
  obtain ⟨i0, hi, hz0, hz1, hz2⟩ := info_parts Tryz.info3
  obtain ⟨v', w', hr, ho, hgr, _, hat⟩ := run_append_own_at (P := Tryz.prog) (w := w.alloc (.cells #[.int .i64 n] 3)) B 25 25 3 i0 (.int .i64 0) 1 8 Tryz.underlying25 hi hz0 hz1 hz2 rfl (by decide) v _ _ (h.alloc _) ⟨w.heap.size, 0, none⟩ 1 1 [.int .i64 n] rfl (cell_one_new _ _ _) (one_icells (xs := [n])) (by unfold maxLen; omega) (by omega) (by simp; omega)
  refine ⟨v', w', hr, ?_, hgr⟩
  rw [icells_app, List.length_append]; exact ho
theorem own_bt {w w' : World} {B e size n q : Nat} {v : Value} {xs : List Value} (h : w.ownsRow B e size v n xs) (hq : q < B) (hb : Bt q w w') : w'.ownsRow B e size v n xs := by
  refine ⟨h.1, ?_⟩
  rcases h.2 with h2 | ⟨g, cap, cur, hv, hB, hg, hr⟩
  · exact .inl h2
  · exact .inr ⟨g, cap, cur, hv, hB, hb.other hg (by omega), hr⟩
theorem rIs_bad {r : Rd} (h : r.e ≠ 0) (n : Nat) : rIs n r = (r, []) := by
  cases n with
  | zero => rfl
  | succ n => unfold rIs; rw [if_pos h]
theorem rIs_step {r : Rd} (h : r.e = 0) (n : Nat) : rIs (n + 1) r = ((rIs n (rInt r).1).1, (rInt r).2 :: (rIs n (rInt r).1).2) := by
  show (if _ then _ else _) = _
  rw [if_neg (by simpa using h)]
theorem rCount_run {r : Rd} {m : Int} (h : (rCount r m).2 ≠ 0) : (rCount r m).1.e = 0 := by
  rw [rCount_nxt] at h ⊢
  by_cases hc : cE (nxt r) m = 0
  · rw [if_pos hc]
    have : (nxt r).1 = 0 := by
      unfold cE at hc
      apply Classical.byContradiction
      intro hn
      rw [if_pos hn] at hc
      exact hn hc
    show r.e = 0
    apply Classical.byContradiction
    intro hn
    rw [nxt_bad hn] at this
    exact hn this
  · rw [if_neg hc] at h
    exact absurd rfl h
theorem rInt_moves {r : Rd} (h0 : r.e = 0) (h1 : (rInt r).1.e = 0) : r.at_ + 1 ≤ (rInt r).1.at_ ∧ (rInt r).1.s = r.s := by
  change (rUint r).1.e = 0 at h1
  show r.at_ + 1 ≤ (rUint r).1.at_ ∧ (rUint r).1.s = r.s
  unfold rUint at h1 ⊢
  rw [if_neg (by simpa using h0)] at h1 ⊢
  by_cases hr : (rdU (r.s.drop r.at_)).1 = 0
  · have hk := rdU_ok (s := r.s.drop r.at_) (m := (rdU (r.s.drop r.at_)).2.1) (j := (rdU (r.s.drop r.at_)).2.2) (by rw [← hr])
    rw [if_pos hr]
    exact ⟨by show _ ≤ r.at_ + _; omega, rfl⟩
  · rw [if_neg hr] at h1
    exact absurd h1 hr
/-- numbers so far -/
def Far (N : Nat) (rc : Rd) (k : Nat) (rk : Rd) (xs : List Int) : Prop := rIs N rc = ((rIs (N - k) rk).1, xs ++ (rIs (N - k) rk).2)
theorem Far.step {N : Nat} {rc rk : Rd} {k : Nat} {xs : List Int} (h : Far N rc k rk xs) (hk : k < N) (h0 : rk.e = 0) : Far N rc (k + 1) (rInt rk).1 (xs ++ [(rInt rk).2]) := by
  unfold Far at h ⊢
  rw [h, show N - k = N - (k + 1) + 1 by omega, rIs_step h0]
  simp
theorem Far.end_ {N : Nat} {rc rk : Rd} {xs : List Int} (h : Far N rc N rk xs) : rIs N rc = (rk, xs) := by
  unfold Far at h
  rw [h, Nat.sub_self]
  show (rk, xs ++ []) = _
  rw [List.append_nil]
theorem Far.bad {N : Nat} {rc rk : Rd} {k : Nat} {xs : List Int} (h : Far N rc k rk xs) (h0 : rk.e ≠ 0) : (rIs N rc).1 = rk := by
  unfold Far at h
  rw [h, rIs_bad h0]
/-- what Ints hands back -/
def IsP (q : Nat) (l : List Int) (r : Rd) (w : World) (e : Ending) (w' : World) : Prop := ∃ v xs, e = .returned v ∧ Hid (w'.ownsRow w.heap.size 3 1 v xs.length (icells xs)) ∧ Hid (xs = l) ∧ Hid (Rm w' q r) ∧ Hid (Bt q w w')
theorem IsP.mk {q : Nat} {l : List Int} {r : Rd} {w w' : World} {v : Value} {xs : List Int} (h : w'.ownsRow w.heap.size 3 1 v xs.length (icells xs)) (hx : xs = l) (hr : Rm w' q r) (hb : Bt q w w') : IsP q l r w (.returned v) w' := ⟨v, xs, rfl, h, hx, hr, hb⟩
set_option maxHeartbeats 4000000 in
theorem xints (q : Nat) (r : Rd) (m : Int) (hm : I64 m) (w : World) (h : Rm w q r) (hs : r.s.length ≤ 1099511627776) : Calls Tryz.prog 111 #[.pointer (some ⟨q, 0, none⟩), .int .i64 m] w (IsP q (rInts r m).2 (rInts r m).1 w) := by
  have HX : Hid (Calls Tryz.prog 112 #[.pointer (some ⟨q, 0, none⟩), .int .i64 m] w (RP q (.int .i64 (rCount r m).2) (rCount r m).1 w)) := xcount q r m hm w h
  have HI : Hid (∀ rk w1, Rm w1 q rk → Calls Tryz.prog 57 #[.pointer (some ⟨q, 0, none⟩)] w1 (RP q (.int .i64 (rInt rk).2) (rInt rk).1 w1)) := fun rk w1 h => xint q rk w1 h
  have HE : Hid (∀ rk w1, Rm w1 q rk → Calls Tryz.prog 58 #[.pointer (some ⟨q, 0, none⟩)] w1 (NP .i64 rk.e w1)) := fun rk w1 h => xerr q rk w1 h
  have HU : Hid (rInts r m = if (rIs (rCount r m).2 (rCount r m).1).1.e ≠ 0 then ((rIs (rCount r m).2 (rCount r m).1).1, []) else rIs (rCount r m).2 (rCount r m).1) := rfl
  have HN0 : Hid ((rCount r m).2 ≠ 0 → (rCount r m).1.e = 0) := rCount_run
  have HS : Hid ((rCount r m).1.s = r.s) := (rCount_ok (show r.Ok from h.le) m).2
  have hqs : q < w.heap.size := h.lt
  have hN : ((rCount r m).2 : Int) ≤ 9223372036854775807 := by
    have := hm.2
    rw [rCount_nxt]
    split
    · next hc =>
      show ((nxt r).2.1 : Int) ≤ _
      unfold cE at hc
      split at hc
      · exact absurd hc ‹_›
      · split at hc
        · omega
        · omega
    · show ((0 : Nat) : Int) ≤ _; omega
  clear h hm
  generalize (rCount r m).2 = N at *
  generalize (rCount r m).1 = rc at *
  go_enter Tryz.func111, Tryz.ntmps111
  go_wp2_with fail
  refine HX.out.mono ?_
  rintro e w1 ⟨rfl, HR1, HB1⟩
  clear HX
  go_wp2_with fail
  go_loopw [5, 10] (fun v i wr => ∃ (k : Nat) (xs : List Int) (rk : Rd), i = .int .i64 k ∧ k ≤ N ∧ xs.length = k ∧ Hid (wr.ownsRow w.heap.size 3 1 v xs.length (icells xs)) ∧ Hid (Rm wr q rk) ∧ Hid (Bt q w wr) ∧ Hid (Far N rc k rk xs) ∧ Hid (k ≤ rk.at_ ∧ rk.s = r.s ∧ (N ≠ 0 → rk.e = 0))) (fun _ i _ => N - (Lib.intOf i).toNat)
  case atStart => exact ⟨0, [], rc, rfl, Nat.zero_le _, rfl, World.ownsRow_nil _ _ _ _, HR1, HB1, by unfold Hid Far; simp, ⟨Nat.zero_le _, HS.out, HN0.out⟩⟩
  case round =>
    obtain ⟨k, xs, rk, rfl, hk, hxk, HO, HR, HB, HF, HK⟩ := hrel
    by_cases hkn : k < N
    · have hkz : (k : Int) < (N : Int) := by omega
      have h0 : rk.e = 0 := HK.out.2.2 (by omega)
      have HM : Hid ((rInt rk).1.e = 0 → rk.at_ + 1 ≤ (rInt rk).1.at_ ∧ (rInt rk).1.s = rk.s) := fun h1 => rInt_moves h0 h1
      have HF2 : Hid (Far N rc (k + 1) (rInt rk).1 (xs ++ [(rInt rk).2])) := HF.out.step hkn h0
      have HIk := HI.out rk wr HR.out
      have HIk2 : Hid (Calls Tryz.prog 57 #[.pointer (some ⟨q, 0, none⟩)] wr (RP q (.int .i64 (rInt rk).2) (rInt rk).1 wr)) := HIk
      have hkl : k ≤ 1099511627776 := by
        have h1 := HK.out.1
        have h2 := HR.out.le
        rw [HK.out.2.1] at h2
        omega
      clear HIk h0
      generalize (rInt rk).2 = n at *
      generalize (rInt rk).1 = r2 at *
      go_wp2_with fail
      refine HIk2.out.mono ?_
      rintro e w2 ⟨rfl, HR2, HB2⟩
      have HO2 : Hid (w2.ownsRow w.heap.size 3 1 u5 xs.length (icells xs)) := own_bt HO.out hqs HB2.out
      have HB3 : Hid (Bt q w w2) := HB.out.trans HB2.out
      have HE2 : Hid (Calls Tryz.prog 58 #[.pointer (some ⟨q, 0, none⟩)] w2 (NP .i64 r2.e w2)) := HE.out r2 w2 HR2.out
      clear HB2 HIk2
      by_cases hr : r2.e = 0
      · have hrz : ((r2.e : Int) != 0) = false := by rw [hr]; rfl
        obtain ⟨v', w4, hr4, ho4, hg4⟩ := app_int HO2.out HB3.out.size n (by omega)
        have HR4 : Hid _ := hr4
        have HO4 : Hid (w4.ownsRow w.heap.size 3 1 v' (xs ++ [n]).length (icells (xs ++ [n]))) := ho4
        have hbw : Below w.heap.size w2 w4 := ((Below.refl w.heap.size w2).alloc HB3.out.size _).grown hg4 (by have := HB3.out.size; simp; omega) (fun j hj => (HO2.out.lt j hj).1)
        have HRm4 : Hid (Rm w4 q r2) := HR2.out.same (hbw.block q hqs)
        have HB4 : Hid (Bt q w w4) := ⟨hbw.os.trans HB3.out.os, hbw.tape.trans HB3.out.tape, hbw.output.trans HB3.out.output, Nat.le_trans HB3.out.size hbw.size, fun i hi hn => (hbw.block i hi).trans (HB3.out.block i hi hn)⟩
        have HK2 : Hid (k + 1 ≤ r2.at_ ∧ r2.s = r.s ∧ (N ≠ 0 → r2.e = 0)) := ⟨by have h1 := (HM.out hr).1; have h2 := HK.out.1; omega, by rw [(HM.out hr).2]; exact HK.out.2.1, fun _ => hr⟩
        clear hr4 ho4 hg4 hbw HM HK HF HO HR HB HO2
        go_wp2_with fail
        refine HE2.out.mono ?_
        rintro e w5 ⟨rfl, rfl⟩
        go_wp2_with (at_builtin; refine Lib.wpList_append_run _ rfl _ _ 25 25 rfl _ _ rfl rfl _ w4 HR4.out ?_)
        exact ⟨⟨k + 1, xs ++ [n], r2, by go_num, by omega, by simp; omega, HO4.out, HRm4.out, HB4.out, HF2.out, HK2.out⟩, by simp [Lib.intOf]; omega⟩
      · have hrz : ((r2.e : Int) != 0) = true := by rw [bne_iff_ne]; omega
        have HD : Hid (rInts r m = (r2, [])) := by
          unfold Hid
          rw [HU.out, HF2.out.bad hr, if_pos hr]
        go_wp2_with fail
        refine HE2.out.mono ?_
        rintro e w5 ⟨rfl, rfl⟩
        go_wp2_with fail
        go_ret
        exact IsP.mk (xs := []) (World.ownsRow_nil _ _ _ _) (by rw [HD.out]) (by rw [HD.out]; exact HR2.out) HB3.out
    · have hkz : ¬ (k : Int) < (N : Int) := by omega
      have hkN : k = N := by omega
      subst hkN
      have HD : Hid ((rInts r m).2 = xs ∧ (rInts r m).1 = rk) := by
        unfold Hid
        rw [HU.out, HF.out.end_]
        by_cases hr : rk.e = 0
        · rw [if_neg (by simpa using hr)]; exact ⟨rfl, rfl⟩
        · rw [if_pos hr]
          refine ⟨?_, rfl⟩
          have : k = 0 := Classical.byContradiction fun hn => hr (HK.out.2.2 hn)
          rw [this] at hxk
          exact (List.length_eq_zero_iff.1 hxk).symm
      go_wp2_with fail
      go_ret
      exact IsP.mk HO.out HD.out.1.symm (by rw [HD.out.2]; exact HR.out) HB.out
end Go.Proofs.YtdmlgheajblcdaaGreat
