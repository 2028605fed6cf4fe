/- A reader in memory; Err, At, Fail, next, Uint, Int. -/
import Derived.Test.YtdmlgheajblcdaaGreatND
import Derived.WalkKit
import Derived.ProofKit
import Derived.Handy
import Derived.WalkLawsBesides
import Derived.WalkSpells
import Derived.BigQuiet
import Derived.BigCall
import Derived.Deep.QuietTactic
import Derived.Deep.Light
import Derived.Deep.OwnRows
import Derived.Laws.AppendOwnNone
import Derived.Laws.Strings3
import Derived.Laws.RangeAny
import Derived.Deep.RegionWith
import Derived.Lib.BitFns
import Derived.Lib.Walk
import Derived.Lib.Strings
import Derived.Lib.OthersKept
import Derived.Deep.CutBlock
import Derived.Deep.DeepCutAuto
import Derived.Deep.LoopGhost
import Derived.Deep.RegionHeld3
import Derived.Lib.SmallJoins
import Derived.Maps.AppendAt
import Derived.Laws.IdiomStrings
import Derived.Lib.AppendZeros
import Derived.Deep.WholeRow
import Derived.Laws.BitsAllLaws
import Derived.Lib.ConvBytes
import Derived.Deep.RegionLaw
namespace Go.Proofs.YtdmlgheajblcdaaGreat
open Go.RowKit
set_option linter.unusedVariables false
set_option linter.unusedSimpArgs false
/-- the four cells -/
def pcells (r : Rd) : Array Value := #[.bool true, .string ⟨r.s.toArray⟩, .int .i64 r.at_, .int .i64 r.e]
/-- a reader in memory -/
structure Rm (w : World) (q : Nat) (r : Rd) : Prop where
  blk : w.heap[q]? = some (.cells (pcells r) 155 (0, 0))
  len : r.s.length ≤ 9223372036854775807
  le : r.at_ ≤ r.s.length
/-- all blocks but one -/
def Bt (q : Nat) (w w' : World) : Prop := w.grownBy w' (some q)
theorem Bt.refl (q : Nat) (w : World) : Bt q w w := ⟨rfl, rfl, rfl, Nat.le_refl _, fun _ _ _ => rfl⟩
theorem Bt.trans {q : Nat} {a b c : World} (h : Bt q a b) (k : Bt q b c) : Bt q a c :=
  ⟨k.os.trans h.os, k.tape.trans h.tape, k.output.trans h.output, Nat.le_trans h.size k.size, fun i hi hn => (k.block i (Nat.lt_of_lt_of_le hi h.size) hn).trans (h.block i hi hn)⟩
theorem Bt.drewN {q : Nat} {a w : World} (h : Bt q a w) (n : Nat) : Bt q a (w.drewN n) := ⟨h.os, h.tape, h.output, h.size, h.block⟩
theorem Bt.of_below {q : Nat} {w w' : World} (h : Below w.heap.size w w') : Bt q w w' := ⟨h.os, h.tape, h.output, h.size, fun k hk _ => h.block k hk⟩
theorem Bt.below {q B : Nat} {w w' : World} (h : Bt q w w') (hB : B ≤ q) (hw : B ≤ w.heap.size) : Below B w w' :=
  (Below.refl B w).grown h hw (fun k hk => by rw [← Option.some.inj hk]; exact hB)
theorem Bt.set (q : Nat) (w : World) (k : Nat) (u : Value) : Bt q w (w.setCell ⟨q, k, none⟩ u) :=
  ⟨rfl, rfl, rfl, by simp, fun i _ hn => Below.heap_setCell w _ u i (fun e => hn (by rw [e]))⟩
theorem Bt.other {q p : Nat} {w w' : World} {o : Obj} (h : Bt q w w') (hp : w.heap[p]? = some o) (hn : p ≠ q) : w'.heap[p]? = some o :=
  (h.block p (Array.getElem?_eq_some_iff.1 hp).1 (fun e => hn (Option.some.inj e))).trans hp
section
variable {w w' : World} {q : Nat} {r : Rd}
theorem Rm.lt (h : Rm w q r) : q < w.heap.size := (Array.getElem?_eq_some_iff.1 h.blk).1
theorem Rm.cell (h : Rm w q r) (j : Nat) : w.cell? ⟨q, j, none⟩ = (pcells r)[j]? := cell_of_row w q j _ 155 (0, 0) h.blk
theorem Rm.froz (h : Rm w q r) (j : Nat) : w.frozen? ⟨q, j, none⟩ = false := by
  have := h.blk
  simp [World.frozen?, this]
theorem Rm.same (h : Rm w q r) (hb : w'.heap[q]? = w.heap[q]?) : Rm w' q r := ⟨hb.trans h.blk, h.len, h.le⟩
theorem Rm.drewN (h : Rm w q r) (n : Nat) : Rm (w.drewN n) q r := h.same rfl
theorem Rm.keep (h : Rm w q r) (hb : Below w.heap.size w w') : Rm w' q r := h.same (hb.block q h.lt)
theorem set_blk {p : Nat} {T k : Nat} {cs : Array Value} {fz : Nat × Nat} (hp : w.heap[p]? = some (.cells cs T fz)) (u : Value) : (w.setCell ⟨p, k, none⟩ u).heap[p]? = some (.cells (cs.setIfInBounds k u) T fz) := by
  rw [setCell_eq_setRow w p k cs T fz u hp]
  exact setRow_heap w p cs _ T fz hp
theorem Rm.setAt (h : Rm w q r) (n : Nat) (hn : n ≤ r.s.length) : Rm (w.setCell ⟨q, 2, none⟩ (.int .i64 n)) q { r with at_ := n } := ⟨by rw [set_blk h.blk]; rfl, h.len, hn⟩
theorem Rm.setE (h : Rm w q r) (n : Nat) : Rm (w.setCell ⟨q, 3, none⟩ (.int .i64 n)) q { r with e := n } := ⟨by rw [set_blk h.blk]; rfl, h.len, h.le⟩
end
theorem xerr (q : Nat) (r : Rd) (w : World) (h : Rm w q r) : Calls Tryz.prog 58 #[.pointer (some ⟨q, 0, none⟩)] w (NP .i64 r.e w) := by
  have c0 : w.cell? ⟨q, 0, none⟩ = some (.bool true) := h.cell 0
  have c3 : w.cell? ⟨q, 3, none⟩ = some (.int .i64 r.e) := h.cell 3
  clear h
  go_enter Tryz.func58, Tryz.ntmps58
  go_wp2_with fail
  go_ret
  exact NP.mk rfl
theorem xat (q : Nat) (r : Rd) (w : World) (h : Rm w q r) : Calls Tryz.prog 60 #[.pointer (some ⟨q, 0, none⟩)] w (NP .i64 r.at_ w) := by
  have c2 : w.cell? ⟨q, 2, none⟩ = some (.int .i64 r.at_) := h.cell 2
  clear h
  go_enter Tryz.func60, Tryz.ntmps60
  go_wp2_with fail
  go_ret
  exact NP.mk rfl
/-- a call that answers nothing, and sets the fault -/
def FlP (q : Nat) (r : Rd) (e : Nat) (w : World) (x : Ending) (w' : World) : Prop := x = .returned (.tuple #[]) ∧ w' = if r.e = 0 then w.setCell ⟨q, 3, none⟩ (.int .i64 e) else w
set_option maxHeartbeats 4000000 in
theorem xfail (q : Nat) (r : Rd) (e : Nat) (w : World) (h : Rm w q r) : Calls Tryz.prog 89 #[.pointer (some ⟨q, 0, none⟩), .int .i64 e] w (FlP q r e w) := by
  have HE : Hid (∀ w, Rm w q r → Calls Tryz.prog 58 #[.pointer (some ⟨q, 0, none⟩)] w (NP .i64 r.e w)) := fun w h => xerr q r w h
  have HR : Hid (Rm w q r) := h
  have c3 : w.cell? ⟨q, 3, none⟩ = some (.int .i64 r.e) := h.cell 3
  have f3 := h.froz 3
  clear h
  unfold FlP
  by_cases h0 : r.e = 0
  · have hz : ((r.e : Int) == 0) = true := by rw [h0]; rfl
    rw [if_pos h0]
    go_enter Tryz.func89, Tryz.ntmps89
    go_wp2_with fail
    refine (HE.out _ HR.out).mono ?_
    rintro e w1 ⟨rfl, rfl⟩
    go_wp2_with fail
    go_returns
    exact ⟨rfl, rfl⟩
  · have hz : ((r.e : Int) == 0) = false := by rw [beq_eq_false_iff_ne]; omega
    rw [if_neg h0]
    go_enter Tryz.func89, Tryz.ntmps89
    go_wp2_with fail
    refine (HE.out _ HR.out).mono ?_
    rintro e w1 ⟨rfl, rfl⟩
    go_wp2_with fail
    go_returns
    exact ⟨rfl, rfl⟩
theorem ext_list (s : ByteArray) (a b : Nat) : (s.extract a b).data.toList = (s.data.toList.drop a).take (b - a) := by
  rw [ByteArray.data_extract, Array.toList_extract]
theorem ext_len (s : ByteArray) (a b : Nat) (h : b ≤ s.size) : (s.extract a b).size = b - a := by
  have h1 : (s.extract a b).size = (s.extract a b).data.toList.length := rfl
  rw [h1, ext_list, List.length_take, List.length_drop]
  show min (b - a) (s.size - a) = _
  omega
theorem drop_all (s : ByteArray) (a : Nat) : (s.extract a s.size).data.toList = s.data.toList.drop a := by
  rw [ext_list, List.take_of_length_le]
  rw [List.length_drop]
  exact Nat.le_refl _
/-- the number that the reader is at, and the place behind it -/
def nxt (r : Rd) : Nat × Nat × Nat := if r.e ≠ 0 then (r.e, 0, 0) else ((rdU (r.s.drop r.at_)).1, (rdU (r.s.drop r.at_)).2.1, r.at_ + (rdU (r.s.drop r.at_)).2.2)
theorem nxt_bad {r : Rd} (h : r.e ≠ 0) : nxt r = (r.e, 0, 0) := if_pos h
theorem nxt_ok {r : Rd} (h : ¬ r.e ≠ 0) : nxt r = ((rdU (r.s.drop r.at_)).1, (rdU (r.s.drop r.at_)).2.1, r.at_ + (rdU (r.s.drop r.at_)).2.2) := if_neg h
theorem rdU_small (l : List UInt8) : (rdU l).2.1 < 18446744073709551616 ∧ (rdU l).2.2 ≤ l.length := by
  rcases rdU_err l with h | h | h
  · have := rdU_ok (s := l) (m := (rdU l).2.1) (j := (rdU l).2.2) (by rw [← h])
    exact ⟨this.1, this.2.2.2.2⟩
  · rw [h]; exact ⟨by decide, Nat.zero_le _⟩
  · rw [h]; exact ⟨by decide, Nat.zero_le _⟩
theorem nxt_small {r : Rd} (hl : r.at_ ≤ r.s.length) : (nxt r).2.1 < 18446744073709551616 ∧ (nxt r).2.2 ≤ r.s.length := by
  by_cases h : r.e ≠ 0
  · rw [nxt_bad h]; exact ⟨by show 0 < _; omega, Nat.zero_le _⟩
  · rw [nxt_ok h]
    have := rdU_small (r.s.drop r.at_)
    rw [List.length_drop] at this
    exact ⟨this.1, by show r.at_ + _ ≤ _; omega⟩
theorem drewN_two (w : World) (a b : Nat) : (w.drewN a).drewN b = w.drewN (a + b) := by simp [World.drewN, Nat.add_assoc]
/-- what next hands back -/
def N3 (t : Nat × Nat × Nat) (w : World) (e : Ending) (w' : World) : Prop := e = .returned (.tuple #[.int .u64 t.2.1, .int .i64 t.2.2, .int .i64 t.1]) ∧ ∃ n, w' = w.drewN n
theorem N3.mk {t : Nat × Nat × Nat} {w : World} {x y z : Int} {a b c n : Nat} (h : t = (a, b, c)) (hx : x = b) (hy : y = c) (hz : z = a) : N3 t w (.returned (.tuple #[.int .u64 x, .int .i64 y, .int .i64 z])) (w.drewN n) := by
  subst h hx hy hz
  exact ⟨rfl, n, rfl⟩
theorem N3.mk0 {t : Nat × Nat × Nat} {w : World} {x y z : Int} {a b c : Nat} (h : t = (a, b, c)) (hx : x = b) (hy : y = c) (hz : z = a) : N3 t w (.returned (.tuple #[.int .u64 x, .int .i64 y, .int .i64 z])) w := by
  subst h hx hy hz
  exact ⟨rfl, 0, rfl⟩
set_option maxHeartbeats 4000000 in
theorem xnext (q : Nat) (r : Rd) (w : World) (h : Rm w q r) : Calls Tryz.prog 108 #[.pointer (some ⟨q, 0, none⟩)] w (N3 (nxt r) w) := by
  have HE : Hid (∀ w, Rm w q r → Calls Tryz.prog 58 #[.pointer (some ⟨q, 0, none⟩)] w (NP .i64 r.e w)) := fun w h => xerr q r w h
  have HR : Hid (Rm w q r) := h
  have c1 : w.cell? ⟨q, 1, none⟩ = some (.string ⟨r.s.toArray⟩) := h.cell 1
  have c2 : w.cell? ⟨q, 2, none⟩ = some (.int .i64 r.at_) := h.cell 2
  obtain ⟨S, hS⟩ : ∃ S : ByteArray, S = ⟨r.s.toArray⟩ := ⟨_, rfl⟩
  rw [← hS] at c1
  have hsz : S.size = r.s.length := by rw [hS]; rfl
  have hs : S.size ≤ 9223372036854775807 := by have := h.len; omega
  have ha : r.at_ ≤ S.size := by have := h.le; omega
  have hds : r.s = S.data.toList := by rw [hS]
  by_cases h0 : r.e = 0
  · have hz : ((r.e : Int) != 0) = false := by rw [h0]; rfl
    have HN : Hid (nxt r = ((rdU (S.data.toList.drop r.at_)).1, (rdU (S.data.toList.drop r.at_)).2.1, r.at_ + (rdU (S.data.toList.drop r.at_)).2.2)) := by unfold Hid; rw [nxt_ok (by simpa using h0), hds]
    have HX : Hid (∀ w, Calls Tryz.prog 118 #[.string (S.extract r.at_ S.size)] w fun e w' => e = .returned (.tuple #[.int .u64 (rdU (S.data.toList.drop r.at_)).2.1, .int .i64 (rdU (S.data.toList.drop r.at_)).2.2, .int .i64 (rdU (S.data.toList.drop r.at_)).1]) ∧ w' = w) := fun w => by
      have := xnum (S.extract r.at_ S.size) (by rw [ext_len _ _ _ (Nat.le_refl _)]; omega) w
      rw [drop_all] at this
      exact this.mono fun _ _ h => ⟨h.1, h.2.symm⟩
    have hsm := rdU_small (S.data.toList.drop r.at_)
    have hle : (rdU (S.data.toList.drop r.at_)).2.2 + r.at_ ≤ S.size := by
      have := hsm.2
      rw [List.length_drop] at this
      have h2 : S.data.toList.length = S.size := rfl
      omega
    clear hsm h hS hsz hds
    generalize rdU (S.data.toList.drop r.at_) = t at *
    obtain ⟨t0, t1, t2⟩ := t
    simp only at hle HN
    simp only at HX
    generalize r.at_ = A at *
    go_enter Tryz.func108, Tryz.ntmps108
    go_wp2_with fail
    refine (HE.out _ HR.out).mono ?_
    rintro e w1 ⟨rfl, rfl⟩
    go_wp2_with fail
    go_quiet ((go_at_call 118; refine Calls.quiet_of_same (HX.out _)))
    go_wp2_with fail
    go_quiet (fail)
    go_wp2_with fail
    go_ret3
    rw [drewN_two]
    exact N3.mk HN.out rfl (Int.natCast_add A t2).symm rfl
  · have hz : ((r.e : Int) != 0) = true := by rw [bne_iff_ne]; omega
    have HN : Hid (nxt r = (r.e, 0, 0)) := nxt_bad h0
    clear h hS hsz hds
    go_enter Tryz.func108, Tryz.ntmps108
    go_wp2_with fail
    refine (HE.out _ HR.out).mono ?_
    rintro e w1 ⟨rfl, rfl⟩
    go_wp2_with fail
    go_ret3
    exact N3.mk0 HN.out rfl rfl rfl
/-- what a reader's call hands back: a value, and the reader behind it; all else stands -/
def RP (q : Nat) (v : Value) (r : Rd) (w : World) (e : Ending) (w' : World) : Prop := e = .returned v ∧ Hid (Rm w' q r) ∧ Hid (Bt q w w')
theorem RP.mk {q : Nat} {u v : Value} {r : Rd} {w w' : World} (hv : u = v) (h : Rm w' q r) (hb : Bt q w w') : RP q v r w (.returned u) w' := ⟨by rw [hv], h, hb⟩
theorem rUint_nxt (r : Rd) : rUint r = if (nxt r).1 = 0 then ({ r with at_ := (nxt r).2.2 }, (nxt r).2.1) else (if r.e = 0 then { r with e := (nxt r).1 } else r, 0) := by
  by_cases h : r.e ≠ 0
  · rw [rUint_bad h, nxt_bad h, if_neg h, if_neg h]
  · rw [nxt_ok h]
    unfold rUint
    rw [if_neg h]
    by_cases h1 : (rdU (r.s.drop r.at_)).1 = 0
    · rw [if_pos h1, if_pos h1]
    · rw [if_neg h1, if_neg h1, if_pos (by simpa using h)]
set_option maxHeartbeats 4000000 in
theorem xuint (q : Nat) (r : Rd) (w : World) (h : Rm w q r) : Calls Tryz.prog 88 #[.pointer (some ⟨q, 0, none⟩)] w (RP q (.int .u64 (rUint r).2) (rUint r).1 w) := by
  have HX : Hid (Calls Tryz.prog 108 #[.pointer (some ⟨q, 0, none⟩)] w (N3 (nxt r) w)) := xnext q r w h
  have HF : Hid (∀ (e : Nat) (w1 : World), Rm w1 q r → Calls Tryz.prog 89 #[.pointer (some ⟨q, 0, none⟩), .int .i64 e] w1 (FlP q r e w1)) := fun e w1 h => xfail q r e w1 h
  have hsm := nxt_small h.le
  have HU : Hid (rUint r = if (nxt r).1 = 0 then ({ r with at_ := (nxt r).2.2 }, (nxt r).2.1) else (if r.e = 0 then { r with e := (nxt r).1 } else r, 0)) := rUint_nxt r
  have HR : Hid (Rm w q r) := h
  have hlen := h.len
  clear h
  unfold N3 at HX
  generalize nxt r = t at *
  obtain ⟨t0, t1, t2⟩ := t
  simp only at HX HU hsm
  by_cases h0 : t0 = 0
  · have hz : ((t0 : Int) != 0) = false := by rw [h0]; rfl
    rw [if_pos h0] at HU
    go_enter Tryz.func88, Tryz.ntmps88
    go_wp2_with fail
    refine HX.out.mono ?_
    rintro e w1 ⟨rfl, n, hn⟩
    have HR1 : Hid (Rm w1 q r) := by unfold Hid; rw [hn]; exact HR.out.drewN n
    have HB1 : Hid (Bt q w w1) := by unfold Hid; rw [hn]; exact (Bt.refl q w).drewN n
    have c2 : w1.cell? ⟨q, 2, none⟩ = some (.int .i64 r.at_) := HR1.out.cell 2
    have f2 := HR1.out.froz 2
    clear hn
    go_wp2_with fail
    go_ret
    exact RP.mk (by rw [HU.out]; rfl) (by rw [HU.out]; exact HR1.out.setAt t2 hsm.2) (HB1.out.trans (Bt.set q w1 2 _))
  · have hz : ((t0 : Int) != 0) = true := by rw [bne_iff_ne]; omega
    rw [if_neg h0] at HU
    go_enter Tryz.func88, Tryz.ntmps88
    go_wp2_with fail
    refine HX.out.mono ?_
    rintro e w1 ⟨rfl, n, hn⟩
    have HR1 : Hid (Rm w1 q r) := by unfold Hid; rw [hn]; exact HR.out.drewN n
    have HB1 : Hid (Bt q w w1) := by unfold Hid; rw [hn]; exact (Bt.refl q w).drewN n
    clear hn
    go_wp2_with fail
    refine (HF.out t0 _ HR1.out).mono ?_
    rintro e w2 ⟨rfl, hw2⟩
    have HR2 : Hid (Rm w2 q (rUint r).1 ∧ Bt q w w2) := by
      unfold Hid
      rw [HU.out]
      by_cases he : r.e = 0
      · rw [if_pos he] at hw2
        subst hw2
        simp only [if_pos he]
        exact ⟨HR1.out.setE t0, HB1.out.trans (Bt.set q w1 3 _)⟩
      · rw [if_neg he] at hw2
        subst hw2
        simp only [if_neg he]
        exact ⟨HR1.out, HB1.out⟩
    clear hw2
    go_wp2_with fail
    go_ret
    exact RP.mk (by rw [HU.out]; rfl) HR2.out.1 HR2.out.2
end Go.Proofs.YtdmlgheajblcdaaGreat
