/- Layer 10: lists of parts read. -/
import Derived.Test.YtdmlgheajblcdaaGreatN31
import Derived.WalkKit
import Derived.ProofKit
import Derived.Handy
import Derived.WalkLawsBesides
import Derived.WalkSpells
import Derived.BigQuiet
import Derived.BigCall
import Derived.Deep.QuietTactic
import Derived.Deep.Light
import Derived.Deep.OwnRows
import Derived.Laws.AppendOwnNone
import Derived.Laws.Strings3
import Derived.Laws.RangeAny
import Derived.Deep.RegionWith
import Derived.Lib.BitFns
import Derived.Lib.Walk
import Derived.Lib.Strings
import Derived.Lib.OthersKept
import Derived.Deep.CutBlock
import Derived.Deep.DeepCutAuto
import Derived.Deep.LoopGhost
import Derived.Deep.RegionHeld3
import Derived.Lib.SmallJoins
import Derived.Maps.AppendAt
import Derived.Laws.IdiomStrings
import Derived.Lib.AppendZeros
import Derived.Deep.WholeRow
import Derived.Laws.BitsAllLaws
import Derived.Lib.ConvBytes
import Derived.Deep.RegionLaw
namespace Go.Proofs.YtdmlgheajblcdaaGreat
open Go.RowKit
set_option linter.unusedVariables false
set_option linter.unusedSimpArgs false
set_option maxRecDepth 100000
/-- so many read, whatever comes -/
def pre {α : Type} (f : Rd → Rd × α) : Nat → Rd → Rd × List α
  | 0, r => (r, [])
  | n + 1, r => ((f (pre f n r).1).1, (pre f n r).2 ++ [(f (pre f n r).1).2])
/-- so many read, up to a fault -/
def rep {α : Type} (f : Rd → Rd × α) : Nat → Rd → Rd × List α
  | 0, r => (r, [])
  | n + 1, r => if r.e ≠ 0 then (r, []) else ((rep f n (f r).1).1, (f r).2 :: (rep f n (f r).1).2)
theorem pre_cons {α : Type} (f : Rd → Rd × α) : ∀ (n : Nat) (r : Rd), pre f (n + 1) r = ((pre f n (f r).1).1, (f r).2 :: (pre f n (f r).1).2)
  | 0, r => rfl
  | n + 1, r => by
    show ((f (pre f (n + 1) r).1).1, (pre f (n + 1) r).2 ++ [(f (pre f (n + 1) r).1).2]) = _
    rw [pre_cons f n r]
    rfl
theorem pre_bad {α : Type} (f : Rd → Rd × α) (hb : ∀ r, r.e ≠ 0 → (f r).1 = r) : ∀ (n : Nat) (r : Rd), r.e ≠ 0 → (pre f n r).1 = r
  | 0, r, _ => rfl
  | n + 1, r, h => by
    show (f (pre f n r).1).1 = r
    rw [pre_bad f hb n r h, hb r h]
theorem pre_rep {α : Type} (f : Rd → Rd × α) (hb : ∀ r, r.e ≠ 0 → (f r).1 = r) : ∀ (n : Nat) (r : Rd), (pre f n r).1 = (rep f n r).1 ∧ ((rep f n r).1.e = 0 → (pre f n r).2 = (rep f n r).2)
  | 0, r => ⟨rfl, fun _ => rfl⟩
  | n + 1, r => by
    rw [pre_cons]
    by_cases h : r.e ≠ 0
    · have e : rep f (n + 1) r = (r, []) := if_pos h
      rw [e]
      refine ⟨?_, fun h0 => absurd h0 h⟩
      show (pre f n (f r).1).1 = r
      rw [hb r h]
      exact pre_bad f hb n r h
    · have e : rep f (n + 1) r = ((rep f n (f r).1).1, (f r).2 :: (rep f n (f r).1).2) := if_neg h
      rw [e]
      obtain ⟨h1, h2⟩ := pre_rep f hb n (f r).1
      exact ⟨h1, fun h0 => by show _ :: _ = _ :: _; rw [h2 h0]⟩
theorem pre_len {α : Type} (f : Rd → Rd × α) : ∀ (n : Nat) (r : Rd), (pre f n r).2.length = n
  | 0, r => rfl
  | n + 1, r => by show ((pre f n r).2 ++ [_]).length = _; rw [List.length_append, pre_len f n r]; rfl
theorem rLots_rep : ∀ (n : Nat) (r : Rd), rLots n r = rep rLot n r
  | 0, _ => rfl
  | n + 1, r => by show (if r.e ≠ 0 then _ else _) = (if r.e ≠ 0 then _ else _); rw [rLots_rep n]
theorem rCuts_rep : ∀ (n : Nat) (r : Rd), rCuts n r = rep rCut n r
  | 0, _ => rfl
  | n + 1, r => by show (if r.e ≠ 0 then _ else _) = (if r.e ≠ 0 then _ else _); rw [rCuts_rep n]
theorem rLot_bad {r : Rd} (h : r.e ≠ 0) : (rLot r).1 = r := by unfold rLot; rw [rText_bad h, rInt_bad h]
theorem rCut_bad {r : Rd} (h : r.e ≠ 0) : (rCut r).1 = r := by unfold rCut; rw [rInt_bad h, rInt_bad h, rInt_bad h]
theorem rCount_if (r : Rd) (m : Int) : rCount r m = if (rUint r).1.e ≠ 0 then ((rUint r).1, 0) else if m < ((rUint r).2 : Int) then (r.fl 2, 0) else rUint r := rfl
theorem rCount_le (r : Rd) : (rCount r 64).2 ≤ 64 := by
  rw [rCount_if]
  split
  · exact Nat.zero_le _
  · split
    · exact Nat.zero_le _
    · rename_i h; omega
def LsP (e sz n : Nat) (cs : List Value) (q : Nat) (r : Rd) (w : World) (E : Ending) (w' : World) : Prop := ∃ a c, E = .returned (.slice a n c) ∧ Hid (w'.ownsRow w.heap.size e sz (.slice a n c) n cs) ∧ Hid (Rm w' q r) ∧ Hid (Bt q w w')
theorem own_sl {B e sz n : Nat} {w : World} {v : Value} {xs : List Value} (h : w.ownsRow B e sz v n xs) : ∃ a c, v = .slice a n c := by
  rcases h.2 with ⟨hv, hn⟩ | ⟨g, cap, cur, hv, _⟩
  · exact ⟨none, 0, by rw [hv, hn]⟩
  · exact ⟨_, cap, hv⟩
theorem cIntsL {q : Nat} {r r1 : Rd} {m : Int} {a : List Int} (hm : I64 m) (h : rInts r m = (r1, a)) (w : World) (hR : Rm w q r) (hs : r.s.length ≤ 1099511627776) : Calls Tryz.prog 111 #[.pointer (some ⟨q, 0, none⟩), .int .i64 m] w (LsP 3 1 a.length (icells a) q r1 w) :=
  (cInts hm h w hR hs).mono fun e w' ⟨v, xs, he, ho, hx, hr, hb⟩ => by
    have hx := hx.out
    subst hx
    obtain ⟨p, c, rfl⟩ := own_sl ho.out
    exact ⟨p, c, he, ho, hr, hb⟩
set_option maxHeartbeats 8000000 in
theorem xlots {q : Nat} {r r1 : Rd} {N : Nat} (h1 : rCount r 64 = (r1, N)) (w : World) (hR : Rm w q r) (hs : r.s.length ≤ 281474976710656) : Calls Tryz.prog 86 #[.agg #[.pointer (some ⟨q, 0, none⟩)]] w (LsP 32 2 N (lcells (pre rLot N r1).2) q (pre rLot N r1).1 w) := by
  have hN : N ≤ 64 := by have := rCount_le r; rw [h1] at this; exact this
  have hs1 : r1.s = r.s := by have := (rCount_ok (show r.Ok from hR.le) 64).2; rw [h1] at this; exact this
  have HSr : Hid (r1.s.length ≤ 281474976710656) := by unfold Hid; rw [hs1]; exact hs
  have HX0 : Hid (Bx (w.alloc (.cells #[.pointer (some ⟨q, 0, none⟩)] 133)) w.heap.size #[.pointer (some ⟨q, 0, none⟩)] 133) := Bx.new _ _ _
  have HR0 : Hid (Rm (w.alloc (.cells #[.pointer (some ⟨q, 0, none⟩)] 133)) q r) := hR.keep (below_a _ _)
  have HB0 : Hid (Bt q w (w.alloc (.cells #[.pointer (some ⟨q, 0, none⟩)] 133))) := Bt.of_below (below_a w _)
  have hsz0 : w.heap.size + 1 ≤ (w.alloc (.cells #[.pointer (some ⟨q, 0, none⟩)] 133)).heap.size := by rw [size_a]; omega
  have hdq : w.heap.size ≠ q := Nat.ne_of_gt hR.lt
  have hqs : q < w.heap.size := hR.lt
  clear hR
  go_enter Tryz.func86, Tryz.ntmps86
  go_upto_region 1 with fail
  generalize (w.alloc (.cells #[.pointer (some ⟨q, 0, none⟩)] 133)) = w1 at *
  have c0 : w1.cell? ⟨w.heap.size, 0, none⟩ = some (.pointer (some ⟨q, 0, none⟩)) := HX0.out.cell 0
  go_wp2_with fail
  refine (cCount ⟨by decide, by decide⟩ h1 _ HR0.out).mono ?_
  rintro e w2 ⟨rfl, HR2, HB2⟩
  have HX2 : Hid (Bx w2 w.heap.size #[.pointer (some ⟨q, 0, none⟩)] 133) := HX0.out.bt HB2.out hdq
  have HB3 : Hid (Bt q w w2) := HB0.out.trans HB2.out
  have hsz2 : w.heap.size + 1 ≤ w2.heap.size := Nat.le_trans hsz0 HB2.out.size
  clear HB0 HB2 HR0 HX0 c0 hsz0 hs hs1 h1
  go_wp2_with fail
  go_loopw [3, 7] (fun v i wr => ∃ (k : Nat), i = .int .i64 k ∧ k ≤ N ∧ Hid (wr.ownsRow (w.heap.size + 1) 32 2 v (pre rLot k r1).2.length (lcells (pre rLot k r1).2)) ∧ Hid (Rm wr q (pre rLot k r1).1) ∧ Hid ((pre rLot k r1).1.s.length ≤ 281474976710656) ∧ Hid (Bt q w wr) ∧ Hid (Bx wr w.heap.size #[.pointer (some ⟨q, 0, none⟩)] 133) ∧ w.heap.size + 1 ≤ wr.heap.size) (fun _ i _ => N - (Lib.intOf i).toNat)
  case atStart => exact ⟨0, rfl, Nat.zero_le _, World.ownsRow_nil _ _ _ _, HR2, HSr, HB3, HX2, hsz2⟩
  case round =>
    clear HR2 HB3 HX2 hsz2
    obtain ⟨k, rfl, hk, HOk, HRk, HSk, HBk, HXk, hszk⟩ := hrel
    by_cases hkn : k < N
    · have hkz : (k : Int) < (N : Int) := by omega
      have HLk : Hid ((pre rLot k r1).2.length = k) := pre_len rLot k r1
      have HE1 : Hid ((pre rLot (k + 1) r1).1 = (rLot (pre rLot k r1).1).1) := rfl
      have HE2 : Hid ((pre rLot (k + 1) r1).2 = (pre rLot k r1).2 ++ [(rLot (pre rLot k r1).1).2]) := rfl
      have HS2 : Hid ((rLot (pre rLot k r1).1).1.s.length ≤ 281474976710656) := by unfold Hid; rw [(fLot _ (show (pre rLot k r1).1.Ok from HRk.out.le)).2.1]; exact HSk.out
      have HCk : Hid (∀ W, Rm W q (pre rLot k r1).1 → Calls Tryz.prog 85 #[.agg #[.pointer (some ⟨q, 0, none⟩)]] W (RP q (.agg #[.string ⟨(rLot (pre rLot k r1).1).2.i.toArray⟩, .int .i64 (rLot (pre rLot k r1).1).2.q]) (rLot (pre rLot k r1).1).1 W)) := fun W h => xlotR rfl rfl W h HSk.out
      generalize (pre rLot k r1).1 = rk at *
      generalize (pre rLot k r1).2 = ys at *
      generalize hP1 : (pre rLot (k + 1) r1).1 = R1 at *
      generalize hP2 : (pre rLot (k + 1) r1).2 = Y1 at *
      generalize (rLot rk).1 = r2 at *
      generalize (rLot rk).2 = y at *
      have d0 : wr.cell? ⟨w.heap.size, 0, none⟩ = some (.pointer (some ⟨q, 0, none⟩)) := HXk.out.cell 0
      go_wp2_with fail
      refine (HCk.out _ HRk.out).mono ?_
      rintro e w3 ⟨rfl, HR3, HC3⟩
      have HO3 : Hid (w3.ownsRow (w.heap.size + 1) 32 2 u3 ys.length (lcells ys)) := own_bt HOk.out (by omega) HC3.out
      have hs3 : w.heap.size + 1 ≤ w3.heap.size := Nat.le_trans hszk HC3.out.size
      have hly : ys.length ≤ 1000000 := by have := HLk.out; omega
      obtain ⟨v', w4, hr4, ho4, hg4⟩ := app_lot HO3.out hs3 y hly
      have HR4 : Hid _ := hr4
      have hbw : Below (w.heap.size + 1) w3 w4 := ((Below.refl (w.heap.size + 1) w3).alloc hs3 _).grown hg4 (by rw [size_a]; omega) (fun j hj => (HO3.out.lt j hj).1)
      have HO4 : Hid (w4.ownsRow (w.heap.size + 1) 32 2 v' Y1.length (lcells Y1)) := by unfold Hid; rw [HE2.out]; exact ho4
      have HRm4 : Hid (Rm w4 q R1) := by unfold Hid; rw [HE1.out]; exact HR3.out.same (hbw.block q (by omega))
      have HS4 : Hid (R1.s.length ≤ 281474976710656) := by unfold Hid; rw [HE1.out]; exact HS2.out
      have HB3 : Hid (Bt q w w3) := HBk.out.trans HC3.out
      have HB4 : Hid (Bt q w w4) := ⟨hbw.os.trans HB3.out.os, hbw.tape.trans HB3.out.tape, hbw.output.trans HB3.out.output, Nat.le_trans HB3.out.size hbw.size, fun i hi hn => (hbw.block i (by omega)).trans (HB3.out.block i hi hn)⟩
      have HX4 : Hid (Bx w4 w.heap.size #[.pointer (some ⟨q, 0, none⟩)] 133) := (hbw.block _ (by omega)).trans (HXk.out.bt HC3.out hdq)
      have hs4 : w.heap.size + 1 ≤ w4.heap.size := Nat.le_trans hs3 hbw.size
      clear ho4 hg4 hr4 HB3 HO3
      clear hbw HR3 HC3 HXk HBk HRk HOk HCk d0
      go_wp2_with (at_builtin; refine Lib.wpList_append_run _ rfl _ _ 33 33 rfl _ _ rfl rfl _ w4 HR4.out ?_)
      subst hP1
      subst hP2
      exact ⟨⟨k + 1, by go_num, by omega, HO4.out, HRm4.out, HS4.out, HB4.out, HX4.out, hs4⟩, by simp [Lib.intOf]; omega⟩
    · have hkz : ¬ (k : Int) < (N : Int) := by omega
      have hkN : k = N := by omega
      subst hkN
      have hLf := pre_len rLot k r1
      have hOf := HOk.out
      rw [hLf] at hOf
      obtain ⟨fa, fc, hv⟩ := own_sl hOf
      subst hv
      have HOf : Hid (wr.ownsRow w.heap.size 32 2 (.slice fa k fc) k (lcells (pre rLot k r1).2)) := own_mono hOf (by omega)
      clear hOf HOk hLf
      go_wp2_with fail
      go_ret
      exact ⟨fa, fc, rfl, HOf, HRk, HBk⟩
set_option maxHeartbeats 8000000 in
theorem xprices {q : Nat} {r r1 : Rd} {N : Nat} (h1 : rCount r 64 = (r1, N)) (w : World) (hR : Rm w q r) (hs : r.s.length ≤ 281474976710656) : Calls Tryz.prog 82 #[.agg #[.pointer (some ⟨q, 0, none⟩)]] w (LsP 128 2 N (lcells (pre rLot N r1).2) q (pre rLot N r1).1 w) := by
  have hN : N ≤ 64 := by have := rCount_le r; rw [h1] at this; exact this
  have hs1 : r1.s = r.s := by have := (rCount_ok (show r.Ok from hR.le) 64).2; rw [h1] at this; exact this
  have HSr : Hid (r1.s.length ≤ 281474976710656) := by unfold Hid; rw [hs1]; exact hs
  have HX0 : Hid (Bx (w.alloc (.cells #[.pointer (some ⟨q, 0, none⟩)] 133)) w.heap.size #[.pointer (some ⟨q, 0, none⟩)] 133) := Bx.new _ _ _
  have HR0 : Hid (Rm (w.alloc (.cells #[.pointer (some ⟨q, 0, none⟩)] 133)) q r) := hR.keep (below_a _ _)
  have HB0 : Hid (Bt q w (w.alloc (.cells #[.pointer (some ⟨q, 0, none⟩)] 133))) := Bt.of_below (below_a w _)
  have hsz0 : w.heap.size + 1 ≤ (w.alloc (.cells #[.pointer (some ⟨q, 0, none⟩)] 133)).heap.size := by rw [size_a]; omega
  have hdq : w.heap.size ≠ q := Nat.ne_of_gt hR.lt
  have hqs : q < w.heap.size := hR.lt
  clear hR
  go_enter Tryz.func82, Tryz.ntmps82
  go_upto_region 1 with fail
  generalize (w.alloc (.cells #[.pointer (some ⟨q, 0, none⟩)] 133)) = w1 at *
  have c0 : w1.cell? ⟨w.heap.size, 0, none⟩ = some (.pointer (some ⟨q, 0, none⟩)) := HX0.out.cell 0
  go_wp2_with fail
  refine (cCount ⟨by decide, by decide⟩ h1 _ HR0.out).mono ?_
  rintro e w2 ⟨rfl, HR2, HB2⟩
  have HX2 : Hid (Bx w2 w.heap.size #[.pointer (some ⟨q, 0, none⟩)] 133) := HX0.out.bt HB2.out hdq
  have HB3 : Hid (Bt q w w2) := HB0.out.trans HB2.out
  have hsz2 : w.heap.size + 1 ≤ w2.heap.size := Nat.le_trans hsz0 HB2.out.size
  clear HB0 HB2 HR0 HX0 c0 hsz0 hs hs1 h1
  go_wp2_with fail
  go_loopw [3, 7] (fun v i wr => ∃ (k : Nat), i = .int .i64 k ∧ k ≤ N ∧ Hid (wr.ownsRow (w.heap.size + 1) 128 2 v (pre rLot k r1).2.length (lcells (pre rLot k r1).2)) ∧ Hid (Rm wr q (pre rLot k r1).1) ∧ Hid ((pre rLot k r1).1.s.length ≤ 281474976710656) ∧ Hid (Bt q w wr) ∧ Hid (Bx wr w.heap.size #[.pointer (some ⟨q, 0, none⟩)] 133) ∧ w.heap.size + 1 ≤ wr.heap.size) (fun _ i _ => N - (Lib.intOf i).toNat)
  case atStart => exact ⟨0, rfl, Nat.zero_le _, World.ownsRow_nil _ _ _ _, HR2, HSr, HB3, HX2, hsz2⟩
  case round =>
    clear HR2 HB3 HX2 hsz2
    obtain ⟨k, rfl, hk, HOk, HRk, HSk, HBk, HXk, hszk⟩ := hrel
    by_cases hkn : k < N
    · have hkz : (k : Int) < (N : Int) := by omega
      have HLk : Hid ((pre rLot k r1).2.length = k) := pre_len rLot k r1
      have HE1 : Hid ((pre rLot (k + 1) r1).1 = (rLot (pre rLot k r1).1).1) := rfl
      have HE2 : Hid ((pre rLot (k + 1) r1).2 = (pre rLot k r1).2 ++ [(rLot (pre rLot k r1).1).2]) := rfl
      have HS2 : Hid ((rLot (pre rLot k r1).1).1.s.length ≤ 281474976710656) := by unfold Hid; rw [(fLot _ (show (pre rLot k r1).1.Ok from HRk.out.le)).2.1]; exact HSk.out
      have HC1 : Hid (∀ W, Rm W q (pre rLot k r1).1 → Calls Tryz.prog 83 #[.agg #[.pointer (some ⟨q, 0, none⟩)]] W (RP q (.string ⟨(rLot (pre rLot k r1).1).2.i.toArray⟩) (rText (pre rLot k r1).1 12).1 W)) := fun W h => xcode rfl W h HSk.out
      have HC2 : Hid (∀ W, Rm W q (rText (pre rLot k r1).1 12).1 → Calls Tryz.prog 57 #[.pointer (some ⟨q, 0, none⟩)] W (RP q (.int .i64 (rLot (pre rLot k r1).1).2.q) (rLot (pre rLot k r1).1).1 W)) := fun W h => cInt rfl W h
      generalize (rText (pre rLot k r1).1 12).1 = ra at *
      generalize (pre rLot k r1).1 = rk at *
      generalize (pre rLot k r1).2 = ys at *
      generalize hP1 : (pre rLot (k + 1) r1).1 = R1 at *
      generalize hP2 : (pre rLot (k + 1) r1).2 = Y1 at *
      generalize (rLot rk).1 = r2 at *
      generalize (rLot rk).2 = y at *
      go_wp2_with fail
      refine wp_region_held (S := fun W => Bx W w.heap.size #[.pointer (some ⟨q, 0, none⟩)] 133 ∧ Bt q w W) (by kernel_rfl) ?_
      change wpAnyH _ _ _ _ _ 10 #[false, false, false, false, false, false, false, false, false, false] _ wr.drew
      have hS0 : Bx wr.drew w.heap.size #[.pointer (some ⟨q, 0, none⟩)] 133 ∧ Bt q w wr.drew := ⟨HXk.out, HBk.out.drewN 1⟩
      have hR0 : Rm wr.drew q rk := HRk.out.drewN 1
      have hD0 : Bt q wr wr.drew := (Bt.refl q wr).drewN 1
      obtain ⟨v0, hv0⟩ : ∃ v, v = wr.drew := ⟨_, rfl⟩
      rw [← hv0] at hS0 hR0 hD0 ⊢
      clear hv0
      refine takeR (fuel := 9) (i := 0) (v := u3) rfl (by kernel_rfl) (by kernel_rfl) (by kernel_rfl) (fun _ _ _ h => h) (Or.inl ⟨rfl, fun _ _ => rfl⟩) hS0 ?_
      simp only [Act.put, List.setIfInBounds_toArray, List.set_cons_zero, List.set_cons_succ]
      refine takeR (fuel := 8) (i := 1) (v := .agg #[.pointer (some ⟨q, 0, none⟩)]) rfl (by kernel_rfl) (by kernel_rfl) (by kernel_rfl) (fun _ _ _ h => h) (Or.inl ⟨rfl, fun W hW => by have cj := (hW.1.cell 0 : W.cell? ⟨w.heap.size, 0, none⟩ = some (.pointer (some ⟨q, 0, none⟩))); go_simp⟩) hS0 ?_
      simp only [Act.put, List.setIfInBounds_toArray, List.set_cons_zero, List.set_cons_succ]
      refine takeR (fuel := 7) (i := 3) (v := .pointer (some ⟨w.heap.size, 0, none⟩)) rfl (by kernel_rfl) (by kernel_rfl) (by kernel_rfl) (fun _ _ _ h => h) (Or.inl ⟨rfl, fun W hW => by go_simp⟩) hS0 ?_
      simp only [Act.put, List.setIfInBounds_toArray, List.set_cons_zero, List.set_cons_succ]
      refine takeR (fuel := 6) (i := 4) (v := .pointer (some ⟨q, 0, none⟩)) rfl (by kernel_rfl) (by kernel_rfl) (by kernel_rfl) (fun _ _ _ h => h) (Or.inl ⟨rfl, fun W hW => by have cj := (hW.1.cell 0 : W.cell? ⟨w.heap.size, 0, none⟩ = some (.pointer (some ⟨q, 0, none⟩))); go_simp⟩) hS0 ?_
      simp only [Act.put, List.setIfInBounds_toArray, List.set_cons_zero, List.set_cons_succ]
      refine consR (fuel := 5) (i := 2) rfl (by kernel_rfl) (fun K hK => ?_)
      rw [if_pos (by rfl)]
      go_simp
      refine (HC1.out _ hR0).mono ?_
      rintro e x1 ⟨rfl, HRx1, hC1⟩
      refine hK.out _ _ ⟨hS0.1.bt hC1.out hdq, hS0.2.trans hC1.out⟩ (fun hS1 => ?_)
      clear hK
      try simp only [Act.put, List.setIfInBounds_toArray, List.set_cons_zero, List.set_cons_succ]
      have hR1 := HRx1.out
      have hD1 := hD0.trans hC1.out
      refine consR (fuel := 4) (i := 5) rfl (by kernel_rfl) (fun K hK => ?_)
      rw [if_pos (by rfl)]
      go_simp
      refine (HC2.out _ hR1).mono ?_
      rintro e x2 ⟨rfl, HRx2, hC2⟩
      refine hK.out _ _ ⟨hS1.1.bt hC2.out hdq, hS1.2.trans hC2.out⟩ (fun hS2 => ?_)
      clear hK
      try simp only [Act.put, List.setIfInBounds_toArray, List.set_cons_zero, List.set_cons_succ]
      have hR2 := HRx2.out
      have hD2 := hD1.trans hC2.out
      refine takeR (fuel := 3) (i := 6) (v := .agg #[.string ⟨y.i.toArray⟩, .int .i64 y.q]) rfl (by kernel_rfl) (by kernel_rfl) (by kernel_rfl) (fun _ _ _ h => h) (Or.inl ⟨rfl, fun W hW => by go_simp⟩) hS2 ?_
      simp only [Act.put, List.setIfInBounds_toArray, List.set_cons_zero, List.set_cons_succ]
      have HR3 : Hid (Rm x2 q r2) := hR2
      have HC3 : Hid (Bt q wr x2) := hD2
      have hS3 := hS2
      generalize x2 = w3 at *
      have HO3 : Hid (w3.ownsRow (w.heap.size + 1) 128 2 u3 ys.length (lcells ys)) := own_bt HOk.out (by omega) HC3.out
      have hs3 : w.heap.size + 1 ≤ w3.heap.size := Nat.le_trans hszk HC3.out.size
      have hly : ys.length ≤ 1000000 := by have := HLk.out; omega
      obtain ⟨v', w4, hr4, ho4, hg4⟩ := app_price HO3.out hs3 y hly
      have HR4 : Hid _ := hr4
      have hbw : Below (w.heap.size + 1) w3 w4 := ((Below.refl (w.heap.size + 1) w3).alloc hs3 _).grown hg4 (by rw [size_a]; omega) (fun j hj => (HO3.out.lt j hj).1)
      have HO4 : Hid (w4.ownsRow (w.heap.size + 1) 128 2 v' Y1.length (lcells Y1)) := by unfold Hid; rw [HE2.out]; exact ho4
      have HRm4 : Hid (Rm w4 q R1) := by unfold Hid; rw [HE1.out]; exact HR3.out.same (hbw.block q (by omega))
      have HS4 : Hid (R1.s.length ≤ 281474976710656) := by unfold Hid; rw [HE1.out]; exact HS2.out
      have HB3 : Hid (Bt q w w3) := HBk.out.trans HC3.out
      have HB4 : Hid (Bt q w w4) := ⟨hbw.os.trans HB3.out.os, hbw.tape.trans HB3.out.tape, hbw.output.trans HB3.out.output, Nat.le_trans HB3.out.size hbw.size, fun i hi hn => (hbw.block i (by omega)).trans (HB3.out.block i hi hn)⟩
      have HX4 : Hid (Bx w4 w.heap.size #[.pointer (some ⟨q, 0, none⟩)] 133) := (hbw.block _ (by omega)).trans (HXk.out.bt HC3.out hdq)
      have hs4 : w.heap.size + 1 ≤ w4.heap.size := Nat.le_trans hs3 hbw.size
      clear ho4 hg4 hr4 HB3 HO3
      refine consR (fuel := 2) (i := 7) rfl (by kernel_rfl) (fun K hK => ?_)
      rw [if_pos (by rfl)]
      go_simp
      refine hK.out _ _ ⟨hS3.1.keep (below_a _ _), hS3.2.trans (Bt.of_below (below_a _ _))⟩ (fun hS4 => ?_)
      clear hK
      try simp only [Act.put, List.setIfInBounds_toArray, List.set_cons_zero, List.set_cons_succ]
      refine consR (fuel := 1) (i := 8) rfl (by kernel_rfl) (fun K hK => ?_)
      rw [if_pos (by rfl)]
      refine Lib.wp_append_run _ _ _ 28 28 rfl _ _ rfl rfl v' w4 HR4.out ?_
      refine hK.out _ _ ⟨HX4.out, HB4.out⟩ (fun hS5 => ?_)
      clear hK
      try simp only [Act.put, List.setIfInBounds_toArray, List.set_cons_zero, List.set_cons_succ]
      refine takeR (fuel := 0) (i := 9) (v := v') rfl (by kernel_rfl) (by kernel_rfl) (by kernel_rfl) (fun _ _ _ h => h) (Or.inl ⟨rfl, fun _ _ => rfl⟩) hS5 ?_
      simp only [Act.put, List.setIfInBounds_toArray, List.set_cons_zero, List.set_cons_succ]
      refine wpAnyH_done (by kernel_rfl) ?_ _
      go_wp2_with fail
      subst hP1
      subst hP2
      exact ⟨⟨k + 1, by go_num, by omega, HO4.out, HRm4.out, HS4.out, HB4.out, HX4.out, hs4⟩, by simp [Lib.intOf]; omega⟩
    · have hkz : ¬ (k : Int) < (N : Int) := by omega
      have hkN : k = N := by omega
      subst hkN
      have hLf := pre_len rLot k r1
      have hOf := HOk.out
      rw [hLf] at hOf
      obtain ⟨fa, fc, hv⟩ := own_sl hOf
      subst hv
      have HOf : Hid (wr.ownsRow w.heap.size 128 2 (.slice fa k fc) k (lcells (pre rLot k r1).2)) := own_mono hOf (by omega)
      clear hOf HOk hLf
      go_wp2_with fail
      go_ret
      exact ⟨fa, fc, rfl, HOf, HRk, HBk⟩
set_option maxHeartbeats 8000000 in
theorem xcutsR {q : Nat} {r r1 : Rd} {N : Nat} (h1 : rCount r 64 = (r1, N)) (w : World) (hR : Rm w q r) (hs : r.s.length ≤ 281474976710656) : Calls Tryz.prog 110 #[.agg #[.pointer (some ⟨q, 0, none⟩)]] w (LsP 112 3 N (ccells (pre rCut N r1).2) q (pre rCut N r1).1 w) := by
  have hN : N ≤ 64 := by have := rCount_le r; rw [h1] at this; exact this
  have hs1 : r1.s = r.s := by have := (rCount_ok (show r.Ok from hR.le) 64).2; rw [h1] at this; exact this
  have HSr : Hid (r1.s.length ≤ 281474976710656) := by unfold Hid; rw [hs1]; exact hs
  have HX0 : Hid (Bx (w.alloc (.cells #[.pointer (some ⟨q, 0, none⟩)] 133)) w.heap.size #[.pointer (some ⟨q, 0, none⟩)] 133) := Bx.new _ _ _
  have HR0 : Hid (Rm (w.alloc (.cells #[.pointer (some ⟨q, 0, none⟩)] 133)) q r) := hR.keep (below_a _ _)
  have HB0 : Hid (Bt q w (w.alloc (.cells #[.pointer (some ⟨q, 0, none⟩)] 133))) := Bt.of_below (below_a w _)
  have hsz0 : w.heap.size + 1 ≤ (w.alloc (.cells #[.pointer (some ⟨q, 0, none⟩)] 133)).heap.size := by rw [size_a]; omega
  have hdq : w.heap.size ≠ q := Nat.ne_of_gt hR.lt
  have hqs : q < w.heap.size := hR.lt
  clear hR
  go_enter Tryz.func110, Tryz.ntmps110
  go_upto_region 1 with fail
  generalize (w.alloc (.cells #[.pointer (some ⟨q, 0, none⟩)] 133)) = w1 at *
  have c0 : w1.cell? ⟨w.heap.size, 0, none⟩ = some (.pointer (some ⟨q, 0, none⟩)) := HX0.out.cell 0
  go_wp2_with fail
  refine (cCount ⟨by decide, by decide⟩ h1 _ HR0.out).mono ?_
  rintro e w2 ⟨rfl, HR2, HB2⟩
  have HX2 : Hid (Bx w2 w.heap.size #[.pointer (some ⟨q, 0, none⟩)] 133) := HX0.out.bt HB2.out hdq
  have HB3 : Hid (Bt q w w2) := HB0.out.trans HB2.out
  have hsz2 : w.heap.size + 1 ≤ w2.heap.size := Nat.le_trans hsz0 HB2.out.size
  clear HB0 HB2 HR0 HX0 c0 hsz0 hs hs1 h1
  go_wp2_with fail
  go_loopw [3, 7] (fun v i wr => ∃ (k : Nat), i = .int .i64 k ∧ k ≤ N ∧ Hid (wr.ownsRow (w.heap.size + 1) 112 3 v (pre rCut k r1).2.length (ccells (pre rCut k r1).2)) ∧ Hid (Rm wr q (pre rCut k r1).1) ∧ Hid ((pre rCut k r1).1.s.length ≤ 281474976710656) ∧ Hid (Bt q w wr) ∧ Hid (Bx wr w.heap.size #[.pointer (some ⟨q, 0, none⟩)] 133) ∧ w.heap.size + 1 ≤ wr.heap.size) (fun _ i _ => N - (Lib.intOf i).toNat)
  case atStart => exact ⟨0, rfl, Nat.zero_le _, World.ownsRow_nil _ _ _ _, HR2, HSr, HB3, HX2, hsz2⟩
  case round =>
    clear HR2 HB3 HX2 hsz2
    obtain ⟨k, rfl, hk, HOk, HRk, HSk, HBk, HXk, hszk⟩ := hrel
    by_cases hkn : k < N
    · have hkz : (k : Int) < (N : Int) := by omega
      have HLk : Hid ((pre rCut k r1).2.length = k) := pre_len rCut k r1
      have HE1 : Hid ((pre rCut (k + 1) r1).1 = (rCut (pre rCut k r1).1).1) := rfl
      have HE2 : Hid ((pre rCut (k + 1) r1).2 = (pre rCut k r1).2 ++ [(rCut (pre rCut k r1).1).2]) := rfl
      have HS2 : Hid ((rCut (pre rCut k r1).1).1.s.length ≤ 281474976710656) := by unfold Hid; rw [(fCut _ (show (pre rCut k r1).1.Ok from HRk.out.le)).2.1]; exact HSk.out
      have HC1 : Hid (∀ W, Rm W q (pre rCut k r1).1 → Calls Tryz.prog 57 #[.pointer (some ⟨q, 0, none⟩)] W (RP q (.int .i64 (rCut (pre rCut k r1).1).2.d) (rInt (pre rCut k r1).1).1 W)) := fun W h => cInt rfl W h
      have HC2 : Hid (∀ W, Rm W q (rInt (pre rCut k r1).1).1 → Calls Tryz.prog 57 #[.pointer (some ⟨q, 0, none⟩)] W (RP q (.int .i64 (rCut (pre rCut k r1).1).2.r) (rInt (rInt (pre rCut k r1).1).1).1 W)) := fun W h => cInt rfl W h
      have HC3' : Hid (∀ W, Rm W q (rInt (rInt (pre rCut k r1).1).1).1 → Calls Tryz.prog 57 #[.pointer (some ⟨q, 0, none⟩)] W (RP q (.int .i64 (rCut (pre rCut k r1).1).2.c) (rCut (pre rCut k r1).1).1 W)) := fun W h => cInt rfl W h
      generalize (rInt (rInt (pre rCut k r1).1).1).1 = rb at *
      generalize (rInt (pre rCut k r1).1).1 = ra at *
      generalize (pre rCut k r1).1 = rk at *
      generalize (pre rCut k r1).2 = ys at *
      generalize hP1 : (pre rCut (k + 1) r1).1 = R1 at *
      generalize hP2 : (pre rCut (k + 1) r1).2 = Y1 at *
      generalize (rCut rk).1 = r2 at *
      generalize (rCut rk).2 = y at *
      go_wp2_with fail
      refine wp_region_held (S := fun W => Bx W w.heap.size #[.pointer (some ⟨q, 0, none⟩)] 133 ∧ Bt q w W) (by kernel_rfl) ?_
      change wpAnyH _ _ _ _ _ 14 #[false, false, false, false, false, false, false, false, false, false, false, false, false, false] _ wr.drew
      have hS0 : Bx wr.drew w.heap.size #[.pointer (some ⟨q, 0, none⟩)] 133 ∧ Bt q w wr.drew := ⟨HXk.out, HBk.out.drewN 1⟩
      have hR0 : Rm wr.drew q rk := HRk.out.drewN 1
      have hD0 : Bt q wr wr.drew := (Bt.refl q wr).drewN 1
      obtain ⟨v0, hv0⟩ : ∃ v, v = wr.drew := ⟨_, rfl⟩
      rw [← hv0] at hS0 hR0 hD0 ⊢
      clear hv0
      refine takeR (fuel := 13) (i := 0) (v := u3) rfl (by kernel_rfl) (by kernel_rfl) (by kernel_rfl) (fun _ _ _ h => h) (Or.inl ⟨rfl, fun _ _ => rfl⟩) hS0 ?_
      simp only [Act.put, List.setIfInBounds_toArray, List.set_cons_zero, List.set_cons_succ]
      refine takeR (fuel := 12) (i := 1) (v := .pointer (some ⟨w.heap.size, 0, none⟩)) rfl (by kernel_rfl) (by kernel_rfl) (by kernel_rfl) (fun _ _ _ h => h) (Or.inl ⟨rfl, fun W hW => by go_simp⟩) hS0 ?_
      simp only [Act.put, List.setIfInBounds_toArray, List.set_cons_zero, List.set_cons_succ]
      refine takeR (fuel := 11) (i := 2) (v := .pointer (some ⟨q, 0, none⟩)) rfl (by kernel_rfl) (by kernel_rfl) (by kernel_rfl) (fun _ _ _ h => h) (Or.inl ⟨rfl, fun W hW => by have cj := (hW.1.cell 0 : W.cell? ⟨w.heap.size, 0, none⟩ = some (.pointer (some ⟨q, 0, none⟩))); go_simp⟩) hS0 ?_
      simp only [Act.put, List.setIfInBounds_toArray, List.set_cons_zero, List.set_cons_succ]
      refine takeR (fuel := 10) (i := 4) (v := .pointer (some ⟨w.heap.size, 0, none⟩)) rfl (by kernel_rfl) (by kernel_rfl) (by kernel_rfl) (fun _ _ _ h => h) (Or.inl ⟨rfl, fun W hW => by go_simp⟩) hS0 ?_
      simp only [Act.put, List.setIfInBounds_toArray, List.set_cons_zero, List.set_cons_succ]
      refine takeR (fuel := 9) (i := 5) (v := .pointer (some ⟨q, 0, none⟩)) rfl (by kernel_rfl) (by kernel_rfl) (by kernel_rfl) (fun _ _ _ h => h) (Or.inl ⟨rfl, fun W hW => by have cj := (hW.1.cell 0 : W.cell? ⟨w.heap.size, 0, none⟩ = some (.pointer (some ⟨q, 0, none⟩))); go_simp⟩) hS0 ?_
      simp only [Act.put, List.setIfInBounds_toArray, List.set_cons_zero, List.set_cons_succ]
      refine takeR (fuel := 8) (i := 7) (v := .pointer (some ⟨w.heap.size, 0, none⟩)) rfl (by kernel_rfl) (by kernel_rfl) (by kernel_rfl) (fun _ _ _ h => h) (Or.inl ⟨rfl, fun W hW => by go_simp⟩) hS0 ?_
      simp only [Act.put, List.setIfInBounds_toArray, List.set_cons_zero, List.set_cons_succ]
      refine takeR (fuel := 7) (i := 8) (v := .pointer (some ⟨q, 0, none⟩)) rfl (by kernel_rfl) (by kernel_rfl) (by kernel_rfl) (fun _ _ _ h => h) (Or.inl ⟨rfl, fun W hW => by have cj := (hW.1.cell 0 : W.cell? ⟨w.heap.size, 0, none⟩ = some (.pointer (some ⟨q, 0, none⟩))); go_simp⟩) hS0 ?_
      simp only [Act.put, List.setIfInBounds_toArray, List.set_cons_zero, List.set_cons_succ]
      refine consR (fuel := 6) (i := 3) rfl (by kernel_rfl) (fun K hK => ?_)
      rw [if_pos (by rfl)]
      go_simp
      refine (HC1.out _ hR0).mono ?_
      rintro e x1 ⟨rfl, HRx1, hC1⟩
      refine hK.out _ _ ⟨hS0.1.bt hC1.out hdq, hS0.2.trans hC1.out⟩ (fun hS1 => ?_)
      clear hK
      try simp only [Act.put, List.setIfInBounds_toArray, List.set_cons_zero, List.set_cons_succ]
      have hR1 := HRx1.out
      have hD1 := hD0.trans hC1.out
      refine consR (fuel := 5) (i := 6) rfl (by kernel_rfl) (fun K hK => ?_)
      rw [if_pos (by rfl)]
      go_simp
      refine (HC2.out _ hR1).mono ?_
      rintro e x2 ⟨rfl, HRx2, hC2⟩
      refine hK.out _ _ ⟨hS1.1.bt hC2.out hdq, hS1.2.trans hC2.out⟩ (fun hS2 => ?_)
      clear hK
      try simp only [Act.put, List.setIfInBounds_toArray, List.set_cons_zero, List.set_cons_succ]
      have hR2 := HRx2.out
      have hD2 := hD1.trans hC2.out
      refine consR (fuel := 4) (i := 9) rfl (by kernel_rfl) (fun K hK => ?_)
      rw [if_pos (by rfl)]
      go_simp
      refine (HC3'.out _ hR2).mono ?_
      rintro e x3 ⟨rfl, HRx3, hC3⟩
      refine hK.out _ _ ⟨hS2.1.bt hC3.out hdq, hS2.2.trans hC3.out⟩ (fun hS3 => ?_)
      clear hK
      try simp only [Act.put, List.setIfInBounds_toArray, List.set_cons_zero, List.set_cons_succ]
      have hR3 := HRx3.out
      have hD3 := hD2.trans hC3.out
      refine takeR (fuel := 3) (i := 10) (v := .agg #[.int .i64 y.d, .int .i64 y.r, .int .i64 y.c]) rfl (by kernel_rfl) (by kernel_rfl) (by kernel_rfl) (fun _ _ _ h => h) (Or.inl ⟨rfl, fun W hW => by go_simp⟩) hS3 ?_
      simp only [Act.put, List.setIfInBounds_toArray, List.set_cons_zero, List.set_cons_succ]
      have HR3 : Hid (Rm x3 q r2) := hR3
      have HC3 : Hid (Bt q wr x3) := hD3
      have hS3 := hS3
      generalize x3 = w3 at *
      have HO3 : Hid (w3.ownsRow (w.heap.size + 1) 112 3 u3 ys.length (ccells ys)) := own_bt HOk.out (by omega) HC3.out
      have hs3 : w.heap.size + 1 ≤ w3.heap.size := Nat.le_trans hszk HC3.out.size
      have hly : ys.length ≤ 1000000 := by have := HLk.out; omega
      obtain ⟨v', w4, hr4, ho4, hg4⟩ := app_cut HO3.out hs3 y hly
      have HR4 : Hid _ := hr4
      have hbw : Below (w.heap.size + 1) w3 w4 := ((Below.refl (w.heap.size + 1) w3).alloc hs3 _).grown hg4 (by rw [size_a]; omega) (fun j hj => (HO3.out.lt j hj).1)
      have HO4 : Hid (w4.ownsRow (w.heap.size + 1) 112 3 v' Y1.length (ccells Y1)) := by unfold Hid; rw [HE2.out]; exact ho4
      have HRm4 : Hid (Rm w4 q R1) := by unfold Hid; rw [HE1.out]; exact HR3.out.same (hbw.block q (by omega))
      have HS4 : Hid (R1.s.length ≤ 281474976710656) := by unfold Hid; rw [HE1.out]; exact HS2.out
      have HB3 : Hid (Bt q w w3) := HBk.out.trans HC3.out
      have HB4 : Hid (Bt q w w4) := ⟨hbw.os.trans HB3.out.os, hbw.tape.trans HB3.out.tape, hbw.output.trans HB3.out.output, Nat.le_trans HB3.out.size hbw.size, fun i hi hn => (hbw.block i (by omega)).trans (HB3.out.block i hi hn)⟩
      have HX4 : Hid (Bx w4 w.heap.size #[.pointer (some ⟨q, 0, none⟩)] 133) := (hbw.block _ (by omega)).trans (HXk.out.bt HC3.out hdq)
      have hs4 : w.heap.size + 1 ≤ w4.heap.size := Nat.le_trans hs3 hbw.size
      clear ho4 hg4 hr4 HB3 HO3
      refine consR (fuel := 2) (i := 11) rfl (by kernel_rfl) (fun K hK => ?_)
      rw [if_pos (by rfl)]
      go_simp
      refine hK.out _ _ ⟨hS3.1.keep (below_a _ _), hS3.2.trans (Bt.of_below (below_a _ _))⟩ (fun hS4 => ?_)
      clear hK
      try simp only [Act.put, List.setIfInBounds_toArray, List.set_cons_zero, List.set_cons_succ]
      refine consR (fuel := 1) (i := 12) rfl (by kernel_rfl) (fun K hK => ?_)
      rw [if_pos (by rfl)]
      refine Lib.wp_append_run _ _ _ 24 24 rfl _ _ rfl rfl v' w4 HR4.out ?_
      refine hK.out _ _ ⟨HX4.out, HB4.out⟩ (fun hS5 => ?_)
      clear hK
      try simp only [Act.put, List.setIfInBounds_toArray, List.set_cons_zero, List.set_cons_succ]
      refine takeR (fuel := 0) (i := 13) (v := v') rfl (by kernel_rfl) (by kernel_rfl) (by kernel_rfl) (fun _ _ _ h => h) (Or.inl ⟨rfl, fun _ _ => rfl⟩) hS5 ?_
      simp only [Act.put, List.setIfInBounds_toArray, List.set_cons_zero, List.set_cons_succ]
      refine wpAnyH_done (by kernel_rfl) ?_ _
      go_wp2_with fail
      subst hP1
      subst hP2
      exact ⟨⟨k + 1, by go_num, by omega, HO4.out, HRm4.out, HS4.out, HB4.out, HX4.out, hs4⟩, by simp [Lib.intOf]; omega⟩
    · have hkz : ¬ (k : Int) < (N : Int) := by omega
      have hkN : k = N := by omega
      subst hkN
      have hLf := pre_len rCut k r1
      have hOf := HOk.out
      rw [hLf] at hOf
      obtain ⟨fa, fc, hv⟩ := own_sl hOf
      subst hv
      have HOf : Hid (wr.ownsRow w.heap.size 112 3 (.slice fa k fc) k (ccells (pre rCut k r1).2)) := own_mono hOf (by omega)
      clear hOf HOk hLf
      go_wp2_with fail
      go_ret
      exact ⟨fa, fc, rfl, HOf, HRk, HBk⟩
def BkP (a0 a1 a2 a3 a4 a5 a6 : Int) (a7 : List UInt8) (cs : List Ct) (a9 : List Int) (q : Nat) (r : Rd) (w : World) (E : Ending) (w' : World) : Prop := ∃ ca cc ba bc, E = .returned (.agg #[.int .i64 a0, .int .i64 a1, .string ⟨a7.toArray⟩, .int .i64 a2, .int .i64 a3, .int .i64 a4, .slice ca cs.length cc, .int .i64 a5, .int .i64 a6, .slice ba a9.length bc]) ∧ Hid (w'.ownsRow w.heap.size 112 3 (.slice ca cs.length cc) cs.length (ccells cs)) ∧ Hid (w'.ownsRow w.heap.size 3 1 (.slice ba a9.length bc) a9.length (icells a9)) ∧ Hid (Rm w' q r) ∧ Hid (Bt q w w')
set_option maxHeartbeats 8000000 in
theorem xbasketR {q : Nat} {r r1 r2 r3 r4 r5 r6 r7 r8 r9 r10 : Rd} {a0 a1 a2 a3 a4 a5 a6 : Int} {a7 : List UInt8} {N : Nat} {a9 : List Int} (h0 : rInt r = (r1, a0)) (h1 : rInt r1 = (r2, a1)) (h2 : rInt r2 = (r3, a2)) (h3 : rInt r3 = (r4, a3)) (h4 : rInt r4 = (r5, a4)) (h5 : rInt r5 = (r6, a5)) (h6 : rInt r6 = (r7, a6)) (h7 : rText r7 12 = (r8, a7)) (h8 : rCount r8 64 = (r9, N)) (h9 : rInts (pre rCut N r9).1 64 = (r10, a9)) (w : World) (hR : Rm w q r) (hs7 : r7.s.length ≤ 281474976710656) (hs8 : r8.s.length ≤ 281474976710656) (hs9 : (pre rCut N r9).1.s.length ≤ 1099511627776) : Calls Tryz.prog 81 #[.agg #[.pointer (some ⟨q, 0, none⟩)]] w (BkP a0 a1 a2 a3 a4 a5 a6 a7 (pre rCut N r9).2 a9 q r10 w) := by
  have hPL := pre_len rCut N r9
  unfold BkP
  rw [hPL]
  clear hPL
  have HX0 : Hid (Bx ((w.alloc (.cells #[.pointer (some ⟨q, 0, none⟩)] 133)).alloc (.cells #[.int .i64 0, .int .i64 0, .string ⟨#[]⟩, .int .i64 0, .int .i64 0, .int .i64 0, .slice none 0 0, .int .i64 0, .int .i64 0, .slice none 0 0] 27)) w.heap.size #[.pointer (some ⟨q, 0, none⟩)] 133) := (Bx.new w _ _).keep (below_a _ _)
  have HY0 : Hid (Bx ((w.alloc (.cells #[.pointer (some ⟨q, 0, none⟩)] 133)).alloc (.cells #[.int .i64 0, .int .i64 0, .string ⟨#[]⟩, .int .i64 0, .int .i64 0, .int .i64 0, .slice none 0 0, .int .i64 0, .int .i64 0, .slice none 0 0] 27)) (w.heap.size + 1) #[.int .i64 0, .int .i64 0, .string ⟨#[]⟩, .int .i64 0, .int .i64 0, .int .i64 0, .slice none 0 0, .int .i64 0, .int .i64 0, .slice none 0 0] 27) := by have := Bx.new (w.alloc (.cells #[.pointer (some ⟨q, 0, none⟩)] 133)) #[.int .i64 0, .int .i64 0, .string ⟨#[]⟩, .int .i64 0, .int .i64 0, .int .i64 0, .slice none 0 0, .int .i64 0, .int .i64 0, .slice none 0 0] 27; rwa [size_a] at this
  have HR0 : Hid (Rm ((w.alloc (.cells #[.pointer (some ⟨q, 0, none⟩)] 133)).alloc (.cells #[.int .i64 0, .int .i64 0, .string ⟨#[]⟩, .int .i64 0, .int .i64 0, .int .i64 0, .slice none 0 0, .int .i64 0, .int .i64 0, .slice none 0 0] 27)) q r) := (hR.keep (below_a _ _)).keep (below_a _ _)
  have HB0 : Hid (Bt q w ((w.alloc (.cells #[.pointer (some ⟨q, 0, none⟩)] 133)).alloc (.cells #[.int .i64 0, .int .i64 0, .string ⟨#[]⟩, .int .i64 0, .int .i64 0, .int .i64 0, .slice none 0 0, .int .i64 0, .int .i64 0, .slice none 0 0] 27))) := Bt.of_below (bt (below_a w _) (below_a _ _))
  have hdq : w.heap.size ≠ q := Nat.ne_of_gt hR.lt
  have hqs : q < w.heap.size := hR.lt
  clear hR
  go_enter Tryz.func81, Tryz.ntmps81
  go_upto_region 1 with fail
  generalize ((w.alloc (.cells #[.pointer (some ⟨q, 0, none⟩)] 133)).alloc (.cells #[.int .i64 0, .int .i64 0, .string ⟨#[]⟩, .int .i64 0, .int .i64 0, .int .i64 0, .slice none 0 0, .int .i64 0, .int .i64 0, .slice none 0 0] 27)) = w1 at *
  go_wp2_with fail
  refine wp_region_held (S := fun W => Bx W w.heap.size #[.pointer (some ⟨q, 0, none⟩)] 133 ∧ Bt q w W) (by kernel_rfl) ?_
  change wpAnyH _ _ _ _ _ 30 #[false, false, false, false, false, false, false, false, false, false, false, false, false, false, false, false, false, false, false, false, false, false, false, false, false, false, false, false, false, false] _ w1.drew
  have hS0 : Bx w1.drew w.heap.size #[.pointer (some ⟨q, 0, none⟩)] 133 ∧ Bt q w w1.drew := ⟨HX0.out, HB0.out.drewN 1⟩
  have hR0 : Rm w1.drew q r := HR0.out.drewN 1
  have hY0 : Bx w1.drew (w.heap.size + 1) #[.int .i64 0, .int .i64 0, .string ⟨#[]⟩, .int .i64 0, .int .i64 0, .int .i64 0, .slice none 0 0, .int .i64 0, .int .i64 0, .slice none 0 0] 27 := HY0.out
  clear HY0
  clear HX0 HB0 HR0
  obtain ⟨v0, hv0⟩ : ∃ v, v = w1.drew := ⟨_, rfl⟩
  rw [← hv0] at hS0 hR0 hY0 ⊢
  clear hv0
  refine takeR (fuel := 29) (i := 0) (v := .pointer (some ⟨w.heap.size, 0, none⟩)) rfl (by kernel_rfl) (by kernel_rfl) (by kernel_rfl) (fun _ _ _ h => h) (Or.inl ⟨rfl, fun W hW => by go_simp⟩) hS0 ?_
  simp only [Act.put, List.setIfInBounds_toArray, List.set_cons_zero, List.set_cons_succ]
  refine takeR (fuel := 28) (i := 1) (v := .pointer (some ⟨q, 0, none⟩)) rfl (by kernel_rfl) (by kernel_rfl) (by kernel_rfl) (fun _ _ _ h => h) (Or.inl ⟨rfl, fun W hW => by have cj := (hW.1.cell 0 : W.cell? ⟨w.heap.size, 0, none⟩ = some (.pointer (some ⟨q, 0, none⟩))); go_simp⟩) hS0 ?_
  simp only [Act.put, List.setIfInBounds_toArray, List.set_cons_zero, List.set_cons_succ]
  refine takeR (fuel := 27) (i := 3) (v := .pointer (some ⟨w.heap.size, 0, none⟩)) rfl (by kernel_rfl) (by kernel_rfl) (by kernel_rfl) (fun _ _ _ h => h) (Or.inl ⟨rfl, fun W hW => by go_simp⟩) hS0 ?_
  simp only [Act.put, List.setIfInBounds_toArray, List.set_cons_zero, List.set_cons_succ]
  refine takeR (fuel := 26) (i := 4) (v := .pointer (some ⟨q, 0, none⟩)) rfl (by kernel_rfl) (by kernel_rfl) (by kernel_rfl) (fun _ _ _ h => h) (Or.inl ⟨rfl, fun W hW => by have cj := (hW.1.cell 0 : W.cell? ⟨w.heap.size, 0, none⟩ = some (.pointer (some ⟨q, 0, none⟩))); go_simp⟩) hS0 ?_
  simp only [Act.put, List.setIfInBounds_toArray, List.set_cons_zero, List.set_cons_succ]
  refine takeR (fuel := 25) (i := 6) (v := .pointer (some ⟨w.heap.size, 0, none⟩)) rfl (by kernel_rfl) (by kernel_rfl) (by kernel_rfl) (fun _ _ _ h => h) (Or.inl ⟨rfl, fun W hW => by go_simp⟩) hS0 ?_
  simp only [Act.put, List.setIfInBounds_toArray, List.set_cons_zero, List.set_cons_succ]
  refine takeR (fuel := 24) (i := 7) (v := .pointer (some ⟨q, 0, none⟩)) rfl (by kernel_rfl) (by kernel_rfl) (by kernel_rfl) (fun _ _ _ h => h) (Or.inl ⟨rfl, fun W hW => by have cj := (hW.1.cell 0 : W.cell? ⟨w.heap.size, 0, none⟩ = some (.pointer (some ⟨q, 0, none⟩))); go_simp⟩) hS0 ?_
  simp only [Act.put, List.setIfInBounds_toArray, List.set_cons_zero, List.set_cons_succ]
  refine takeR (fuel := 23) (i := 9) (v := .pointer (some ⟨w.heap.size, 0, none⟩)) rfl (by kernel_rfl) (by kernel_rfl) (by kernel_rfl) (fun _ _ _ h => h) (Or.inl ⟨rfl, fun W hW => by go_simp⟩) hS0 ?_
  simp only [Act.put, List.setIfInBounds_toArray, List.set_cons_zero, List.set_cons_succ]
  refine takeR (fuel := 22) (i := 10) (v := .pointer (some ⟨q, 0, none⟩)) rfl (by kernel_rfl) (by kernel_rfl) (by kernel_rfl) (fun _ _ _ h => h) (Or.inl ⟨rfl, fun W hW => by have cj := (hW.1.cell 0 : W.cell? ⟨w.heap.size, 0, none⟩ = some (.pointer (some ⟨q, 0, none⟩))); go_simp⟩) hS0 ?_
  simp only [Act.put, List.setIfInBounds_toArray, List.set_cons_zero, List.set_cons_succ]
  refine takeR (fuel := 21) (i := 12) (v := .pointer (some ⟨w.heap.size, 0, none⟩)) rfl (by kernel_rfl) (by kernel_rfl) (by kernel_rfl) (fun _ _ _ h => h) (Or.inl ⟨rfl, fun W hW => by go_simp⟩) hS0 ?_
  simp only [Act.put, List.setIfInBounds_toArray, List.set_cons_zero, List.set_cons_succ]
  refine takeR (fuel := 20) (i := 13) (v := .pointer (some ⟨q, 0, none⟩)) rfl (by kernel_rfl) (by kernel_rfl) (by kernel_rfl) (fun _ _ _ h => h) (Or.inl ⟨rfl, fun W hW => by have cj := (hW.1.cell 0 : W.cell? ⟨w.heap.size, 0, none⟩ = some (.pointer (some ⟨q, 0, none⟩))); go_simp⟩) hS0 ?_
  simp only [Act.put, List.setIfInBounds_toArray, List.set_cons_zero, List.set_cons_succ]
  refine takeR (fuel := 19) (i := 15) (v := .pointer (some ⟨w.heap.size, 0, none⟩)) rfl (by kernel_rfl) (by kernel_rfl) (by kernel_rfl) (fun _ _ _ h => h) (Or.inl ⟨rfl, fun W hW => by go_simp⟩) hS0 ?_
  simp only [Act.put, List.setIfInBounds_toArray, List.set_cons_zero, List.set_cons_succ]
  refine takeR (fuel := 18) (i := 16) (v := .pointer (some ⟨q, 0, none⟩)) rfl (by kernel_rfl) (by kernel_rfl) (by kernel_rfl) (fun _ _ _ h => h) (Or.inl ⟨rfl, fun W hW => by have cj := (hW.1.cell 0 : W.cell? ⟨w.heap.size, 0, none⟩ = some (.pointer (some ⟨q, 0, none⟩))); go_simp⟩) hS0 ?_
  simp only [Act.put, List.setIfInBounds_toArray, List.set_cons_zero, List.set_cons_succ]
  refine takeR (fuel := 17) (i := 18) (v := .pointer (some ⟨w.heap.size, 0, none⟩)) rfl (by kernel_rfl) (by kernel_rfl) (by kernel_rfl) (fun _ _ _ h => h) (Or.inl ⟨rfl, fun W hW => by go_simp⟩) hS0 ?_
  simp only [Act.put, List.setIfInBounds_toArray, List.set_cons_zero, List.set_cons_succ]
  refine takeR (fuel := 16) (i := 19) (v := .pointer (some ⟨q, 0, none⟩)) rfl (by kernel_rfl) (by kernel_rfl) (by kernel_rfl) (fun _ _ _ h => h) (Or.inl ⟨rfl, fun W hW => by have cj := (hW.1.cell 0 : W.cell? ⟨w.heap.size, 0, none⟩ = some (.pointer (some ⟨q, 0, none⟩))); go_simp⟩) hS0 ?_
  simp only [Act.put, List.setIfInBounds_toArray, List.set_cons_zero, List.set_cons_succ]
  refine takeR (fuel := 15) (i := 21) (v := .agg #[.pointer (some ⟨q, 0, none⟩)]) rfl (by kernel_rfl) (by kernel_rfl) (by kernel_rfl) (fun _ _ _ h => h) (Or.inl ⟨rfl, fun W hW => by have cj := (hW.1.cell 0 : W.cell? ⟨w.heap.size, 0, none⟩ = some (.pointer (some ⟨q, 0, none⟩))); go_simp⟩) hS0 ?_
  simp only [Act.put, List.setIfInBounds_toArray, List.set_cons_zero, List.set_cons_succ]
  refine takeR (fuel := 14) (i := 23) (v := .agg #[.pointer (some ⟨q, 0, none⟩)]) rfl (by kernel_rfl) (by kernel_rfl) (by kernel_rfl) (fun _ _ _ h => h) (Or.inl ⟨rfl, fun W hW => by have cj := (hW.1.cell 0 : W.cell? ⟨w.heap.size, 0, none⟩ = some (.pointer (some ⟨q, 0, none⟩))); go_simp⟩) hS0 ?_
  simp only [Act.put, List.setIfInBounds_toArray, List.set_cons_zero, List.set_cons_succ]
  refine takeR (fuel := 13) (i := 25) (v := .pointer (some ⟨w.heap.size, 0, none⟩)) rfl (by kernel_rfl) (by kernel_rfl) (by kernel_rfl) (fun _ _ _ h => h) (Or.inl ⟨rfl, fun W hW => by go_simp⟩) hS0 ?_
  simp only [Act.put, List.setIfInBounds_toArray, List.set_cons_zero, List.set_cons_succ]
  refine takeR (fuel := 12) (i := 26) (v := .pointer (some ⟨q, 0, none⟩)) rfl (by kernel_rfl) (by kernel_rfl) (by kernel_rfl) (fun _ _ _ h => h) (Or.inl ⟨rfl, fun W hW => by have cj := (hW.1.cell 0 : W.cell? ⟨w.heap.size, 0, none⟩ = some (.pointer (some ⟨q, 0, none⟩))); go_simp⟩) hS0 ?_
  simp only [Act.put, List.setIfInBounds_toArray, List.set_cons_zero, List.set_cons_succ]
  refine consR (fuel := 11) (i := 2) rfl (by kernel_rfl) (fun K hK => ?_)
  rw [if_pos (by rfl)]
  go_simp
  refine (cInt h0 _ hR0).mono ?_
  rintro e u1 ⟨rfl, HR1, hC1⟩
  refine hK.out _ _ ⟨hS0.1.bt hC1.out hdq, hS0.2.trans hC1.out⟩ (fun hS1 => ?_)
  clear hK
  try simp only [Act.put, List.setIfInBounds_toArray, List.set_cons_zero, List.set_cons_succ]
  have hR1 := HR1.out
  have hY1 := hY0.bt hC1.out (by omega)
  clear hS0 hR0 HR1 hY0
  refine consR (fuel := 10) (i := 5) rfl (by kernel_rfl) (fun K hK => ?_)
  rw [if_pos (by rfl)]
  go_simp
  refine (cInt h1 _ hR1).mono ?_
  rintro e u2 ⟨rfl, HR2, hC2⟩
  refine hK.out _ _ ⟨hS1.1.bt hC2.out hdq, hS1.2.trans hC2.out⟩ (fun hS2 => ?_)
  clear hK
  try simp only [Act.put, List.setIfInBounds_toArray, List.set_cons_zero, List.set_cons_succ]
  have hR2 := HR2.out
  have hY2 := hY1.bt hC2.out (by omega)
  clear hS1 hR1 HR2 hY1
  refine consR (fuel := 9) (i := 8) rfl (by kernel_rfl) (fun K hK => ?_)
  rw [if_pos (by rfl)]
  go_simp
  refine (cInt h2 _ hR2).mono ?_
  rintro e u3 ⟨rfl, HR3, hC3⟩
  refine hK.out _ _ ⟨hS2.1.bt hC3.out hdq, hS2.2.trans hC3.out⟩ (fun hS3 => ?_)
  clear hK
  try simp only [Act.put, List.setIfInBounds_toArray, List.set_cons_zero, List.set_cons_succ]
  have hR3 := HR3.out
  have hY3 := hY2.bt hC3.out (by omega)
  clear hS2 hR2 HR3 hY2
  refine consR (fuel := 8) (i := 11) rfl (by kernel_rfl) (fun K hK => ?_)
  rw [if_pos (by rfl)]
  go_simp
  refine (cInt h3 _ hR3).mono ?_
  rintro e u4 ⟨rfl, HR4, hC4⟩
  refine hK.out _ _ ⟨hS3.1.bt hC4.out hdq, hS3.2.trans hC4.out⟩ (fun hS4 => ?_)
  clear hK
  try simp only [Act.put, List.setIfInBounds_toArray, List.set_cons_zero, List.set_cons_succ]
  have hR4 := HR4.out
  have hY4 := hY3.bt hC4.out (by omega)
  clear hS3 hR3 HR4 hY3
  refine consR (fuel := 7) (i := 14) rfl (by kernel_rfl) (fun K hK => ?_)
  rw [if_pos (by rfl)]
  go_simp
  refine (cInt h4 _ hR4).mono ?_
  rintro e u5 ⟨rfl, HR5, hC5⟩
  refine hK.out _ _ ⟨hS4.1.bt hC5.out hdq, hS4.2.trans hC5.out⟩ (fun hS5 => ?_)
  clear hK
  try simp only [Act.put, List.setIfInBounds_toArray, List.set_cons_zero, List.set_cons_succ]
  have hR5 := HR5.out
  have hY5 := hY4.bt hC5.out (by omega)
  clear hS4 hR4 HR5 hY4
  refine consR (fuel := 6) (i := 17) rfl (by kernel_rfl) (fun K hK => ?_)
  rw [if_pos (by rfl)]
  go_simp
  refine (cInt h5 _ hR5).mono ?_
  rintro e u6 ⟨rfl, HR6, hC6⟩
  refine hK.out _ _ ⟨hS5.1.bt hC6.out hdq, hS5.2.trans hC6.out⟩ (fun hS6 => ?_)
  clear hK
  try simp only [Act.put, List.setIfInBounds_toArray, List.set_cons_zero, List.set_cons_succ]
  have hR6 := HR6.out
  have hY6 := hY5.bt hC6.out (by omega)
  clear hS5 hR5 HR6 hY5
  refine consR (fuel := 5) (i := 20) rfl (by kernel_rfl) (fun K hK => ?_)
  rw [if_pos (by rfl)]
  go_simp
  refine (cInt h6 _ hR6).mono ?_
  rintro e u7 ⟨rfl, HR7, hC7⟩
  refine hK.out _ _ ⟨hS6.1.bt hC7.out hdq, hS6.2.trans hC7.out⟩ (fun hS7 => ?_)
  clear hK
  try simp only [Act.put, List.setIfInBounds_toArray, List.set_cons_zero, List.set_cons_succ]
  have hR7 := HR7.out
  have hY7 := hY6.bt hC7.out (by omega)
  clear hS6 hR6 HR7 hY6
  refine consR (fuel := 4) (i := 22) rfl (by kernel_rfl) (fun K hK => ?_)
  rw [if_pos (by rfl)]
  go_simp
  refine (xcode h7 _ hR7 hs7).mono ?_
  rintro e u8 ⟨rfl, HR8, hC8⟩
  refine hK.out _ _ ⟨hS7.1.bt hC8.out hdq, hS7.2.trans hC8.out⟩ (fun hS8 => ?_)
  clear hK
  try simp only [Act.put, List.setIfInBounds_toArray, List.set_cons_zero, List.set_cons_succ]
  have hR8 := HR8.out
  have hY8 := hY7.bt hC8.out (by omega)
  have hlY8 := hY8.lt
  clear hS7 hR7 HR8 hY7
  refine consR (fuel := 3) (i := 24) rfl (by kernel_rfl) (fun K hK => ?_)
  rw [if_pos (by rfl)]
  go_simp
  refine (xcutsR h8 _ hR8 hs8).mono ?_
  rintro e u9 ⟨ca, cc, rfl, HO9, HR9, hC9⟩
  refine hK.out _ _ ⟨hS8.1.bt hC9.out hdq, hS8.2.trans hC9.out⟩ (fun hS9 => ?_)
  clear hK
  try simp only [Act.put, List.setIfInBounds_toArray, List.set_cons_zero, List.set_cons_succ]
  have hR9 := HR9.out
  have hY9 := hY8.bt hC9.out (by omega)
  have hlY9 := hY9.lt
  have HO9 := HO9.out
  have hq9 : q < u8.heap.size := hR8.lt
  clear hS8 hR8 HR9 hY8
  refine consR (fuel := 2) (i := 27) rfl (by kernel_rfl) (fun K hK => ?_)
  rw [if_pos (by rfl)]
  go_simp
  refine (cIntsL ⟨by decide, by decide⟩ h9 _ hR9 hs9).mono ?_
  rintro e u10 ⟨ba, bc, rfl, HO10, HR10, hC10⟩
  refine hK.out _ _ ⟨hS9.1.bt hC10.out hdq, hS9.2.trans hC10.out⟩ (fun hS10 => ?_)
  clear hK
  try simp only [Act.put, List.setIfInBounds_toArray, List.set_cons_zero, List.set_cons_succ]
  have hR10 := HR10.out
  have hY10 := hY9.bt hC10.out (by omega)
  have HO9 := own_bt HO9 (hq9) hC10.out
  have HO10 := HO10.out
  have hq10 : q < u9.heap.size := hR9.lt
  clear hS9 hR9 HR10 hY9
  refine takeR (fuel := 1) (i := 28) (v := .agg #[.int .i64 a0, .int .i64 a1, .string ⟨a7.toArray⟩, .int .i64 a2, .int .i64 a3, .int .i64 a4, .slice ca N cc, .int .i64 a5, .int .i64 a6, .slice ba a9.length bc]) rfl (by kernel_rfl) (by kernel_rfl) (by kernel_rfl) (fun _ _ _ h => h) (Or.inl ⟨rfl, fun W hW => by go_simp⟩) hS10 ?_
  simp only [Act.put, List.setIfInBounds_toArray, List.set_cons_zero, List.set_cons_succ]
  refine consR (fuel := 0) (i := 29) rfl (by kernel_rfl) (fun K hK => ?_)
  rw [if_pos (by rfl)]
  refine ow_store _ _ 27 _ _ rfl _ _ rfl rfl (storeT _ (w.heap.size + 1) _ #[.int .i64 a0, .int .i64 a1, .string ⟨a7.toArray⟩, .int .i64 a2, .int .i64 a3, .int .i64 a4, .slice ca N cc, .int .i64 a5, .int .i64 a6, .slice ba a9.length bc] info27 hY10 rfl rfl (by simp [Value.oneCell'])) ?_
  refine hK.out _ _ ⟨hS10.1.other (by omega), hS10.2.setRow (by omega)⟩ (fun hSz => ?_)
  clear hK
  try simp only [Act.put, List.setIfInBounds_toArray, List.set_cons_zero, List.set_cons_succ]
  have hld := loadR27 (u10.setRow (w.heap.size + 1) #[.int .i64 a0, .int .i64 a1, .string ⟨a7.toArray⟩, .int .i64 a2, .int .i64 a3, .int .i64 a4, .slice ca N cc, .int .i64 a5, .int .i64 a6, .slice ba a9.length bc]) (w.heap.size + 1) #[.int .i64 a0, .int .i64 a1, .string ⟨a7.toArray⟩, .int .i64 a2, .int .i64 a3, .int .i64 a4, .slice ca N cc, .int .i64 a5, .int .i64 a6, .slice ba a9.length bc] hY10.set rfl
  have HRz : Hid (Rm (u10.setRow (w.heap.size + 1) #[.int .i64 a0, .int .i64 a1, .string ⟨a7.toArray⟩, .int .i64 a2, .int .i64 a3, .int .i64 a4, .slice ca N cc, .int .i64 a5, .int .i64 a6, .slice ba a9.length bc]) q r10) := hR10.setRow (by omega)
  have HBz : Hid (Bt q w (u10.setRow (w.heap.size + 1) #[.int .i64 a0, .int .i64 a1, .string ⟨a7.toArray⟩, .int .i64 a2, .int .i64 a3, .int .i64 a4, .slice ca N cc, .int .i64 a5, .int .i64 a6, .slice ba a9.length bc])) := hSz.2
  have hlt9 : w.heap.size + 1 < u8.heap.size := hlY8
  have HOa : Hid ((u10.setRow (w.heap.size + 1) #[.int .i64 a0, .int .i64 a1, .string ⟨a7.toArray⟩, .int .i64 a2, .int .i64 a3, .int .i64 a4, .slice ca N cc, .int .i64 a5, .int .i64 a6, .slice ba a9.length bc]).ownsRow w.heap.size 112 3 (.slice ca N cc) N (ccells (pre rCut N r9).2)) := own_mono (own_setRow HO9 hlt9) (by omega)
  have HOb : Hid ((u10.setRow (w.heap.size + 1) #[.int .i64 a0, .int .i64 a1, .string ⟨a7.toArray⟩, .int .i64 a2, .int .i64 a3, .int .i64 a4, .slice ca N cc, .int .i64 a5, .int .i64 a6, .slice ba a9.length bc]).ownsRow w.heap.size 3 1 (.slice ba a9.length bc) a9.length (icells a9)) := own_mono (own_setRow HO10 (by omega)) (by omega)
  refine wpAnyH_done (by kernel_rfl) ?_ _
  go_wp2_with fail
  refine bodyPost_ret (res_cell _ _ 2 27 _ _ _ rfl rfl hld) rfl ?_
  exact ⟨ca, cc, ba, bc, rfl, HOa, HOb, HRz, HBz⟩
end Go.Proofs.YtdmlgheajblcdaaGreat
