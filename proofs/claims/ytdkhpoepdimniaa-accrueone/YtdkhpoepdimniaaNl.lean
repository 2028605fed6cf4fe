/- Walks of checkRun and of Run, of the program. Conditions: the arguments are ints. -/
import Derived.Test.YtdkhpoepdimniaaNk
import Derived.WalkKit
import Derived.ProofKit
import Derived.Handy
import Derived.WalkLawsBesides
import Derived.WalkSpells
import Derived.BigQuiet
import Derived.Deep.QuietTactic
import Derived.Deep.Light
import Derived.Deep.OwnRows
import Derived.Laws.AppendOwnNone
import Derived.Deep.RegionWith
import Derived.Lib.BitFns
import Derived.Lib.Walk
import Derived.Deep.CutBlock
import Derived.Deep.DeepCutAuto
import Derived.Deep.LoopGhost
import Derived.Deep.RegionHeld3
import Derived.Lib.SmallJoins
namespace Go.Proofs.Ytdkhpoepdimniaa
open Go.RowKit
set_option linter.unusedVariables false
set_option linter.unusedSimpArgs false
def RunEPost (l : Pairs) (a f t : Int) (w : World) (e : Ending) (w' : World) : Prop := e = .returned (.int .i64 (runE l a f t)) ∧ Below w.heap.size w w'
theorem runE_chk {l : Pairs} {a f t : Int} (h : chk l ≠ 0) : runE l a f t = chk l := if_pos h
theorem runE_day {l : Pairs} {a f t : Int} (h : chk l = 0) (h2 : ¬ (0 ≤ f ∧ f ≤ 200000) ∨ ¬ (0 ≤ t ∧ t ≤ 200000) ∨ ¬ Spn (t - f) ∨ f < (l.at 0).1) : runE l a f t = 10 := by
  rw [runE, if_neg (by omega), if_pos h2]
theorem runE_amt {l : Pairs} {a f t : Int} (h : chk l = 0) (h2 : ¬ (¬ (0 ≤ f ∧ f ≤ 200000) ∨ ¬ (0 ≤ t ∧ t ≤ 200000) ∨ ¬ Spn (t - f) ∨ f < (l.at 0).1)) (h3 : ¬ Amt a) : runE l a f t = 1 := by
  rw [runE, if_neg (by omega), if_neg h2, if_pos h3]
theorem runE_ok {l : Pairs} {a f t : Int} (h : chk l = 0) (h2 : ¬ (¬ (0 ≤ f ∧ f ≤ 200000) ∨ ¬ (0 ≤ t ∧ t ≤ 200000) ∨ ¬ Spn (t - f) ∨ f < (l.at 0).1)) (h3 : Amt a) : runE l a f t = 0 := by
  rw [runE, if_neg (by omega), if_neg h2, if_neg (fun h => h h3)]
/-- the first one's day, where there is one -/
theorem PSeg.first {w : World} {v : Value} {l : Pairs} (h : PSeg w v l) (h0 : 0 < l.length) : ∃ b off cap, v = .slice (some ⟨b, off, none⟩) l.length cap ∧ w.cell? ⟨b, off, none⟩ = some (.int .i64 (l.at 0).1) := by
  obtain ⟨a, cap, rfl, h1⟩ := h
  obtain ⟨b, off, rfl, -, hc⟩ := h1 (fun e => by rw [e] at h0; exact absurd h0 (by decide))
  exact ⟨b, off, cap, rfl, by simpa using (hc 0 h0).1⟩

set_option maxHeartbeats 4000000 in
set_option maxRecDepth 100000 in
theorem xcheckrun (l : Pairs) (v : Value) (a f t : Int) (w : World) (hl : PInts l) (hv : PSeg w v l) (ha : I64 a) (hf : I64 f) (ht : I64 t) :
    Calls Try.prog 36 #[.int .i64 a, v, .int .i64 f, .int .i64 t] w (RunEPost l a f t w) := by
  have HL : Hid (PInts l) := hl
  have HV : Hid (PSeg w v l) := hv
  have hv0 := hv
  obtain ⟨ad, cap, rfl, -⟩ := hv
  have hlen := hl.2
  clear hl
  by_cases hc : chk l = 0
  case neg =>
    have HE : Hid _ := runE_chk (a := a) (f := f) (t := t) hc
    have HC : Hid _ := hc
    clear hc hv0
    go_enter Try.func36, Try.ntmps36
    go_wp2_with fail
    refine (xcheck l _ _ HL.out HV.out).mono ?_
    rintro e w1 ⟨rfl, hb1⟩
    have hcb : (chk l != 0) = true := bne_iff_ne.2 HC.out
    generalize chk l = c at *
    go_wp2
    go_ret
    exact ⟨ret_int HE.out.symm, hb1⟩
  have HG : Hid _ := chk_good l hc
  have HCk : Hid _ := hc
  have hD : Hid _ := runE_day (a := a) (f := f) (t := t) hc
  have hA : Hid _ := runE_amt (a := a) (f := f) (t := t) hc
  have hO : Hid _ := runE_ok (a := a) (f := f) (t := t) hc
  clear hc
  obtain ⟨b, off, cap', he, hfst⟩ := hv0.first HG.out.pos
  have hbw := World.block_lt_of_cell? w _ hfst
  simp only [Value.slice.injEq, true_and] at he
  obtain ⟨rfl, rfl⟩ := he
  have bx := HG.out.day 0 HG.out.pos
  have hpos := HG.out.pos
  clear hv0
  generalize (l.at 0).1 = x at *
  go_enter Try.func36, Try.ntmps36
  go_wp2_with fail
  refine (xcheck l _ _ HL.out HV.out).mono ?_
  rintro e w1 ⟨rfl, hb1⟩
  rw [HCk.out]
  have W1 : Hid (Below w.heap.size w w1) := hb1
  have g0 := (hb1.cell (p := ⟨b, off, none⟩) hbw).trans hfst
  clear hb1 hfst HV
  go_wp2_with fail
  refine (xgd f _).mono ?_
  rintro e w2 ⟨rfl, rfl⟩
  cases h1 : dyB f
  · have H : Hid _ := hD.out (Or.inl (dyB_f h1))
    clear h1
    go_wp2
    go_ret
    exact ⟨ret_int H.out.symm, W1.out⟩
  have A1 := dyB_t h1
  clear h1
  go_wp2_with fail
  refine (xgd t _).mono ?_
  rintro e w2 ⟨rfl, rfl⟩
  cases h1 : dyB t
  · have H : Hid _ := hD.out (Or.inr (Or.inl (dyB_f h1)))
    clear h1
    go_wp2
    go_ret
    exact ⟨ret_int H.out.symm, W1.out⟩
  have A2 := dyB_t h1
  clear h1
  go_wp2_with fail
  refine (xgs (t - f) _).mono ?_
  rintro e w2 ⟨rfl, rfl⟩
  cases h1 : spnB (t - f)
  · have H : Hid _ := hD.out (Or.inr (Or.inr (Or.inl (spnB_f h1))))
    clear h1
    go_wp2
    go_ret
    exact ⟨ret_int H.out.symm, W1.out⟩
  have A3 : Hid _ := spnB_t h1
  clear h1
  by_cases h4 : f < x
  · have H : Hid _ := hD.out (Or.inr (Or.inr (Or.inr h4)))
    go_wp2
    go_ret
    exact ⟨ret_int H.out.symm, W1.out⟩
  have HN : Hid (¬ (¬ (0 ≤ f ∧ f ≤ 200000) ∨ ¬ (0 ≤ t ∧ t ≤ 200000) ∨ ¬ Spn (t - f) ∨ f < x)) := fun h => by
    rcases h with h | h | h | h
    · exact h A1
    · exact h A2
    · exact h A3.out
    · exact h4 h
  go_wp2_with fail
  refine (xga a _).mono ?_
  rintro e w2 ⟨rfl, rfl⟩
  cases h1 : amtB a
  · have H : Hid _ := hA.out HN.out (amtB_f h1)
    clear h1
    go_wp2
    go_ret
    exact ⟨ret_int H.out.symm, W1.out⟩
  · have H : Hid _ := hO.out HN.out (amtB_t h1)
    clear h1
    go_wp2
    go_ret
    exact ⟨ret_int H.out.symm, W1.out⟩

/-- what Run answers -/
def RunPost (l : Pairs) (a f t : Int) (w : World) (e : Ending) (w' : World) : Prop :=
  e = .returned (.tuple #[.agg #[.int .i64 (runT l a f t / 360000000), .int .i64 (runT l a f t % 360000000)], .int .i64 (runE l a f t)]) ∧ Below w.heap.size w w'
theorem runT_err {l : Pairs} {a f t : Int} (h : runE l a f t ≠ 0) : runT l a f t = 0 := if_neg h
theorem runT_ok {l : Pairs} {a f t : Int} (h : runE l a f t = 0) : runT l a f t = a * sumR l f (t - f).toNat := if_pos h
/-- a day more -/
theorem run_step (l : Pairs) (a f : Int) (k : Nat) (hr : ∀ j, j < l.length → Rtd (l.at j).2) (ha : Amt a) (hk : k < 3660) :
    dayE (a * sumR l f k / 360000000) (a * sumR l f k % 360000000) a (rateV l (f + k)) = 0 ∧
    dayU (a * sumR l f k / 360000000) (a * sumR l f k % 360000000) a (rateV l (f + k)) = a * sumR l f (k + 1) / 360000000 ∧
    dayR (a * sumR l f k / 360000000) (a * sumR l f k % 360000000) a (rateV l (f + k)) = a * sumR l f (k + 1) % 360000000 := by
  have h1 := sumR_bound l hr f k
  have h2 := prod_le a (sumR l f k) 1125899906842624 3660000000 ha (by omega) (by omega)
  have h3 := rateO_rtd l hr (f + k)
  have h4 := at_bound ha h3
  have e : a * sumR l f (k + 1) = a * sumR l f k + a * rateV l (f + k) := by rw [sumR, Int.mul_add]
  rw [e]
  generalize hT : a * sumR l f k = T at *
  have hok : dayOk (T % 360000000) a (rateV l (f + k)) := ⟨ha, h3, by omega, by omega⟩
  have hw : dayW (T / 360000000) (T % 360000000) a (rateV l (f + k)) = (T + a * rateV l (f + k)) / 360000000 := by
    unfold dayW
    generalize a * rateV l (f + k) = y at *
    omega
  have hz : dayE (T / 360000000) (T % 360000000) a (rateV l (f + k)) = 0 := by
    refine dayE_ok hok ?_
    rw [hw]
    generalize a * rateV l (f + k) = y at *
    exact ⟨by omega, by omega⟩
  refine ⟨hz, (dayU_ok hz).trans hw, ?_⟩
  rw [dayR_ok hz]
  generalize a * rateV l (f + k) = y at *
  omega
/-- a block beneath the call's own, and one of its own -/
structure Duo (w : World) (g : Nat) (x y : Int) (wr : World) : Prop where
  a : Blk wr w.heap.size 31 0 0
  b : Blk wr g 31 x y
  ne : w.heap.size < g
  bel : Below w.heap.size w wr
theorem Duo.kept {w wr w' : World} {g : Nat} {x y : Int} (h : Duo w g x y wr) (hb : Below wr.heap.size wr w') : Duo w g x y w' :=
  ⟨h.a.kept hb, h.b.kept hb, h.ne, h.bel.trans (hb.mono h.bel.size)⟩
theorem Duo.put {w wr : World} {g : Nat} {x y : Int} (h : Duo w g x y wr) (x' y' : Int) :
    Duo w g x' y' ((wr.setCell ⟨g, 0, none⟩ (.int .i64 x')).setCell ⟨g, 1, none⟩ (.int .i64 y')) :=
  ⟨(h.a.other _ _ _ (by have := h.ne; omega)).other _ _ _ (by have := h.ne; omega), h.b.put x' y', h.ne, (h.bel.setCell (by show w.heap.size ≤ g; have := h.ne; omega) _).setCell (by show w.heap.size ≤ g; have := h.ne; omega) _⟩

set_option maxHeartbeats 4000000 in
set_option maxRecDepth 100000 in
theorem xrun (l : Pairs) (v : Value) (a f t : Int) (w : World) (hl : PInts l) (hv : PSeg w v l) (ha : I64 a) (hf : I64 f) (ht : I64 t) :
    Calls Try.prog 23 #[.int .i64 a, v, .int .i64 f, .int .i64 t] w (RunPost l a f t w) := by
  have HL : Hid (PInts l) := hl
  have HV : Hid (PSeg w v l) := hv
  have HA : Hid (I64 a ∧ I64 f ∧ I64 t) := ⟨ha, hf, ht⟩
  have A0 : Hid (Blk (w.alloc (.cells #[.int .i64 0, .int .i64 0] 31)) w.heap.size 31 0 0) := Blk.new _ _ _ _
  have W0 : Hid (Below w.heap.size w (w.alloc (.cells #[.int .i64 0, .int .i64 0] 31))) := (Below.refl _ _).alloc (Nat.le_refl _) _
  obtain ⟨ad, cap, rfl, -⟩ := hv
  clear hl ha hf ht
  go_enter Try.func23, Try.ntmps23
  go_upto_region 1 with fail
  generalize w.alloc (.cells #[.int .i64 0, .int .i64 0] 31) = w0 at *
  go_wp2_with fail
  refine (xcheckrun l _ a f t _ HL.out (HV.out.below W0.out) HA.out.1 HA.out.2.1 HA.out.2.2).mono ?_
  rintro e w1 ⟨rfl, hb1⟩
  have A1 : Hid (Blk w1 w.heap.size 31 0 0) := A0.out.kept hb1
  have W1 : Hid (Below w.heap.size w w1) := W0.out.trans (hb1.mono W0.out.size)
  clear hb1 A0 W0
  by_cases hz : runE l a f t = 0
  case neg =>
    have HT : Hid _ := runT_err hz
    have HZ : Hid _ := hz
    have hzb : (runE l a f t != 0) = true := bne_iff_ne.2 hz
    have f0 := A1.out.c0
    have f1 := A1.out.c1
    have g0 := A1.out.fr 0
    have g1 := A1.out.fr 1
    clear hz
    have HP : Hid (∀ w' : World, Below w.heap.size w w' → RunPost l a f t w (.returned (.tuple #[.agg #[.int .i64 0, .int .i64 0], .int .i64 (runE l a f t)])) w') := fun w' hb => ⟨by rw [HT.out]; rfl, hb⟩
    generalize runE l a f t = c at *
    go_wp2_with fail
    refine bodyPost_ret (by simp [results, Try.results23, go_sem, f0, f1]; try rfl) rfl ?_
    exact HP.out _ ((W1.out.setCell (Nat.le_refl _) _).setCell (Nat.le_refl _) _)
  obtain ⟨hG, hF, hT, hS, hX, hM⟩ := runE_zero hz
  have HG : Hid _ := hG
  have HT : Hid _ := runT_ok hz
  have HM : Hid _ := hM
  have HZ : Hid _ := hz
  rw [hz]
  clear hG hX hM hz
  obtain ⟨N, hN⟩ : ∃ N : Nat, t = f + N := ⟨(t - f).toNat, by omega⟩
  subst hN
  have hN : N ≤ 3660 := by omega
  clear hS
  have D2 : Hid (Duo w w1.heap.size 0 0 (w1.alloc (.cells #[.int .i64 0, .int .i64 0] 31))) := ⟨A1.out.alloc _, Blk.new _ _ _ _, A1.out.lt, W1.out.alloc W1.out.size _⟩
  go_wp2_with fail
  generalize w1.alloc (.cells #[.int .i64 0, .int .i64 0] 31) = w2 at *
  go_loopw [27] (fun i wr => ∃ (k : Nat), i = .int .i64 k ∧ k ≤ N ∧ Hid (Duo w w1.heap.size (a * sumR l f k / 360000000) (a * sumR l f k % 360000000) wr)) (fun i _ => N - (intOf i).toNat)
  case atStart => exact ⟨0, rfl, by omega, by simpa [sumR] using D2⟩
  case round =>
    obtain ⟨k, rfl, hk, hD⟩ := hrel
    have f0 := hD.out.b.c0
    have f1 := hD.out.b.c1
    have hTr : I64 (a * sumR l f k / 360000000) ∧ I64 (a * sumR l f k % 360000000) := by
      have h1 := sumR_bound l HG.out.rate f k
      have h2 := prod_le a (sumR l f k) 1125899906842624 3660000000 HM.out (by omega) (by omega)
      generalize a * sumR l f k = y at *
      exact ⟨⟨by omega, by omega⟩, ⟨by omega, by omega⟩⟩
    have HTr : Hid _ := hTr
    clear hTr
    by_cases hlt : k < N
    · have hlt' : (k : Int) < N := by omega
      have hst := run_step l a f k HG.out.rate HM.out (by omega)
      have Hst : Hid _ := hst
      clear hst
      have hrt : Hid (I64 (rateV l (f + k))) := by
        have := rateO_rtd l HG.out.rate (f + k)
        exact ⟨by omega, by omega⟩
      generalize a * sumR l f k / 360000000 = x at *
      generalize a * sumR l f k % 360000000 = y at *
      go_wp2_with fail
      refine (xrate l (f + k) _ _ HL.out ⟨by omega, by omega⟩ (HV.out.below hD.out.bel)).mono ?_
      rintro e w3 ⟨rfl, rfl⟩
      generalize rateV l (f + k) = r at *
      generalize rateB l (f + k) = rb
      go_wp2_with fail
      refine (xday x y a r HTr.out.1 HTr.out.2 HA.out.1 hrt.out _).mono ?_
      rintro e w4 ⟨rfl, hb4⟩
      rw [Hst.out.1, Hst.out.2.1, Hst.out.2.2]
      have D4 : Hid (Duo w w1.heap.size x y w4) := hD.out.kept hb4
      clear hb4 hD f0 f1
      have f0 := D4.out.b.c0
      have f1 := D4.out.b.c1
      have g0 := D4.out.b.fr 0
      have g1 := D4.out.b.fr 1
      have D5 : Hid (Duo w w1.heap.size _ _ _) := D4.out.put (a * sumR l f (k + 1) / 360000000) (a * sumR l f (k + 1) % 360000000)
      go_wp2
      exact ⟨⟨k + 1, by go_num, by omega, D5⟩, by simp [intOf]; omega⟩
    · obtain rfl : k = N := by omega
      have HT2 : Hid (runT l a f (f + k) = a * sumR l f k) := by
        show _ = _
        rw [HT.out, show (f + (k : Int) - f).toNat = k by omega]
      have f2 := hD.out.a.c0
      have f3 := hD.out.a.c1
      have g0 := hD.out.a.fr 0
      have g1 := hD.out.a.fr 1
      generalize hx : a * sumR l f k / 360000000 = x at *
      generalize hy : a * sumR l f k % 360000000 = y at *
      have Hx : Hid _ := hx
      have Hy : Hid _ := hy
      clear hx hy
      go_wp2_with fail
      refine bodyPost_ret (by simp [results, Try.results23, go_sem, f0, f1, f2, f3]; try rfl) rfl ?_
      exact ⟨ret_meter (by rw [HT2.out, Hx.out]) (by rw [HT2.out, Hy.out]) HZ.out.symm, (hD.out.bel.setCell (Nat.le_refl _) _).setCell (Nat.le_refl _) _⟩
end Go.Proofs.Ytdkhpoepdimniaa
