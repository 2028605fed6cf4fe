/- FixnumRounds: for every input the law returns true. No condition. Here: what the ways to round have to do with each other, and the walk of the law itself, out of the walks of what it calls. -/
import Derived.Test.YtjjcjgighdidcabI
import Derived.Test.YtjjcjgighdidcabV
import Derived.WalkKit
import Derived.ProofKit
import Derived.Handy
import Derived.WalkLawsBesides
import Derived.WalkSpells
import Derived.BigQuiet
import Derived.Deep.QuietTactic
import Derived.Deep.Light
import Derived.Deep.OwnRows
import Derived.Laws.AppendOwnNone
import Derived.Deep.RegionWith
import Derived.Lib.BitFns
import Derived.Lib.Walk
import Derived.Deep.CutBlock
import Derived.Deep.DeepCutAuto
import Derived.Deep.LoopGhost
namespace Go.Proofs.Ytjjcjgighdidcab
open Go.RowKit
set_option linter.unusedVariables false
set_option linter.unusedSimpArgs false
theorem mdE_or (a b c how : Int) (h : mdE a b c how = 0) (h1 : 1 ≤ how) (h2 : how ≤ 4) : c ≠ 0 ∧ mdS a b c how = mdN a b c how ∧ (-9223372036854775808 ≤ mdN a b c how ∧ mdN a b c how ≤ 9223372036854775807) := by
  unfold mdE at h
  split at h
  · omega
  · rename_i hb
    unfold fitE at h
    split at h
    · rename_i hf
      exact ⟨by omega, by rw [mdS, if_neg hb, fitS, if_pos hf], hf⟩
    · omega
theorem mdE_of (a b c how : Int) (h0 : c ≠ 0) (h1 : 1 ≤ how) (h2 : how ≤ 4) (hf : -9223372036854775808 ≤ mdN a b c how ∧ mdN a b c how ≤ 9223372036854775807) : mdE a b c how = 0 ∧ mdS a b c how = mdN a b c how := by
  rw [mdE, mdS, if_neg (by omega), if_neg (by omega), fitE, fitS, if_pos hf, if_pos hf]
  exact ⟨rfl, rfl⟩

theorem awayB_none (how d q : Int) (ng : Bool) (hd : 0 < d) : awayB how 0 d q ng = false := by
  unfold awayB
  refine decide_eq_false ?_
  rintro (h | h | h) <;> omega

/-- the rest of the sizes' division -/
def mdR (a b c : Int) : Int := (a.natAbs : Int) * b.natAbs % c.natAbs

theorem rounds_facts (a b c : Int) (h1 : mdE a b c 1 = 0) (h2 : mdE a b c 2 = 0) :
    c ≠ 0 ∧ mdE a b c 3 = 0 ∧ mdE a b c 4 = 0 ∧ (mdR a b c = 0 → mdS a b c 1 = mdS a b c 2) ∧ (mdR a b c ≠ 0 → mdS a b c 2 = mdS a b c 1 + 1) ∧
    (mdS a b c 3 = mdS a b c 1 ∨ mdS a b c 3 = mdS a b c 2) ∧ (mdS a b c 4 = mdS a b c 1 ∨ mdS a b c 4 = mdS a b c 2) ∧ (-9223372036854775808 ≤ mdS a b c 1 ∧ mdS a b c 1 ≤ 9223372036854775807) ∧ (-9223372036854775808 ≤ mdS a b c 2 ∧ mdS a b c 2 ≤ 9223372036854775807) := by
  obtain ⟨hc, e1, f1⟩ := mdE_or a b c 1 h1 (by omega) (by omega)
  obtain ⟨-, e2, f2⟩ := mdE_or a b c 2 h2 (by omega) (by omega)
  have hd : 0 < (c.natAbs : Int) := by omega
  have m1 := Int.emod_nonneg ((a.natAbs : Int) * b.natAbs) (show (c.natAbs : Int) ≠ 0 by omega)
  have key : mdN a b c 3 = mdN a b c 1 ∨ mdN a b c 3 = mdN a b c 2 := by
    by_cases hr : mdR a b c = 0
    · left
      unfold mdR at hr
      unfold mdN mdQ
      rw [hr, awayB_none _ _ _ _ hd, awayB_none _ _ _ _ hd]
    · unfold mdR at hr
      unfold mdN mdQ
      rw [away_3, away_1 _ _ _ _ (by omega), away_2 _ _ _ _ (by omega)]
      cases negB a b c <;> simp
  have key4 : mdN a b c 4 = mdN a b c 1 ∨ mdN a b c 4 = mdN a b c 2 := by
    by_cases hr : mdR a b c = 0
    · left
      unfold mdR at hr
      unfold mdN mdQ
      rw [hr, awayB_none _ _ _ _ hd, awayB_none _ _ _ _ hd]
    · unfold mdR at hr
      unfold mdN mdQ
      rw [away_1 _ _ _ _ (by omega), away_2 _ _ _ _ (by omega)]
      cases negB a b c <;> cases awayB 4 ((a.natAbs : Int) * b.natAbs % c.natAbs) c.natAbs ((a.natAbs : Int) * b.natAbs / c.natAbs) _ <;> simp
  have hz : mdR a b c = 0 → mdN a b c 1 = mdN a b c 2 := by
    intro hr
    unfold mdR at hr
    unfold mdN mdQ
    rw [hr, awayB_none _ _ _ _ hd, awayB_none _ _ _ _ hd]
  have hn : mdR a b c ≠ 0 → mdN a b c 2 = mdN a b c 1 + 1 := by
    intro hr
    unfold mdR at hr
    unfold mdN mdQ
    rw [away_1 _ _ _ _ (by omega), away_2 _ _ _ _ (by omega)]
    cases negB a b c <;> simp [sgnd] <;> omega
  obtain ⟨g3, s3⟩ := mdE_of a b c 3 hc (by omega) (by omega) (by rcases key with h | h <;> rw [h] <;> assumption)
  obtain ⟨g4, s4⟩ := mdE_of a b c 4 hc (by omega) (by omega) (by rcases key4 with h | h <;> rw [h] <;> assumption)
  rw [e1, e2, s3, s4]
  exact ⟨hc, g3, g4, hz, hn, key, key4, f1, f2⟩

/-- what abs tells, as an unsigned number -/
theorem labs (n : Int) (hn : -9223372036854775808 ≤ n ∧ n ≤ 9223372036854775807) (w : World) :
    Calls Try.prog 13 #[.int .i64 n] w fun e w' => ∃ m, e = .returned (.int .i64 m) ∧ (-9223372036854775808 ≤ m ∧ m ≤ 9223372036854775807) ∧ Hid (IntKind.u64.wrap m = (n.natAbs : Int)) ∧ w = w' := by
  by_cases h0 : n < 0
  · by_cases h1 : n = -9223372036854775808
    · subst h1
      go_enter Try.func13, Try.ntmps13
      go_wp2
      go_ret
      exact ⟨_, rfl, by unfold wrap64; decide, by unfold Hid wrap64; rw [IntKind.wrap_u64]; decide, rfl⟩
    · have h2 : -9223372036854775807 ≤ n := by omega
      go_enter Try.func13, Try.ntmps13
      go_wp2
      go_ret
      exact ⟨- n, rfl, by omega, by unfold Hid; rw [IntKind.wrap_u64]; omega, rfl⟩
  · go_enter Try.func13, Try.ntmps13
    go_wp2
    go_ret
    exact ⟨n, rfl, by omega, by unfold Hid; rw [IntKind.wrap_u64]; omega, rfl⟩

set_option maxRecDepth 100000 in
theorem rounds_walk_err (a b c : Int) (w : World) (ha : -9223372036854775808 ≤ a ∧ a ≤ 9223372036854775807) (hb : -9223372036854775808 ≤ b ∧ b ≤ 9223372036854775807) (hc : -9223372036854775808 ≤ c ∧ c ≤ 9223372036854775807) (he : mdE a b c 1 ≠ 0 ∨ mdE a b c 2 ≠ 0) :
    Calls Try.prog 4 #[.int .i64 a, .int .i64 b, .int .i64 c] w (TruePost w) := by
  have HE : Hid (mdE a b c 1 ≠ 0 ∨ mdE a b c 2 ≠ 0) := he
  clear he
  go_enter Try.func4, Try.ntmps4
  go_wp2_with fail
  refine (xmuldiv a b c 1 ha hb hc _ (Or.inr xdiv64)).mono ?_
  rintro e w1 ⟨rfl, hb1⟩
  have HB1 : Hid (Below w.heap.size w w1) := hb1
  clear hb1
  go_wp2_with fail
  refine (xmuldiv a b c 2 ha hb hc _ (Or.inr xdiv64)).mono ?_
  rintro e w2 ⟨rfl, hb2⟩
  have HB2 : Hid (Below w.heap.size w w2) := HB1.out.trans (hb2.mono HB1.out.size)
  clear hb2
  go_wp2_with fail
  refine (xmuldiv a b c 3 ha hb hc _ (Or.inr xdiv64)).mono ?_
  rintro e w3 ⟨rfl, hb3⟩
  have HB3 : Hid (Below w.heap.size w w3) := HB2.out.trans (hb3.mono HB2.out.size)
  clear hb3
  go_wp2_with fail
  refine (xmuldiv a b c 4 ha hb hc _ (Or.inr xdiv64)).mono ?_
  rintro e w4 ⟨rfl, hb4⟩
  have HB4 : Hid (Below w.heap.size w w4) := HB3.out.trans (hb4.mono HB3.out.size)
  clear hb4
  generalize hp : mdE a b c 1 = p at *
  generalize hq : mdE a b c 2 = q at *
  clear hp hq
  generalize mdS a b c 1 = s1
  generalize mdS a b c 2 = s2
  generalize mdS a b c 3 = s3
  generalize mdS a b c 4 = s4
  generalize mdE a b c 3 = e3
  generalize mdE a b c 4 = e4
  by_cases h1 : p = 0
  · have h2 : (q != 0) = true := by have := HE.out; simp; omega
    subst h1
    go_wp2_with fail
    refine (awake_true _).mono ?_
    rintro e w5 ⟨rfl, hb5⟩
    have HB5 : Hid (Below w.heap.size w w5) := HB4.out.trans (hb5.mono HB4.out.size)
    clear hb5
    go_wp2
    go_ret
    exact ⟨rfl, HB5.out⟩
  · have h2 : (p != 0) = true := by simp [h1]
    go_wp2_with fail
    refine (awake_true _).mono ?_
    rintro e w5 ⟨rfl, hb5⟩
    have HB5 : Hid (Below w.heap.size w w5) := HB4.out.trans (hb5.mono HB4.out.size)
    clear hb5
    go_wp2
    go_ret
    exact ⟨rfl, HB5.out⟩

set_option maxRecDepth 100000 in
set_option maxHeartbeats 2000000 in
theorem rounds_walk_ok (a b c : Int) (w : World) (ha : -9223372036854775808 ≤ a ∧ a ≤ 9223372036854775807) (hb : -9223372036854775808 ≤ b ∧ b ≤ 9223372036854775807) (hc : -9223372036854775808 ≤ c ∧ c ≤ 9223372036854775807) (h1 : mdE a b c 1 = 0) (h2 : mdE a b c 2 = 0) :
    Calls Try.prog 4 #[.int .i64 a, .int .i64 b, .int .i64 c] w (TruePost w) := by
  obtain ⟨hc0, h3, h4, hz, hn, k3, k4, b1, b2⟩ := rounds_facts a b c h1 h2
  have H1 : Hid _ := h1
  have H2 : Hid _ := h2
  have H3 : Hid _ := h3
  have H4 : Hid _ := h4
  have HZ : Hid _ := hz
  have HN : Hid _ := hn
  have K3 : Hid _ := k3
  have K4 : Hid _ := k4
  have HB12 : Hid _ := And.intro b1 b2
  clear h1 h2 h3 h4 hz hn k3 k4 b1 b2
  go_enter Try.func4, Try.ntmps4
  go_wp2_with fail
  refine (xmuldiv a b c 1 ha hb hc _ (Or.inr xdiv64)).mono ?_
  rintro e w1 ⟨rfl, hb1⟩
  have HB1 : Hid (Below w.heap.size w w1) := hb1
  clear hb1
  go_wp2_with fail
  refine (xmuldiv a b c 2 ha hb hc _ (Or.inr xdiv64)).mono ?_
  rintro e w2 ⟨rfl, hb2⟩
  have HB2 : Hid (Below w.heap.size w w2) := HB1.out.trans (hb2.mono HB1.out.size)
  clear hb2
  go_wp2_with fail
  refine (xmuldiv a b c 3 ha hb hc _ (Or.inr xdiv64)).mono ?_
  rintro e w3 ⟨rfl, hb3⟩
  have HB3 : Hid (Below w.heap.size w w3) := HB2.out.trans (hb3.mono HB2.out.size)
  clear hb3
  go_wp2_with fail
  refine (xmuldiv a b c 4 ha hb hc _ (Or.inr xdiv64)).mono ?_
  rintro e w4 ⟨rfl, hb4⟩
  have HB4 : Hid (Below w.heap.size w w4) := HB3.out.trans (hb4.mono HB3.out.size)
  clear hb4 HB1 HB2 HB3
  rw [H1.out, H2.out, H3.out, H4.out]
  have hb12 := HB12.out
  generalize mdS a b c 1 = s1 at *
  generalize mdS a b c 2 = s2 at *
  generalize mdS a b c 3 = s3 at *
  generalize mdS a b c 4 = s4 at *
  obtain ⟨b1, b2⟩ := hb12
  go_wp2_with fail
  refine (labs a ha _).mono ?_
  rintro e w5 ⟨ma, rfl, bma, hma, rfl⟩
  go_wp2_with fail
  rw [hma.out]
  obtain ⟨na, ena⟩ : ∃ na : Int, na = (a.natAbs : Int) := ⟨_, rfl⟩
  have bna : 0 ≤ na ∧ na < 18446744073709551616 := by omega
  rw [← ena]
  have Ena : Hid (na = (a.natAbs : Int)) := ena
  clear ena hma
  refine (rof na _ bna).mono ?_
  rintro e w5 ⟨va, da, rfl, hoa, hna, hb5, -⟩
  have Hoa : Hid (Own w4.heap.size w5 va da) := hoa
  have HB5 : Hid (Below w.heap.size w w5) := HB4.out.trans (hb5.mono HB4.out.size)
  clear hoa hb5 HB4
  go_wp2_with fail
  refine (labs b hb _).mono ?_
  rintro e w6 ⟨mb, rfl, bmb, hmb, rfl⟩
  go_wp2_with fail
  rw [hmb.out]
  obtain ⟨nb, enb⟩ : ∃ nb : Int, nb = (b.natAbs : Int) := ⟨_, rfl⟩
  have bnb : 0 ≤ nb ∧ nb < 18446744073709551616 := by omega
  rw [← enb]
  have Enb : Hid (nb = (b.natAbs : Int)) := enb
  clear enb hmb
  refine (rof nb _ bnb).mono ?_
  rintro e w6 ⟨vb, db, rfl, hob, hnb, hb6, -⟩
  have Hob : Hid (Own w5.heap.size w6 vb db) := hob
  have HB6 : Hid (Below w.heap.size w w6) := HB5.out.trans (hb6.mono HB5.out.size)
  have HDa : Hid (Dig w6 va da) := Dig.below (Own.dig Hoa.out) hb6
  clear hob hb6 HB5 Hoa
  go_wp2_with fail
  refine (rmul da db va vb _ hna.out.1.1 hnb.out.1.1 (by have := hna.out.2.2; omega) (by have := hnb.out.2.2; omega) HDa.out (Own.dig Hob.out)).mono ?_
  rintro e w7 ⟨vp, dp, rfl, hop, hnp, hb7⟩
  have Hop : Hid (Own w6.heap.size w7 vp dp) := hop
  have HB7 : Hid (Below w.heap.size w w7) := HB6.out.trans (hb7.mono HB6.out.size)
  clear hop hb7 HB6 HDa Hob
  go_wp2_with fail
  refine (labs c hc _).mono ?_
  rintro e w8 ⟨mc, rfl, bmc, hmc, rfl⟩
  go_wp2_with fail
  rw [hmc.out]
  obtain ⟨nc, enc⟩ : ∃ nc : Int, nc = (c.natAbs : Int) := ⟨_, rfl⟩
  have bnc : 0 < nc ∧ nc < 18446744073709551616 := by omega
  rw [← enc]
  have Enc : Hid (nc = (c.natAbs : Int)) := enc
  clear enc hmc
  refine (rof nc _ (by omega)).mono ?_
  rintro e w8 ⟨vc, dc, rfl, hoc, hnc, hb8, -⟩
  have Hoc : Hid (Own w7.heap.size w8 vc dc) := hoc
  have HB8 : Hid (Below w.heap.size w w8) := HB7.out.trans (hb8.mono HB7.out.size)
  have HDp : Hid (Dig w8 vp dp) := Dig.below (Own.dig Hop.out) hb8
  clear hoc hb8 HB7 Hop
  go_wp2_with fail
  refine (rdiv dp dc vp vc _ hnp.out.1 hnc.out.1 (by have := hnp.out.2.2; have := hna.out.2.2; have := hnb.out.2.2; omega) (by have := hnc.out.2.2; omega) (by rw [hnc.out.2.1]; omega) HDp.out (Own.dig Hoc.out)).mono ?_
  rintro e w9 ⟨vq, qs, vr, rs, rfl, hoq, hor, hdv, hb9⟩
  have HB9 : Hid (Below w.heap.size w w9) := HB8.out.trans (hb9.mono HB8.out.size)
  obtain ⟨ar, cr, rfl, -⟩ := Own.dig hor
  clear hoq hor hb9 HB8 HDp Hoc
  have hR : mdR a b c = val rs := by
    obtain ⟨-, h6, h7, h8, -⟩ := hdv.out
    rw [hnp.out.2.1, hna.out.2.1, hnb.out.2.1, hnc.out.2.1, Ena.out, Enb.out] at h7
    rw [hnc.out.2.1] at h8
    exact (md_div a b c nc (val qs) (val rs) h7 ⟨val_nonneg rs h6.1, h8⟩ Enc.out).2
  have hrl : rs.length ≤ 4 := by have := hdv.out.2.2.2.2.2; have := hnc.out.2.2; omega
  by_cases hr0 : rs = []
  · have hs12 : s1 = s2 := HZ.out (by rw [hR, hr0]; rfl)
    have hl0 : (rs.length : Int) = 0 := by rw [hr0]; rfl
    have hs3 : s3 = s1 := by have := K3.out; omega
    have hs4 : s4 = s1 := by have := K4.out; omega
    clear hR hr0 HZ HN K3 K4 HB12
    subst hs12 hs3 hs4
    rw [show rs.length = 0 by omega]
    go_wp2_with fail
    refine (awake_true _).mono ?_
    rintro e w10 ⟨rfl, hb10⟩
    have HB10 : Hid (Below w.heap.size w w10) := HB9.out.trans (hb10.mono HB9.out.size)
    clear hb10
    go_wp2
    go_ret
    exact ⟨rfl, HB10.out⟩
  · have hs12 : s2 = s1 + 1 := HN.out (by
      rw [hR]
      have h5 := val_ge rs hdv.out.2.1 hr0
      have h6 := pw_pos (rs.length - 1)
      omega)
    have hl0 : 0 < rs.length := List.length_pos_iff.2 hr0
    have hlb : ((rs.length : Int) == 0) = false := by simp; omega
    have hk3 : s3 = s1 ∨ s3 = s1 + 1 := by have := K3.out; omega
    have hk4 : s4 = s1 ∨ s4 = s1 + 1 := by have := K4.out; omega
    clear hR hr0 HZ HN K3 K4 HB12
    subst hs12
    have g1 : (s1 == s1 + 1) = false := by simp; omega
    have g2 : (s1 + 1 == s1) = false := by simp; omega
    have g3 : (s1 + 1 - s1 == 1) = true := by simp; omega
    rcases hk3 with rfl | rfl <;> rcases hk4 with rfl | rfl
    all_goals
      go_wp2_with fail
      refine (awake_true _).mono ?_
      rintro e w10 ⟨rfl, hb10⟩
      have HB10 : Hid (Below w.heap.size w w10) := HB9.out.trans (hb10.mono HB9.out.size)
      clear hb10
      go_wp2
      go_ret
      exact ⟨rfl, HB10.out⟩

theorem rounds_walk (a b c : Int) (w : World) (ha : -9223372036854775808 ≤ a ∧ a ≤ 9223372036854775807) (hb : -9223372036854775808 ≤ b ∧ b ≤ 9223372036854775807) (hc : -9223372036854775808 ≤ c ∧ c ≤ 9223372036854775807) :
    Calls Try.prog 4 #[.int .i64 a, .int .i64 b, .int .i64 c] w (TruePost w) := by
  by_cases h1 : mdE a b c 1 = 0
  · by_cases h2 : mdE a b c 2 = 0
    · exact rounds_walk_ok a b c w ha hb hc h1 h2
    · exact rounds_walk_err a b c w ha hb hc (Or.inr h2)
  · exact rounds_walk_err a b c w ha hb hc (Or.inl h1)
end Go.Proofs.Ytjjcjgighdidcab
