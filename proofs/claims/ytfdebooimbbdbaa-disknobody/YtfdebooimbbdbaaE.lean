/- Append and Cut of a disk: bytes behind an own row. -/
import Derived.Test.YtfdebooimbbdbaaD
import Derived.WalkKit
import Derived.ProofKit
import Derived.Handy
import Derived.WalkLawsBesides
import Derived.WalkSpells
import Derived.BigQuiet
import Derived.BigCall
import Derived.Deep.QuietTactic
import Derived.Deep.Light
import Derived.Deep.OwnRows
import Derived.Laws.AppendOwnNone
import Derived.Laws.Strings3
import Derived.Laws.RangeAny
import Derived.Deep.RegionWith
import Derived.Lib.BitFns
import Derived.Lib.Walk
import Derived.Lib.Strings
import Derived.Lib.OthersKept
import Derived.Deep.CutBlock
import Derived.Deep.DeepCutAuto
import Derived.Deep.LoopGhost
import Derived.Deep.RegionHeld3
import Derived.Lib.SmallJoins
import Derived.Maps.AppendAt
import Derived.Laws.IdiomStrings
import Derived.Lib.AppendZeros
namespace Go.Proofs.Ytfdebooimbbdbaa
open Go.RowKit
set_option linter.unusedVariables false
set_option linter.unusedSimpArgs false
theorem Try.info5 : (Try.prog.info? 5).map (fun i => (i.zero, i.size, i.bytes)) = some (some (.int .u8 0), 1, 1) := by kernel_rfl
theorem info_parts {P : Program} {t : TypeId} {z : Value} {s b : Nat} (h : (P.info? t).map (fun i => (i.zero, i.size, i.bytes)) = some (some z, s, b)) : ∃ i, P.info? t = some i ∧ i.zero = some z ∧ i.size = s ∧ i.bytes = b := by
  obtain ⟨i, hi, he⟩ := Option.map_eq_some_iff.1 h
  simp only [Prod.mk.injEq] at he
  exact ⟨i, hi, he.1, he.2.1, he.2.2⟩
theorem app_own {B : Nat} {w : World} {v : Value} {b : ByteArray} (h : w.ownsRow B 5 1 v b.size (Lib.strCells b)) (hB : B ≤ w.heap.size) (s : ByteArray) (hs : b.size + s.size ≤ 1048576) :
    ∃ v' w', (Builtin.append_ #[51, 9] 51 #[v, .string s]).run Try.prog w = .ok v' w' ∧ w'.ownsRow B 5 1 v' (b ++ s).size (Lib.strCells (b ++ s)) ∧ w.grownBy w' v.ownBlock ∧ (v'.ownBlock = v.ownBlock ∨ v'.ownBlock = some w.heap.size) := by
  obtain ⟨i0, hi, hz, h1, h2⟩ := info_parts Try.info5
  have hm : b.size + s.size ≤ maxLen := by unfold maxLen; omega
  obtain ⟨v', w', hr, ho, hg, hn⟩ := Lib.run_append_own_string (P := Try.prog) w B 51 9 51 5 i0 Try.u51 Try.u9 hi hz h1 h2 v b.size _ h s hm (by omega) hB
  refine ⟨v', w', hr, by rw [ByteArray.size_append, strCells_app]; exact ho, hg, ?_⟩
  rcases h.2 with ⟨rfl, h0⟩ | ⟨g, cap, cur, rfl, hb, hg, h1', h2', h3, h4⟩
  · by_cases c : s.size = 0
    · left
      rw [hn.2 ⟨rfl, c⟩]
    · right
      rw [run_append_nil_string (P := Try.prog) w 51 9 51 5 i0 _ Try.u51 Try.u9 hi hz s (by omega) (by omega) (by rw [h2]; omega)] at hr
      injection hr with e1 _
      rw [← e1]
      rfl
  · by_cases c : b.size + s.size ≤ cap
    · left
      rw [Lib.run_append_room_string (P := Try.prog) w 51 9 51 5 i0 Try.u51 Try.u9 hi h1 g b.size cap cur hg s c (by omega)] at hr
      injection hr with e1 _
      rw [← e1]
      rfl
    · right
      rw [Lib.run_append_grow_string (P := Try.prog) w 51 9 51 5 i0 _ Try.u51 Try.u9 hi hz ⟨g, 0, none⟩ b.size cap (Lib.strCells b) (by rw [h1, Lib.strCells_length]; omega) (h.cells (g := g) rfl) s (by omega) (by omega) (by rw [h2]; exact growslice_fits (by omega) (by omega))] at hr
      injection hr with e1 _
      rw [← e1]
      rfl
section
variable {B p : Nat} {w w' : World} {S : St} {V : Nat → Value}
theorem Dk.gblk (h : Dk B w p S V) {i : Nat} (hi : i < 4) (hg : w.grownBy w' (V i).ownBlock) : w'.heap[p]? = some (.cells (dcells S V) 59 (0, 0)) :=
  (hg.block p h.lt (fun e => own_ne (h.own i hi) h.blk (by decide) e.symm)).trans h.blk
theorem Dk.appd (h : Dk B w p S V) {i : Nat} (hi : i < 4) {v' : Value} {b : ByteArray} (hg : w.grownBy w' (V i).ownBlock) (ho : w'.ownsRow B 5 1 v' b.size (Lib.strCells b)) (hat : v'.ownBlock = (V i).ownBlock ∨ v'.ownBlock = some w.heap.size) :
    Dk B (w'.setCell ⟨p, 3 + i * 2, none⟩ v') p { S with f := put S.f i b } (put V i v') := by
  have hp := h.gblk hi hg
  have hv : ∀ j, j < 4 → j ≠ i → v'.ownBlock = none ∨ v'.ownBlock ≠ (V j).ownBlock := by
    intro j hj hne
    rcases hat with e | e
    · rw [e]; exact h.apart i j hi hj (fun q => hne q.symm)
    · right
      rw [e]
      intro q
      have := ((h.own j hj).lt _ q.symm).2
      omega
  have hset : ∀ {u : Value} {n : Nat} {xs : List Value}, w'.ownsRow B 5 1 u n xs → (w'.setCell ⟨p, 3 + i * 2, none⟩ v').ownsRow B 5 1 u n xs := fun q =>
    own_same q fun g hg => Below.heap_setCell w' _ v' g (by intro e; exact own_ne q hp (by decide) (by rw [hg, e]))
  refine ⟨h.base, ?_, fun j hj => ?_, fun j k hj hk hne => ?_⟩
  · rw [set_blk hp]
    rcases four hi with rfl | rfl | rfl | rfl <;> simp [dcells, put]
  · by_cases c : j = i
    · subst c; simp only [put_eq]; exact hset ho
    · simp only [put_ne _ _ _ _ c]
      exact hset ((h.own j hj).kept hg (h.apart j i hj hi c))
  · by_cases c : j = i
    · subst c; rw [put_eq, put_ne _ _ _ _ (fun e => hne e.symm)]; exact hv k hk (fun e => hne e.symm)
    · rw [put_ne _ _ _ _ c]
      by_cases d : k = i
      · subst d
        rw [put_eq]
        rcases hv j hj c with e | e
        · rw [e]
          rcases hv : (V j).ownBlock with _ | g
          · exact .inl rfl
          · exact .inr (by simp)
        · exact .inr (fun q => e q.symm)
      · rw [put_ne _ _ _ _ d]; exact h.apart j k hj hk hne
theorem Dk.appf (h : Dk B w p S V) {i : Nat} (hi : i < 4) (hg : w.grownBy w' (V i).ownBlock) (v' : Value) : Fr B p w (w'.setCell ⟨p, 3 + i * 2, none⟩ v') := by
  refine ⟨((Below.refl _ _).grown hg h.bw fun k e => ((h.own i hi).lt k e).1).setCell h.base _, Lib.OthersKept.setCell (b := p) ((Lib.OthersKept.refl 5 (some p) w).grown hg fun g hg' => ?_) _ rfl _⟩
  rcases (h.own i hi).2 with ⟨e, _⟩ | ⟨g', cap, cur, e, _, hgg, _⟩
  · rw [e] at hg'; cases hg'
  · rw [e] at hg'
    obtain rfl : g' = g := Option.some.inj hg'
    exact ⟨cur, _, hgg⟩
end
theorem full_cases (S : St) (n t : Nat) (h : chk S n = 0) : (1048576 < (S.f n).size + t ∧ full S n t = 18) ∨ ((S.f n).size + t ≤ 1048576 ∧ full S n t = 0) := by
  unfold full
  rw [if_neg (by simp [h])]
  by_cases c : 1048576 < (S.f n).size + t
  · exact .inl ⟨c, if_pos c⟩
  · exact .inr ⟨by omega, if_neg c⟩
set_option maxHeartbeats 400000 in
theorem xappend (B p : Nat) (S : St) (V : Nat → Value) (w : World) (h : Dk B w p S V) (ok : Ok S) (i : Int) (t : ByteArray) (ht : t.size ≤ maxLen) : Calls Try.prog 17 #[.pointer (some ⟨p, 0, none⟩), .int .i64 i, .string t] w fun e w' => e = .returned (.int .i64 (app S i t).2) ∧ ∃ V', Ch B p (app S i t).1 V' w w' := by
  unfold maxLen at ht
  have H : Hid (Dk B w p S V) := h
  have HO : Hid (Ok S) := ok
  by_cases h0 : chk S i = 0
  · obtain ⟨hg, n, hn, rfl⟩ := chk_zero h0
    have HG : Hid (S.gone = false) := hg
    obtain ⟨a, cap, hw, _⟩ := own_sl (h.own n hn)
    have hv := h.cV hn
    rw [hw] at hv
    have hsm := ok.small n
    unfold app
    rcases full_cases S n t.size h0 with ⟨hf, he⟩ | ⟨hf, he⟩
    · rw [he, chg_e _ _ _ (by omega)]
      have hf' : (1048576 : Int) - (S.f n).size < t.size := by omega
      have hsm' : ((S.f n).size : Int) ≤ 1048576 := by omega
      clear h hg h0 ok hw hf he hsm
      generalize (S.f n).size = m at *
      go_enter Try.func17, Try.ntmps17
      go_wp2_with fail
      refine (xfind B p S V _ H.out n hn HG.out).mono ?_
      rintro e w1 ⟨rfl, rfl⟩
      go_wp2_with fail
      go_ret
      exact ⟨rfl, _, H.out, Fr.refl _ _ _⟩
    · rw [he]
      have hf' : ¬ (1048576 : Int) - (S.f n).size < t.size := by omega
      have hsm' : ((S.f n).size : Int) ≤ 1048576 := by omega
      have HF : Hid ((S.f n).size + t.size ≤ 1048576) := hf
      by_cases h1 : (spd S).2 = 0
      · rw [chg_0 _ _ h1]
        have HS : Hid ((spd S).2 = 0) := h1
        have HZ : Hid (V n = .slice a (S.f n).size cap) := hw
        clear h hg h0 ok h1 he hf hsm hw
        generalize hm : (S.f n).size = m at hv hf' hsm' HZ
        have HM : Hid ((S.f n).size = m) := hm
        clear hm
        go_enter Try.func17, Try.ntmps17
        go_wp2_with fail
        refine (xfind B p S V _ H.out n hn HG.out).mono ?_
        rintro e w1 ⟨rfl, rfl⟩
        go_wp2_with fail
        refine (xspend B p S V _ H.out HO.out).mono ?_
        rw [HS.out]
        rintro e w1 ⟨rfl, h1⟩
        have H1 : Hid (Ch B p (spd S).1 V w w1) := h1
        have hv1 := h1.1.cV hn
        have ho := h1.1.own n hn
        rw [(spd_f S).1] at ho
        obtain ⟨v', w2, hr, ho2, hgr, hat⟩ := app_own ho h1.1.bw t HF.out
        have HD : Hid (Dk B (w2.setCell ⟨p, 3 + n * 2, none⟩ v') p { (spd S).1 with f := put (spd S).1.f n ((spd S).1.f n ++ t) } (put V n v')) := by
          refine h1.1.appd hn hgr ?_ hat
          rw [(spd_f S).1]
          exact ho2
        have HFr : Hid (Fr B p w1 (w2.setCell ⟨p, 3 + n * 2, none⟩ v')) := h1.1.appf hn hgr v'
        have hp2 := h1.1.gblk hn hgr
        have hc2 : w2.cell? ⟨p, 3 + n * 2, none⟩ = some (V n) := by
          rw [cell_of_row w2 p _ _ 59 (0, 0) hp2, ← h1.1.cell]
          exact hv1
        have hf2 : w2.frozen? ⟨p, 3 + n * 2, none⟩ = false := by simp [World.frozen?, hp2]
        rw [HZ.out] at hv1 hr hc2
        obtain ⟨a', cap', hv', _⟩ := own_sl ho2
        generalize (S.f n ++ t).size = m' at hv'
        subst hv'
        clear h1 ho hgr hat ho2 hp2 hv HZ
        go_wp2_with (at_builtin; refine Lib.wpList_append_run _ rfl _ _ 51 9 rfl _ _ rfl rfl _ w2 hr ?_)
        go_ret
        exact ⟨rfl, _, H1.out.trans ⟨HD.out, HFr.out⟩⟩
      · rw [chg_c _ _ h1]
        generalize hc : (spd S).2 = c at *
        have HS : Hid ((spd S).2 = c) := hc
        have h2 : (c == 0) = false := by simpa using h1
        clear h hg h0 ok h1 hc hw hf he hsm
        generalize (S.f n).size = m at *
        go_enter Try.func17, Try.ntmps17
        go_wp2_with fail
        refine (xfind B p S V _ H.out n hn HG.out).mono ?_
        rintro e w1 ⟨rfl, rfl⟩
        go_wp2_with fail
        refine (xspend B p S V _ H.out HO.out).mono ?_
        rw [HS.out]
        rintro e w1 ⟨rfl, h1⟩
        have H1 : Hid (Ch B p (spd S).1 V w w1) := h1
        clear h1
        go_wp2_with fail
        go_ret
        exact ⟨rfl, _, H1.out⟩
  · have hf : full S i t.size = chk S i := by unfold full; rw [if_pos h0]
    unfold app
    rw [hf, chg_e _ _ _ h0]
    clear ok hf
    generalize hc : chk S i = c at *
    have h1 : (c == 0) = false := by simpa using h0
    have HC : Hid (chk S i = c) := hc
    have H0 : Hid (¬ c = 0) := h0
    clear h hc
    go_enter Try.func17, Try.ntmps17
    go_wp2_with fail
    refine (xfindE B p S V _ H.out i c HC.out H0.out).mono ?_
    rintro e w1 ⟨rfl, rfl⟩
    go_wp2_with fail
    go_ret
    exact ⟨rfl, _, H.out, Fr.refl _ _ _⟩
theorem arg_cases (S : St) (n : Nat) (m : Int) (h : chk S n = 0) : ((m < 0 ∨ ((S.f n).size : Int) < m) ∧ argE S n m = 1) ∨ (∃ k : Nat, m = k ∧ k ≤ (S.f n).size ∧ argE S n m = 0) := by
  unfold argE
  rw [if_neg (by simp [h])]
  by_cases c : m < 0 ∨ ((S.f n).size : Int) < m
  · exact .inl ⟨c, if_pos c⟩
  · exact .inr ⟨m.toNat, by omega, by omega, if_neg c⟩
set_option maxHeartbeats 400000 in
theorem xcutD (B p : Nat) (S : St) (V : Nat → Value) (w : World) (h : Dk B w p S V) (ok : Ok S) (i m : Int) : Calls Try.prog 20 #[.pointer (some ⟨p, 0, none⟩), .int .i64 i, .int .i64 m] w fun e w' => e = .returned (.int .i64 (ctf S i m).2) ∧ ∃ V', Ch B p (ctf S i m).1 V' w w' := by
  have H : Hid (Dk B w p S V) := h
  have HO : Hid (Ok S) := ok
  by_cases h0 : chk S i = 0
  · obtain ⟨hg, n, hn, rfl⟩ := chk_zero h0
    have HG : Hid (S.gone = false) := hg
    obtain ⟨a, cap, hw, _⟩ := own_sl (h.own n hn)
    have hv := h.cV hn
    rw [hw] at hv
    have hsm := ok.small n
    unfold ctf
    rcases arg_cases S n m h0 with ⟨hf, he⟩ | ⟨k, rfl, hk, he⟩
    · rw [he, chg_e _ _ _ (by omega)]
      have hsm' : ((S.f n).size : Int) ≤ 1048576 := by omega
      clear h hg h0 ok hw he hsm
      generalize (S.f n).size = z at *
      by_cases hm : m < 0
      · clear hf
        go_enter Try.func20, Try.ntmps20
        go_wp2_with fail
        refine (xfind B p S V _ H.out n hn HG.out).mono ?_
        rintro e w1 ⟨rfl, rfl⟩
        go_wp2_with fail
        go_ret
        exact ⟨rfl, _, H.out, Fr.refl _ _ _⟩
      · have hm2 : (z : Int) < m := by omega
        clear hf
        go_enter Try.func20, Try.ntmps20
        go_wp2_with fail
        refine (xfind B p S V _ H.out n hn HG.out).mono ?_
        rintro e w1 ⟨rfl, rfl⟩
        go_wp2_with fail
        go_ret
        exact ⟨rfl, _, H.out, Fr.refl _ _ _⟩
    · rw [he]
      have hsm' : ((S.f n).size : Int) ≤ 1048576 := by omega
      have HF : Hid (k ≤ (S.f n).size) := hk
      have hk' : (k : Int) ≤ (S.f n).size := by omega
      by_cases h1 : (spd S).2 = 0
      · rw [chg_0 _ _ h1]
        have HS : Hid ((spd S).2 = 0) := h1
        clear h hg h0 ok h1 he hsm hw hk
        generalize hz : (S.f n).size = z at hv hsm' hk'
        have HM : Hid ((S.f n).size = z) := hz
        clear hz
        go_enter Try.func20, Try.ntmps20
        go_wp2_with fail
        refine (xfind B p S V _ H.out n hn HG.out).mono ?_
        rintro e w1 ⟨rfl, rfl⟩
        go_wp2_with fail
        refine (xspend B p S V _ H.out HO.out).mono ?_
        rw [HS.out]
        rintro e w1 ⟨rfl, h1⟩
        have H1 : Hid (Ch B p (spd S).1 V w w1) := h1
        clear h1
        go_wp2_with fail
        refine (xcut B p (spd S).1 V _ H1.out.1 (spd_ok HO.out) n k hn (by rw [(spd_f S).1]; exact HF.out)).mono ?_
        rintro e w2 ⟨rfl, v', h2⟩
        have H2 : Hid (Ch B p _ _ w1 w2) := h2
        clear h2
        go_wp2_with fail
        go_ret
        exact ⟨rfl, _, H1.out.trans H2.out⟩
      · rw [chg_c _ _ h1]
        generalize hc : (spd S).2 = c at *
        have HS : Hid ((spd S).2 = c) := hc
        have h2 : (c == 0) = false := by simpa using h1
        clear h hg h0 ok h1 hc hw he hsm hk
        generalize (S.f n).size = z at *
        go_enter Try.func20, Try.ntmps20
        go_wp2_with fail
        refine (xfind B p S V _ H.out n hn HG.out).mono ?_
        rintro e w1 ⟨rfl, rfl⟩
        go_wp2_with fail
        refine (xspend B p S V _ H.out HO.out).mono ?_
        rw [HS.out]
        rintro e w1 ⟨rfl, h1⟩
        have H1 : Hid (Ch B p (spd S).1 V w w1) := h1
        clear h1
        go_wp2_with fail
        go_ret
        exact ⟨rfl, _, H1.out⟩
  · have hf : argE S i m = chk S i := by unfold argE; rw [if_pos h0]
    unfold ctf
    rw [hf, chg_e _ _ _ h0]
    clear ok hf
    generalize hc : chk S i = c at *
    have h1 : (c == 0) = false := by simpa using h0
    have HC : Hid (chk S i = c) := hc
    have H0 : Hid (¬ c = 0) := h0
    clear h hc
    go_enter Try.func20, Try.ntmps20
    go_wp2_with fail
    refine (xfindE B p S V _ H.out i c HC.out H0.out).mono ?_
    rintro e w1 ⟨rfl, rfl⟩
    go_wp2_with fail
    go_ret
    exact ⟨rfl, _, H.out, Fr.refl _ _ _⟩
end Go.Proofs.Ytfdebooimbbdbaa
