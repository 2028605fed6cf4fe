/- layer 14: the document's Set -/
import Derived.Test.YtmjaijpikbdfkaaJB
import Derived.WalkKit
import Derived.ProofKit
import Derived.Handy
import Derived.WalkLawsBesides
import Derived.WalkSpells
import Derived.BigQuiet
import Derived.BigCall
import Derived.Deep.QuietTactic
import Derived.Deep.Light
import Derived.Deep.OwnRows
import Derived.Laws.AppendOwnNone
import Derived.Laws.Strings3
import Derived.Laws.RangeAny
import Derived.Deep.RegionWith
import Derived.Lib.BitFns
import Derived.Lib.Walk
import Derived.Lib.Strings
import Derived.Lib.OthersKept
import Derived.Deep.CutBlock
import Derived.Deep.DeepCutAuto
import Derived.Deep.LoopGhost
import Derived.Deep.RegionHeld3
import Derived.Lib.SmallJoins
import Derived.Maps.AppendAt
import Derived.Laws.IdiomStrings
import Derived.Lib.AppendZeros
import Derived.Deep.WholeRow
import Derived.Laws.BitsAllLaws
import Derived.Lib.ConvBytes
import Derived.Deep.RegionLaw
import Derived.Maps.OwnSet
import Derived.Maps.OwnOps
import Derived.Maps.RangeWalk
import Derived.Maps.Ext
import Derived.DeepKeys4
import Derived.Laws.StructEq
import Derived.Deep.MidRow
import Derived.Lib.Bytealg
import Derived.Lib.Overlaps
import Derived.Lib.AppendZerosOnto
import Derived.Laws.MakeOwn
import Derived.Deep.Upon
namespace Go.Proofs.Ytmjaijpikbdfkaa
open Go.RowKit
set_option linter.unusedVariables false
set_option linter.unusedSimpArgs false
set_option maxRecDepth 20000
section
variable {P : Program} {ops : Array Oper} {rest : List Oper} {o : Oper} {a : Act} {Q : Exit → Act → World → Prop}
theorem wl_bslice (w w' : World) (hgd : o.guard = none) (t : TypeId) (n : Nat) (x : Operand) (ho : o.op = .buildSlice t n #[(0, x)]) (v : Value) (h0 : a.eval x = v) (v' : Value) (hr : (Instr.buildSlice t n #[(0, v)]).run P w = .ok v' w') (h : wpList P ops Q rest (a.put o.dst v') w') : wpList P ops Q (o :: rest) a w :=
  wpList_plain hgd fun K hK => by
    unfold Oper.wp execOp
    simp only [ho, List.map_toArray, List.map_cons, List.map_nil, h0, Sem.run_bind, Sem.run_pure, Result.andThen_ok, hr]
    exact hK _ _ h
end
theorem jbs (z : Bm) (w : World) : (Instr.buildSlice 34 1 #[(0, .agg (bcs z).toArray)]).run Try.prog w = .ok (.slice (some ⟨w.heap.size, 0, none⟩) 1 1) (w.alloc (.cells (bcs z).toArray 25)) := by
  show (Instr.buildSlice 34 1 #[(0, .agg #[.int .i64 z.b.id, .int .i64 z.b.ver, .string ⟨z.b.cur.toArray⟩, .int .i64 z.b.rat, .int .i64 z.b.least, .int .i64 z.b.most, .slice z.ca z.b.cuts.length z.cc, .int .i64 z.b.iss, .int .i64 z.b.ass, .slice z.ba z.b.bar.length z.bc])]).run Try.prog w = .ok (.slice (some ⟨w.heap.size, 0, none⟩) 1 1) (w.alloc (.cells #[.int .i64 z.b.id, .int .i64 z.b.ver, .string ⟨z.b.cur.toArray⟩, .int .i64 z.b.rat, .int .i64 z.b.least, .int .i64 z.b.most, .slice z.ca z.b.cuts.length z.cc, .int .i64 z.b.iss, .int .i64 z.b.ass, .slice z.ba z.b.bar.length z.bc] 25))
  go_simp
/-- one basket more behind a row of its own -/
theorem jappend {w q : World} {u : Value} {zs : List Bm} (z : Bm) (h : q.ownsRow w.heap.size 25 10 u zs.length (rcs bcs zs)) (hl : zs.length ≤ 200000) (hb : Below w.heap.size w q) : ∃ v' w4, (Builtin.append_ #[34, 34] 34 #[u, .slice (some ⟨q.heap.size, 0, none⟩) 1 1]).run Try.prog (q.alloc (.cells (bcs z).toArray 25)) = .ok v' w4 ∧ w4.ownsRow w.heap.size 25 10 v' (zs ++ [z]).length (rcs bcs (zs ++ [z])) ∧ Below w.heap.size w w4 := by
  obtain ⟨v', w4, hr4, ho4, hg4⟩ := app_gen (T := 25) (Sl := 34) (k := 10) (bytes := 120) Try.underlying34 jinfo25 rfl (by omega) (bcs z) rfl (bcs_one _) h hb.size (by omega) (by unfold maxLen; omega)
  refine ⟨v', w4, hr4, ?_, (hb.alloc hb.size _).grown hg4 (by simp; have := hb.size; omega) (fun j hj => (h.lt j hj).1)⟩
  rw [List.length_append, rcs_snoc]
  exact ho4
def outsM (ys : List Bm) (x : Bm) (P k : Nat) : List Bm := if k ≤ P then ys.take k else ys.take P ++ x :: (ys.take k).drop P
def insM (ys : List Bm) (x : Bm) (P : Nat) : List Bm := ys.take P ++ x :: ys.drop P
theorem outsM_zero (ys : List Bm) (x : Bm) (P : Nat) : outsM ys x P 0 = [] := by simp [outsM]
theorem outsM_else {ys : List Bm} {x : Bm} {P k : Nat} (hk : k < ys.length) (h : k ≠ P) : outsM ys x P k ++ [ys[k]] = outsM ys x P (k + 1) := by
  unfold outsM
  by_cases h1 : k ≤ P
  · rw [if_pos h1, if_pos (by omega), List.take_append_getElem hk]
  · rw [if_neg h1, if_neg (by omega), ← List.take_append_getElem hk, List.drop_append_of_le_length (by rw [List.length_take]; omega)]
    simp
theorem outsM_here {ys : List Bm} {x : Bm} {P k : Nat} (hk : k < ys.length) (h : k = P) : (outsM ys x P k ++ [x]) ++ [ys[k]] = outsM ys x P (k + 1) := by
  unfold outsM
  rw [if_pos (by omega), if_neg (by omega), ← h, ← List.take_append_getElem hk, List.drop_append_of_le_length (by rw [List.length_take]; omega)]
  simp
theorem outsM_end {ys : List Bm} {x : Bm} {P : Nat} (h : P < ys.length) : outsM ys x P ys.length = insM ys x P := by
  unfold outsM insM
  rw [if_neg (by omega), List.take_length]
theorem outsM_end2 {ys : List Bm} {x : Bm} {P : Nat} (h : ¬ P < ys.length) (h2 : P ≤ ys.length) : outsM ys x P ys.length ++ [x] = insM ys x P := by
  have h4 : P = ys.length := by omega
  unfold outsM insM
  rw [if_pos (by omega), h4]
  simp
theorem outsM_len (ys : List Bm) (x : Bm) (P k : Nat) : (outsM ys x P k).length ≤ ys.length + 1 := by
  unfold outsM
  split
  · rw [List.length_take]; omega
  · simp only [List.length_append, List.length_cons, List.length_take, List.length_drop]; omega
theorem insM_mem {ys : List Bm} {x z : Bm} {P : Nat} (h : z ∈ insM ys x P) : z = x ∨ z ∈ ys := by
  unfold insM at h
  rcases List.mem_append.1 h with h | h
  · exact .inr (List.mem_of_mem_take h)
  · rcases List.mem_cons.1 h with h | h
    · exact .inl h
    · exact .inr (List.mem_of_mem_drop h)
theorem insM_map {ys : List Bm} (x : Bm) (h : Srt (ys.map (·.b))) : (insM ys x (pos (ys.map (·.b)) x.b)).map (·.b) = ins (ys.map (·.b)) x.b := by
  obtain ⟨h1, h2⟩ := take_pos h x.b
  unfold insM ins
  rw [← h1, ← h2, List.map_append, List.map_cons, List.map_take, List.map_drop]
def SrP (ys : List Bm) (x : Bm) (E : Nat) (v0 : Value) (w : World) (e : Ending) (w' : World) : Prop := ∃ v zs, e = .returned (.tuple #[v, .int .i64 (setE (ys.map (·.b)) x.b E : Nat)]) ∧ Hid (Below w.heap.size w w' ∧ zs.map (·.b) = setL (ys.map (·.b)) x.b E ∧ (v = v0 ∧ zs = ys ∨ (w'.ownsRow w.heap.size 25 10 v zs.length (rcs bcs zs) ∧ ∀ z ∈ zs, z = x ∨ z ∈ ys)))
theorem SrP.no {ys : List Bm} {x : Bm} {E g : Nat} {v0 : Value} {w w' : World} (hg : setE (ys.map (·.b)) x.b E = g) (h0 : g ≠ 0) (hb : Below w.heap.size w w') : SrP ys x E v0 w (.returned (.tuple #[v0, .int .i64 (g : Nat)])) w' :=
  ⟨v0, ys, by rw [hg], hb, by unfold setL; rw [if_neg (by rw [hg]; exact h0)], .inl ⟨rfl, rfl⟩⟩
set_option maxHeartbeats 16000000 in
theorem rset (ys : List Bm) (a : Option Addr) (cap : Nat) (x : Bm) (w : World) (hr : Rw 10 bcs w a ys) (hl : ys.length ≤ 100000) (hs : Srt (ys.map (·.b))) (hx : Ha w.heap.size w x) (hlc : x.b.cuts.length ≤ 9223372036854775807) (hlb : x.b.bar.length ≤ 9223372036854775807) (E : Nat) (hE : bkE C0 x.b = E) : Calls Try.prog 17 #[.slice a ys.length cap, .agg (bcs x).toArray] w (SrP ys x E (.slice a ys.length cap) w) := by
  show Calls Try.prog 17 #[.slice a ys.length cap, .agg #[.int .i64 x.b.id, .int .i64 x.b.ver, .string ⟨x.b.cur.toArray⟩, .int .i64 x.b.rat, .int .i64 x.b.least, .int .i64 x.b.most, .slice x.ca x.b.cuts.length x.cc, .int .i64 x.b.iss, .int .i64 x.b.ass, .slice x.ba x.b.bar.length x.bc]] w (SrP ys x E (.slice a ys.length cap) w)
  have HX0 : Hid (Bx (w.alloc (.cells #[.int .i64 x.b.id, .int .i64 x.b.ver, .string ⟨x.b.cur.toArray⟩, .int .i64 x.b.rat, .int .i64 x.b.least, .int .i64 x.b.most, .slice x.ca x.b.cuts.length x.cc, .int .i64 x.b.iss, .int .i64 x.b.ass, .slice x.ba x.b.bar.length x.bc] 25)) w.heap.size #[.int .i64 x.b.id, .int .i64 x.b.ver, .string ⟨x.b.cur.toArray⟩, .int .i64 x.b.rat, .int .i64 x.b.least, .int .i64 x.b.most, .slice x.ca x.b.cuts.length x.cc, .int .i64 x.b.iss, .int .i64 x.b.ass, .slice x.ba x.b.bar.length x.bc] 25) := Bx.new w _ _
  have HB0 : Hid (Below w.heap.size w (w.alloc (.cells #[.int .i64 x.b.id, .int .i64 x.b.ver, .string ⟨x.b.cur.toArray⟩, .int .i64 x.b.rat, .int .i64 x.b.least, .int .i64 x.b.most, .slice x.ca x.b.cuts.length x.cc, .int .i64 x.b.iss, .int .i64 x.b.ass, .slice x.ba x.b.bar.length x.bc] 25))) := below_a w _
  have HC : Hid (∀ W, Below w.heap.size w W → Calls Try.prog 8 #[.agg #[.int .i64 x.b.id, .int .i64 x.b.ver, .string ⟨x.b.cur.toArray⟩, .int .i64 x.b.rat, .int .i64 x.b.least, .int .i64 x.b.most, .slice x.ca x.b.cuts.length x.cc, .int .i64 x.b.iss, .int .i64 x.b.ass, .slice x.ba x.b.bar.length x.bc]] W (KP (.int .i64 E) W)) := fun W hW => rBasket x.b x.ca x.ba x.cc x.bc W (hx.on hW (Nat.le_refl _)).1 (hx.on hW (Nat.le_refl _)).2 hlc hlb E hE
  have HO : Hid (∀ W, Below w.heap.size w W → Calls Try.prog 40 #[.slice a ys.length cap, .int .i64 x.b.id] W (RwP (ofm ys x.b.id) W)) := fun W hW => rof ys a cap x.b.id W (hr.below hW) (by omega)
  have HR : Hid (Rw 10 bcs w a ys) := hr
  have HS : Hid (Srt (ys.map (·.b))) := hs
  have hz : (ys.length : Int) ≤ 100000 := by omega
  have HOF : Hid ((ofm ys x.b.id).map (·.b) = of (ys.map (·.b)) x.b.id) := ofm_of _ _
  have HOL : Hid ((of (ys.map (·.b)) x.b.id).length = (ofm ys x.b.id).length) := by unfold Hid; rw [← ofm_of, List.length_map]
  have hfl : (ofm ys x.b.id).length ≤ 1000000 := Nat.le_trans (ofm_len _ _) (by omega)
  generalize ofm ys x.b.id = zs at *
  clear hr hs hx hlc hlb hE
  go_enter Try.func17, Try.ntmps17
  go_upto_region 1 with fail
  generalize w.alloc (.cells #[.int .i64 x.b.id, .int .i64 x.b.ver, .string ⟨x.b.cur.toArray⟩, .int .i64 x.b.rat, .int .i64 x.b.least, .int .i64 x.b.most, .slice x.ca x.b.cuts.length x.cc, .int .i64 x.b.iss, .int .i64 x.b.ass, .slice x.ba x.b.bar.length x.bc] 25) = w0 at *
  have c0 : w0.cell? ⟨w.heap.size, 0, none⟩ = some (.int .i64 x.b.id) := HX0.out.cell 0
  have c1 : w0.cell? ⟨w.heap.size, 1, none⟩ = some (.int .i64 x.b.ver) := HX0.out.cell 1
  have c2 : w0.cell? ⟨w.heap.size, 2, none⟩ = some (.string ⟨x.b.cur.toArray⟩) := HX0.out.cell 2
  have c3 : w0.cell? ⟨w.heap.size, 3, none⟩ = some (.int .i64 x.b.rat) := HX0.out.cell 3
  have c4 : w0.cell? ⟨w.heap.size, 4, none⟩ = some (.int .i64 x.b.least) := HX0.out.cell 4
  have c5 : w0.cell? ⟨w.heap.size, 5, none⟩ = some (.int .i64 x.b.most) := HX0.out.cell 5
  have c6 : w0.cell? ⟨w.heap.size, 6, none⟩ = some (.slice x.ca x.b.cuts.length x.cc) := HX0.out.cell 6
  have c7 : w0.cell? ⟨w.heap.size, 7, none⟩ = some (.int .i64 x.b.iss) := HX0.out.cell 7
  have c8 : w0.cell? ⟨w.heap.size, 8, none⟩ = some (.int .i64 x.b.ass) := HX0.out.cell 8
  have c9 : w0.cell? ⟨w.heap.size, 9, none⟩ = some (.slice x.ba x.b.bar.length x.bc) := HX0.out.cell 9
  by_cases hE0 : E = 0
  · have hez : ((E : Int) != 0) = false := by simp [hE0]
    go_wp2_with fail
    refine (HC.out _ HB0.out).mono ?_
    rintro e w1 ⟨rfl, hb⟩
    have HX1 : Hid (Bx w1 w.heap.size #[.int .i64 x.b.id, .int .i64 x.b.ver, .string ⟨x.b.cur.toArray⟩, .int .i64 x.b.rat, .int .i64 x.b.least, .int .i64 x.b.most, .slice x.ca x.b.cuts.length x.cc, .int .i64 x.b.iss, .int .i64 x.b.ass, .slice x.ba x.b.bar.length x.bc] 25) := HX0.out.keep hb.out
    have HB1 : Hid (Below w.heap.size w w1) := HB0.out.trans (hb.out.mono HB0.out.size)
    clear c0 c1 c2 c3 c4 c5 c6 c7 c8 c9 hb HX0 HB0 HC
    have c0 : w1.cell? ⟨w.heap.size, 0, none⟩ = some (.int .i64 x.b.id) := HX1.out.cell 0
    go_wp2_with fail
    refine (HO.out _ HB1.out).mono ?_
    rintro e w2 ⟨v, rfl, HZ⟩
    obtain ⟨a1, c1, hv, _, hrw⟩ := own_rw bcs_len HZ.out.1 rfl
    subst hv
    have HX2 : Hid (Bx w2 w.heap.size #[.int .i64 x.b.id, .int .i64 x.b.ver, .string ⟨x.b.cur.toArray⟩, .int .i64 x.b.rat, .int .i64 x.b.least, .int .i64 x.b.most, .slice x.ca x.b.cuts.length x.cc, .int .i64 x.b.iss, .int .i64 x.b.ass, .slice x.ba x.b.bar.length x.bc] 25) := HX1.out.keep HZ.out.2
    have HB2 : Hid (Below w.heap.size w w2) := HB1.out.trans (HZ.out.2.mono HB1.out.size)
    have HRW : Hid (Rw 10 bcs w2 a1 zs) := hrw
    clear c0 HX1 HB1 HO HZ hrw
    subst hE0
    have d0 : w2.cell? ⟨w.heap.size, 0, none⟩ = some (.int .i64 x.b.id) := HX2.out.cell 0
    have d1 : w2.cell? ⟨w.heap.size, 1, none⟩ = some (.int .i64 x.b.ver) := HX2.out.cell 1
    have d2 : w2.cell? ⟨w.heap.size, 2, none⟩ = some (.string ⟨x.b.cur.toArray⟩) := HX2.out.cell 2
    obtain ⟨n, hn⟩ : ∃ n, zs.length = n := ⟨_, rfl⟩
    have HN : Hid (zs.length = n) := hn
    rw [hn] at hfl ⊢
    rw [hn] at HOL
    have hnz : (n : Int) ≤ 1000000 := by omega
    clear hn
    by_cases k1 : x.b.ver ≠ (n : Int) + 1
    · have kb : (x.b.ver != (n : Int) + 1) = true := by simp [k1]
      have HG : Hid (setE (ys.map (·.b)) x.b 0 = 8) := by unfold Hid setE; rw [if_neg (by simp), if_pos (by rw [HOL.out]; exact k1)]
      go_wp2_with fail
      go_ret2
      exact SrP.no HG.out (by decide) HB2.out
    have k1 : x.b.ver = (n : Int) + 1 := Decidable.of_not_not k1
    have HK1 : Hid (x.b.ver = (n : Int) + 1) := k1
    have kb : (x.b.ver != (n : Int) + 1) = false := by simp [k1]
    clear k1
    have k1 : (1 : Int) ≤ x.b.ver := by have := HK1.out; omega

    by_cases n0 : n = 0
    · have nz : ¬ (0 : Int) < (n : Int) := by omega
      have nzn : ¬ 0 < n := by omega
      have HFR : Hid (frn (ys.map (·.b)) x.b = false) := by
        have := HOL.out
        rw [n0] at this
        unfold Hid frn
        rw [List.eq_nil_of_length_eq_zero this]
      clear n0 HRW HOF
      go_wp2_with fail
      go_quiet (fail)
      obtain ⟨w3, hw3⟩ : ∃ x, x = w2.drewN nq := ⟨_, rfl⟩
      have HB3 : Hid (Below w.heap.size w w3) := by rw [hw3]; exact bdrew HB2.out _
      have HX3 : Hid (Bx w3 w.heap.size #[.int .i64 x.b.id, .int .i64 x.b.ver, .string ⟨x.b.cur.toArray⟩, .int .i64 x.b.rat, .int .i64 x.b.least, .int .i64 x.b.most, .slice x.ca x.b.cuts.length x.cc, .int .i64 x.b.iss, .int .i64 x.b.ass, .slice x.ba x.b.bar.length x.bc] 25) := by rw [hw3]; exact HX2.out
      rw [← hw3]
      clear hw3 HB2 HX2 d0 d1 d2
      by_cases k3 : 64 ≤ n
      · have k3z : (64 : Int) ≤ (n : Int) := by omega
        have HG : Hid (setE (ys.map (·.b)) x.b 0 = 18) := by unfold Hid setE; rw [if_neg (by simp), if_neg (by rw [HOL.out]; exact fun h => h HK1.out), if_neg (by rw [HFR.out]; simp), if_pos (by rw [HOL.out]; exact k3)]
        go_wp2_with fail
        go_ret2
        exact SrP.no HG.out (by decide) HB3.out
      have k3z : ¬ (64 : Int) ≤ (n : Int) := by omega
      have HG0 : Hid (setE (ys.map (·.b)) x.b 0 = 0) := by unfold Hid setE; rw [if_neg (by simp), if_neg (by rw [HOL.out]; exact fun h => h HK1.out), if_neg (by rw [HFR.out]; simp), if_neg (by rw [HOL.out]; exact k3)]
      obtain ⟨p, hp⟩ : ∃ p, p = pos (ys.map (·.b)) x.b := ⟨_, rfl⟩
      have hpl : p ≤ ys.length := by rw [hp]; have := pos_le (ys.map (·.b)) x.b; rw [List.length_map] at this; exact this
      have HPI : Hid (∀ k (h : k < ys.length), x.b.id < ys[k].b.id ↔ p ≤ k) := fun k h => by
        have := pos_iff HS.out x.b k (by rw [List.length_map]; exact h)
        rw [← hp, List.getElem_map] at this
        exact this
      have HFIN : Hid (∀ v w', w'.ownsRow w3.heap.size 25 10 v (insM ys x p).length (rcs bcs (insM ys x p)) → Below w3.heap.size w3 w' → SrP ys x 0 (.slice a ys.length cap) w (.returned (.tuple #[v, .int .i64 0])) w') := fun v w' h1 h2 => ⟨v, insM ys x p, by rw [HG0.out]; rfl, HB3.out.trans (h2.mono HB3.out.size), by unfold setL; rw [if_pos HG0.out, hp]; exact insM_map x HS.out, .inr ⟨own_mono h1 HB3.out.size, fun z hz => insM_mem hz⟩⟩
      have HBX : Hid (∀ W, Below w3.heap.size w3 W → Bx W w.heap.size (bcs x).toArray 25) := fun W hW => HX3.out.keep hW
      have HRR : Hid (Rw 10 bcs w3 a ys) := HR.out.below HB3.out
      clear k3 HG0 HK1 HFR HOL HS HR HX3 HB3 HN hfl hnz hp
      go_wp2_with fail
      clear k3z
      go_loopw [7, 8, 9] (fun v d i wr => ∃ (k : Nat), k ≤ ys.length ∧ i = .int .i64 k ∧ d = .bool (decide (p < k)) ∧ Hid (wr.ownsRow w3.heap.size 25 10 v (outsM ys x p k).length (rcs bcs (outsM ys x p k)) ∧ Below w3.heap.size w3 wr))
        (fun _ _ i _ => ys.length - (intOf i).toNat)
      case atStart => exact ⟨0, Nat.zero_le _, rfl, by simp, by rw [outsM_zero]; exact World.ownsRow_nil _ _ _ _, Below.refl _ _⟩
      case round =>
        obtain ⟨k, hk, rfl, rfl, HZ⟩ := hrel
        by_cases hkn : k < ys.length
        · have hkz : (k : Int) < (ys.length : Int) := by omega
          obtain ⟨blk, off, rfl, hbl, hcs⟩ := HRR.out (by omega)
          have hc := hcs k hkn
          have HOW : Hid (wr.ownsRow w3.heap.size 25 10 u7 (outsM ys x p k).length (rcs bcs (outsM ys x p k))) := HZ.out.1
          have HB : Hid (Below w3.heap.size w3 wr) := HZ.out.2
          have HOL2 : Hid ((outsM ys x p k).length ≤ 100001) := Nat.le_trans (outsM_len _ _ _ _) (by omega)
          have HPK : Hid (x.b.id < ys[k].b.id ↔ p ≤ k) := HPI.out k hkn
          have HTE : Hid (k ≠ p → outsM ys x p k ++ [ys[k]] = outsM ys x p (k + 1)) := fun h => outsM_else hkn h
          have HTH : Hid (k = p → (outsM ys x p k ++ [x]) ++ [ys[k]] = outsM ys x p (k + 1)) := fun h => outsM_here hkn h
          have HLD : Hid (∀ q, Below w3.heap.size w3 q → ∀ j, j < 10 → q.cell? ⟨blk, off + k * 10 + j, none⟩ = (bcs ys[k])[j]?) := fun q hq j hj => (hq.cell (p := ⟨blk, off + k * 10 + j, none⟩) hbl).trans (hc j hj)
          have c0 : wr.cell? ⟨blk, off + k * 10, none⟩ = some (.int .i64 ys[k].b.id) := (HB.out.cell (p := ⟨blk, off + k * 10 + 0, none⟩) hbl).trans (hc 0 (by omega))
          have b0 : wr.cell? ⟨w.heap.size, 0, none⟩ = some (.int .i64 x.b.id) := (HBX.out wr HB.out).cell 0
          generalize ys[k] = y at *
          generalize outsM ys x p k = D at *
          clear hcs hc HZ HRR HPI hpl
          rcases Nat.lt_trichotomy k p with hkp | hkp | hkp
          · have hd : decide (p < k) = false := by simp; omega
            rw [hd]
            have hg : ¬ x.b.id < y.b.id := fun h => by have := HPK.out.1 h; omega
            go_wp2_with fail
            go_quiet (fail)
            obtain ⟨wq, hwq⟩ : ∃ x, x = wr.drewN nq := ⟨_, rfl⟩
            have HBq : Hid (Below w3.heap.size w3 wq) := by rw [hwq]; exact bdrew HB.out _
            have HOq : Hid (wq.ownsRow w3.heap.size 25 10 u7 D.length (rcs bcs D)) := by rw [hwq]; exact HOW.out
            rw [← hwq]
            clear hwq HB HOW c0 b0 hd
            obtain ⟨v4, w4, hr4, ho4, hb4⟩ := jappend y HOq.out (by have := HOL2.out; omega) HBq.out
            have hr4' : (Builtin.append_ #[34, 34] 34 #[u7, .slice (some ⟨wq.heap.size, 0, none⟩) 1 1]).run Try.prog (wq.alloc (.cells #[.int .i64 y.b.id, .int .i64 y.b.ver, .string ⟨y.b.cur.toArray⟩, .int .i64 y.b.rat, .int .i64 y.b.least, .int .i64 y.b.most, .slice y.ca y.b.cuts.length y.cc, .int .i64 y.b.iss, .int .i64 y.b.ass, .slice y.ba y.b.bar.length y.bc] 25)) = .ok v4 w4 := hr4
            have HF : Hid (w4.ownsRow w3.heap.size 25 10 v4 (outsM ys x p (k + 1)).length (rcs bcs (outsM ys x p (k + 1))) ∧ Below w3.heap.size w3 w4) := by rw [← HTE.out (by omega)]; exact ⟨ho4, hb4⟩
            have e0 : wq.cell? ⟨blk, off + k * 10, none⟩ = some (.int .i64 y.b.id) := HLD.out wq HBq.out 0 (by omega)
            have e1 : wq.cell? ⟨blk, off + k * 10 + 1, none⟩ = some (.int .i64 y.b.ver) := HLD.out wq HBq.out 1 (by omega)
            have e2 : wq.cell? ⟨blk, off + k * 10 + 2, none⟩ = some (.string ⟨y.b.cur.toArray⟩) := HLD.out wq HBq.out 2 (by omega)
            have e3 : wq.cell? ⟨blk, off + k * 10 + 3, none⟩ = some (.int .i64 y.b.rat) := HLD.out wq HBq.out 3 (by omega)
            have e4 : wq.cell? ⟨blk, off + k * 10 + 4, none⟩ = some (.int .i64 y.b.least) := HLD.out wq HBq.out 4 (by omega)
            have e5 : wq.cell? ⟨blk, off + k * 10 + 5, none⟩ = some (.int .i64 y.b.most) := HLD.out wq HBq.out 5 (by omega)
            have e6 : wq.cell? ⟨blk, off + k * 10 + 6, none⟩ = some (.slice y.ca y.b.cuts.length y.cc) := HLD.out wq HBq.out 6 (by omega)
            have e7 : wq.cell? ⟨blk, off + k * 10 + 7, none⟩ = some (.int .i64 y.b.iss) := HLD.out wq HBq.out 7 (by omega)
            have e8 : wq.cell? ⟨blk, off + k * 10 + 8, none⟩ = some (.int .i64 y.b.ass) := HLD.out wq HBq.out 8 (by omega)
            have e9 : wq.cell? ⟨blk, off + k * 10 + 9, none⟩ = some (.slice y.ba y.b.bar.length y.bc) := HLD.out wq HBq.out 9 (by omega)
            clear hr4 ho4 hb4 HBq HOq HTE HTH HLD HBX HPK HOL2
            go_wp2_with (at_builtin; refine Lib.wpList_append_run _ rfl _ _ 34 34 rfl _ _ rfl rfl _ w4 hr4' ?_)
            go_roundw
            case rel => exact ⟨k + 1, by omega, by simp, by simp; omega, HF.out⟩
            case measure => simp [intOf]; omega
          · have hd : decide (p < k) = false := by simp; omega
            rw [hd]
            have hg : x.b.id < y.b.id := HPK.out.2 (by omega)
            have HKP : Hid (k = p) := hkp
            clear hkp
            go_wp2_with fail
            go_quiet (fail)
            obtain ⟨wq, hwq⟩ : ∃ x, x = wr.drewN nq := ⟨_, rfl⟩
            have HBq : Hid (Below w3.heap.size w3 wq) := by rw [hwq]; exact bdrew HB.out _
            have HOq : Hid (wq.ownsRow w3.heap.size 25 10 u7 D.length (rcs bcs D)) := by rw [hwq]; exact HOW.out
            rw [← hwq]
            clear hwq HB HOW c0 b0 hd
            obtain ⟨v3, wm, hr3, ho3, hb3⟩ := jappend x HOq.out (by have := HOL2.out; omega) HBq.out
            have hr3' : (Builtin.append_ #[34, 34] 34 #[u7, .slice (some ⟨wq.heap.size, 0, none⟩) 1 1]).run Try.prog (wq.alloc (.cells #[.int .i64 x.b.id, .int .i64 x.b.ver, .string ⟨x.b.cur.toArray⟩, .int .i64 x.b.rat, .int .i64 x.b.least, .int .i64 x.b.most, .slice x.ca x.b.cuts.length x.cc, .int .i64 x.b.iss, .int .i64 x.b.ass, .slice x.ba x.b.bar.length x.bc] 25)) = .ok v3 wm := hr3
            obtain ⟨v4, w4, hr4, ho4, hb4⟩ := jappend y ho3 (by rw [List.length_append]; have := HOL2.out; simp; omega) hb3
            have HR4 : Hid ((Builtin.append_ #[34, 34] 34 #[v3, .slice (some ⟨wm.heap.size, 0, none⟩) 1 1]).run Try.prog (wm.alloc (.cells #[.int .i64 y.b.id, .int .i64 y.b.ver, .string ⟨y.b.cur.toArray⟩, .int .i64 y.b.rat, .int .i64 y.b.least, .int .i64 y.b.most, .slice y.ca y.b.cuts.length y.cc, .int .i64 y.b.iss, .int .i64 y.b.ass, .slice y.ba y.b.bar.length y.bc] 25)) = .ok v4 w4) := hr4
            have HB3 : Hid (Below w3.heap.size w3 wm) := hb3
            have HF : Hid (w4.ownsRow w3.heap.size 25 10 v4 (outsM ys x p (k + 1)).length (rcs bcs (outsM ys x p (k + 1))) ∧ Below w3.heap.size w3 w4) := by rw [← HTH.out HKP.out]; exact ⟨ho4, hb4⟩
            clear hr3 ho3 hb3 hr4 ho4 hb4 HOq HTE HTH HPK HOL2
            have b0 : wq.cell? ⟨w.heap.size, 0, none⟩ = some (.int .i64 x.b.id) := (HBX.out wq HBq.out).cell 0
            have b1 : wq.cell? ⟨w.heap.size, 1, none⟩ = some (.int .i64 x.b.ver) := (HBX.out wq HBq.out).cell 1
            have b2 : wq.cell? ⟨w.heap.size, 2, none⟩ = some (.string ⟨x.b.cur.toArray⟩) := (HBX.out wq HBq.out).cell 2
            have b3 : wq.cell? ⟨w.heap.size, 3, none⟩ = some (.int .i64 x.b.rat) := (HBX.out wq HBq.out).cell 3
            have b4 : wq.cell? ⟨w.heap.size, 4, none⟩ = some (.int .i64 x.b.least) := (HBX.out wq HBq.out).cell 4
            have b5 : wq.cell? ⟨w.heap.size, 5, none⟩ = some (.int .i64 x.b.most) := (HBX.out wq HBq.out).cell 5
            have b6 : wq.cell? ⟨w.heap.size, 6, none⟩ = some (.slice x.ca x.b.cuts.length x.cc) := (HBX.out wq HBq.out).cell 6
            have b7 : wq.cell? ⟨w.heap.size, 7, none⟩ = some (.int .i64 x.b.iss) := (HBX.out wq HBq.out).cell 7
            have b8 : wq.cell? ⟨w.heap.size, 8, none⟩ = some (.int .i64 x.b.ass) := (HBX.out wq HBq.out).cell 8
            have b9 : wq.cell? ⟨w.heap.size, 9, none⟩ = some (.slice x.ba x.b.bar.length x.bc) := (HBX.out wq HBq.out).cell 9
            clear HBq HBX
            go_upto_region 18 with (at_builtin; refine Lib.wpList_append_run _ rfl _ _ 34 34 rfl _ _ rfl rfl _ wm hr3' ?_)
            clear hr3' b0 b1 b2 b3 b4 b5 b6 b7 b8 b9
            have hr4' := HR4.out
            have e0 : wm.cell? ⟨blk, off + k * 10, none⟩ = some (.int .i64 y.b.id) := HLD.out wm HB3.out 0 (by omega)
            have e1 : wm.cell? ⟨blk, off + k * 10 + 1, none⟩ = some (.int .i64 y.b.ver) := HLD.out wm HB3.out 1 (by omega)
            have e2 : wm.cell? ⟨blk, off + k * 10 + 2, none⟩ = some (.string ⟨y.b.cur.toArray⟩) := HLD.out wm HB3.out 2 (by omega)
            have e3 : wm.cell? ⟨blk, off + k * 10 + 3, none⟩ = some (.int .i64 y.b.rat) := HLD.out wm HB3.out 3 (by omega)
            have e4 : wm.cell? ⟨blk, off + k * 10 + 4, none⟩ = some (.int .i64 y.b.least) := HLD.out wm HB3.out 4 (by omega)
            have e5 : wm.cell? ⟨blk, off + k * 10 + 5, none⟩ = some (.int .i64 y.b.most) := HLD.out wm HB3.out 5 (by omega)
            have e6 : wm.cell? ⟨blk, off + k * 10 + 6, none⟩ = some (.slice y.ca y.b.cuts.length y.cc) := HLD.out wm HB3.out 6 (by omega)
            have e7 : wm.cell? ⟨blk, off + k * 10 + 7, none⟩ = some (.int .i64 y.b.iss) := HLD.out wm HB3.out 7 (by omega)
            have e8 : wm.cell? ⟨blk, off + k * 10 + 8, none⟩ = some (.int .i64 y.b.ass) := HLD.out wm HB3.out 8 (by omega)
            have e9 : wm.cell? ⟨blk, off + k * 10 + 9, none⟩ = some (.slice y.ba y.b.bar.length y.bc) := HLD.out wm HB3.out 9 (by omega)
            clear HLD HB3
            go_wp2_with (at_builtin; refine Lib.wpList_append_run _ rfl _ _ 34 34 rfl _ _ rfl rfl _ w4 hr4' ?_)
            go_roundw
            case rel => exact ⟨k + 1, by omega, by simp, by have := HKP.out; simp; omega, HF.out⟩
            case measure => simp [intOf]; omega
          · have hd : decide (p < k) = true := by simp; omega
            rw [hd]
            go_wp2_with fail
            go_quiet (fail)
            obtain ⟨wq, hwq⟩ : ∃ x, x = wr.drewN nq := ⟨_, rfl⟩
            have HBq : Hid (Below w3.heap.size w3 wq) := by rw [hwq]; exact bdrew HB.out _
            have HOq : Hid (wq.ownsRow w3.heap.size 25 10 u7 D.length (rcs bcs D)) := by rw [hwq]; exact HOW.out
            rw [← hwq]
            clear hwq HB HOW c0 b0 hd
            obtain ⟨v4, w4, hr4, ho4, hb4⟩ := jappend y HOq.out (by have := HOL2.out; omega) HBq.out
            have hr4' : (Builtin.append_ #[34, 34] 34 #[u7, .slice (some ⟨wq.heap.size, 0, none⟩) 1 1]).run Try.prog (wq.alloc (.cells #[.int .i64 y.b.id, .int .i64 y.b.ver, .string ⟨y.b.cur.toArray⟩, .int .i64 y.b.rat, .int .i64 y.b.least, .int .i64 y.b.most, .slice y.ca y.b.cuts.length y.cc, .int .i64 y.b.iss, .int .i64 y.b.ass, .slice y.ba y.b.bar.length y.bc] 25)) = .ok v4 w4 := hr4
            have HF : Hid (w4.ownsRow w3.heap.size 25 10 v4 (outsM ys x p (k + 1)).length (rcs bcs (outsM ys x p (k + 1))) ∧ Below w3.heap.size w3 w4) := by rw [← HTE.out (by omega)]; exact ⟨ho4, hb4⟩
            have e0 : wq.cell? ⟨blk, off + k * 10, none⟩ = some (.int .i64 y.b.id) := HLD.out wq HBq.out 0 (by omega)
            have e1 : wq.cell? ⟨blk, off + k * 10 + 1, none⟩ = some (.int .i64 y.b.ver) := HLD.out wq HBq.out 1 (by omega)
            have e2 : wq.cell? ⟨blk, off + k * 10 + 2, none⟩ = some (.string ⟨y.b.cur.toArray⟩) := HLD.out wq HBq.out 2 (by omega)
            have e3 : wq.cell? ⟨blk, off + k * 10 + 3, none⟩ = some (.int .i64 y.b.rat) := HLD.out wq HBq.out 3 (by omega)
            have e4 : wq.cell? ⟨blk, off + k * 10 + 4, none⟩ = some (.int .i64 y.b.least) := HLD.out wq HBq.out 4 (by omega)
            have e5 : wq.cell? ⟨blk, off + k * 10 + 5, none⟩ = some (.int .i64 y.b.most) := HLD.out wq HBq.out 5 (by omega)
            have e6 : wq.cell? ⟨blk, off + k * 10 + 6, none⟩ = some (.slice y.ca y.b.cuts.length y.cc) := HLD.out wq HBq.out 6 (by omega)
            have e7 : wq.cell? ⟨blk, off + k * 10 + 7, none⟩ = some (.int .i64 y.b.iss) := HLD.out wq HBq.out 7 (by omega)
            have e8 : wq.cell? ⟨blk, off + k * 10 + 8, none⟩ = some (.int .i64 y.b.ass) := HLD.out wq HBq.out 8 (by omega)
            have e9 : wq.cell? ⟨blk, off + k * 10 + 9, none⟩ = some (.slice y.ba y.b.bar.length y.bc) := HLD.out wq HBq.out 9 (by omega)
            clear hr4 ho4 hb4 HBq HOq HTE HTH HLD HBX HPK HOL2
            go_wp2_with (at_builtin; refine Lib.wpList_append_run _ rfl _ _ 34 34 rfl _ _ rfl rfl _ w4 hr4' ?_)
            go_roundw
            case rel => exact ⟨k + 1, by omega, by simp, by simp; omega, HF.out⟩
            case measure => simp [intOf]; omega
        · have hkz : ¬ (k : Int) < (ys.length : Int) := by omega
          have hke : k = ys.length := by omega
          by_cases hpk : p < k
          · have hd : decide (p < k) = true := by simp [hpk]
            rw [hd]
            have HF : Hid (SrP ys x 0 (.slice a ys.length cap) w (.returned (.tuple #[u7, .int .i64 0])) wr) := by
              have hz := HZ.out
              rw [hke, outsM_end (by omega)] at hz
              exact HFIN.out _ _ hz.1 hz.2
            clear HZ
            go_wp2_with fail
            go_ret2
            exact HF.out
          · have hd : decide (p < k) = false := by simp; omega
            rw [hd]
            obtain ⟨v3, w3, hr3, ho3, hb3⟩ := jappend x HZ.out.1 (by have := outsM_len ys x p k; omega) HZ.out.2
            have hr3' : (Builtin.append_ #[34, 34] 34 #[u7, .slice (some ⟨wr.heap.size, 0, none⟩) 1 1]).run Try.prog (wr.alloc (.cells #[.int .i64 x.b.id, .int .i64 x.b.ver, .string ⟨x.b.cur.toArray⟩, .int .i64 x.b.rat, .int .i64 x.b.least, .int .i64 x.b.most, .slice x.ca x.b.cuts.length x.cc, .int .i64 x.b.iss, .int .i64 x.b.ass, .slice x.ba x.b.bar.length x.bc] 25)) = .ok v3 w3 := hr3
            have HF : Hid (SrP ys x 0 (.slice a ys.length cap) w (.returned (.tuple #[v3, .int .i64 0])) w3) := by
              rw [hke, outsM_end2 (by omega) (by omega)] at ho3
              exact HFIN.out _ _ ho3 hb3
            have b0 : wr.cell? ⟨w.heap.size, 0, none⟩ = some (.int .i64 x.b.id) := (HBX.out wr HZ.out.2).cell 0
            have b1 : wr.cell? ⟨w.heap.size, 1, none⟩ = some (.int .i64 x.b.ver) := (HBX.out wr HZ.out.2).cell 1
            have b2 : wr.cell? ⟨w.heap.size, 2, none⟩ = some (.string ⟨x.b.cur.toArray⟩) := (HBX.out wr HZ.out.2).cell 2
            have b3 : wr.cell? ⟨w.heap.size, 3, none⟩ = some (.int .i64 x.b.rat) := (HBX.out wr HZ.out.2).cell 3
            have b4 : wr.cell? ⟨w.heap.size, 4, none⟩ = some (.int .i64 x.b.least) := (HBX.out wr HZ.out.2).cell 4
            have b5 : wr.cell? ⟨w.heap.size, 5, none⟩ = some (.int .i64 x.b.most) := (HBX.out wr HZ.out.2).cell 5
            have b6 : wr.cell? ⟨w.heap.size, 6, none⟩ = some (.slice x.ca x.b.cuts.length x.cc) := (HBX.out wr HZ.out.2).cell 6
            have b7 : wr.cell? ⟨w.heap.size, 7, none⟩ = some (.int .i64 x.b.iss) := (HBX.out wr HZ.out.2).cell 7
            have b8 : wr.cell? ⟨w.heap.size, 8, none⟩ = some (.int .i64 x.b.ass) := (HBX.out wr HZ.out.2).cell 8
            have b9 : wr.cell? ⟨w.heap.size, 9, none⟩ = some (.slice x.ba x.b.bar.length x.bc) := (HBX.out wr HZ.out.2).cell 9
            clear hr3 ho3 hb3 HZ HFIN HBX hke hpk
            go_wp2_with (at_builtin; refine Lib.wpList_append_run _ rfl _ _ 34 34 rfl _ _ rfl rfl _ w3 hr3' ?_)
            go_ret2
            exact HF.out
    · have nz : (0 : Int) < (n : Int) := by omega
      have nzn : 0 < n := by omega
      have hzn : 0 < zs.length := by have := HN.out; omega
      obtain ⟨blk, off, rfl, hbl, hcs⟩ := HRW.out hzn
      have hx0 := hcs 0 hzn 2 (by omega)
      have HC0 : Hid ((of (ys.map (·.b)) x.b.id).head? = some zs[0].b) := by
        unfold Hid
        rw [← HOF.out, List.head?_map, List.head?_eq_getElem?, List.getElem?_eq_getElem hzn]
        rfl
      generalize zs[0] = z0 at *
      have f2 : w2.cell? ⟨blk, off + 2, none⟩ = some (.string ⟨z0.b.cur.toArray⟩) := by
        rw [Nat.zero_mul, Nat.add_zero] at hx0
        exact hx0
      obtain ⟨g, hg⟩ : ∃ g, g = frn (ys.map (·.b)) x.b := ⟨_, rfl⟩
      have hgc : ((⟨z0.b.cur.toArray⟩ : ByteArray).toList != (⟨x.b.cur.toArray⟩ : ByteArray).toList) = g := by
        rw [hg, toL, toL]
        have := HC0.out
        unfold frn
        cases he : of (ys.map (·.b)) x.b.id with
        | nil => rw [he] at this; cases this
        | cons c l =>
          rw [he] at this
          injection this with this
          rw [this]
          simp only [bne]
          congr 1
          exact Bool.beq_comm ..
      have HFR : Hid (frn (ys.map (·.b)) x.b = g) := hg.symm
      obtain ⟨sx, hsx⟩ : ∃ s, s = (⟨x.b.cur.toArray⟩ : ByteArray) := ⟨_, rfl⟩
      obtain ⟨s0, hs0⟩ : ∃ s, s = (⟨z0.b.cur.toArray⟩ : ByteArray) := ⟨_, rfl⟩
      rw [← hsx, ← hs0] at hgc
      rw [← hsx] at d2
      rw [← hs0] at f2
      clear hg hx0 hcs HC0 hsx hs0 n0 HRW HOF
      go_wp2_with fail
      cases g with
      | true =>
        have hge : (s0.toList == sx.toList) = false := by simpa [bne] using hgc
        have HG : Hid (setE (ys.map (·.b)) x.b 0 = 1) := by unfold Hid setE; rw [if_neg (by simp), if_neg (by rw [HOL.out]; exact fun h => h HK1.out), if_pos HFR.out]
        go_quiet (fail)
        go_wp2_with fail
        go_ret2
        exact SrP.no HG.out (by decide) (bdrew HB2.out _)
      | false =>
        have hge : (s0.toList == sx.toList) = true := by simpa [bne] using hgc
        go_quiet (fail)
        obtain ⟨w3, hw3⟩ : ∃ x, x = w2.drewN nq := ⟨_, rfl⟩
        have HB3 : Hid (Below w.heap.size w w3) := by rw [hw3]; exact bdrew HB2.out _
        have HX3 : Hid (Bx w3 w.heap.size #[.int .i64 x.b.id, .int .i64 x.b.ver, .string ⟨x.b.cur.toArray⟩, .int .i64 x.b.rat, .int .i64 x.b.least, .int .i64 x.b.most, .slice x.ca x.b.cuts.length x.cc, .int .i64 x.b.iss, .int .i64 x.b.ass, .slice x.ba x.b.bar.length x.bc] 25) := by rw [hw3]; exact HX2.out
        rw [← hw3]
        clear hw3 HB2 HX2 d0 d1 d2
        clear f2 hgc hge
        by_cases k3 : 64 ≤ n
        · have k3z : (64 : Int) ≤ (n : Int) := by omega
          have HG : Hid (setE (ys.map (·.b)) x.b 0 = 18) := by unfold Hid setE; rw [if_neg (by simp), if_neg (by rw [HOL.out]; exact fun h => h HK1.out), if_neg (by rw [HFR.out]; simp), if_pos (by rw [HOL.out]; exact k3)]
          go_wp2_with fail
          go_ret2
          exact SrP.no HG.out (by decide) HB3.out
        have k3z : ¬ (64 : Int) ≤ (n : Int) := by omega
        have HG0 : Hid (setE (ys.map (·.b)) x.b 0 = 0) := by unfold Hid setE; rw [if_neg (by simp), if_neg (by rw [HOL.out]; exact fun h => h HK1.out), if_neg (by rw [HFR.out]; simp), if_neg (by rw [HOL.out]; exact k3)]
        obtain ⟨p, hp⟩ : ∃ p, p = pos (ys.map (·.b)) x.b := ⟨_, rfl⟩
        have hpl : p ≤ ys.length := by rw [hp]; have := pos_le (ys.map (·.b)) x.b; rw [List.length_map] at this; exact this
        have HPI : Hid (∀ k (h : k < ys.length), x.b.id < ys[k].b.id ↔ p ≤ k) := fun k h => by
          have := pos_iff HS.out x.b k (by rw [List.length_map]; exact h)
          rw [← hp, List.getElem_map] at this
          exact this
        have HFIN : Hid (∀ v w', w'.ownsRow w3.heap.size 25 10 v (insM ys x p).length (rcs bcs (insM ys x p)) → Below w3.heap.size w3 w' → SrP ys x 0 (.slice a ys.length cap) w (.returned (.tuple #[v, .int .i64 0])) w') := fun v w' h1 h2 => ⟨v, insM ys x p, by rw [HG0.out]; rfl, HB3.out.trans (h2.mono HB3.out.size), by unfold setL; rw [if_pos HG0.out, hp]; exact insM_map x HS.out, .inr ⟨own_mono h1 HB3.out.size, fun z hz => insM_mem hz⟩⟩
        have HBX : Hid (∀ W, Below w3.heap.size w3 W → Bx W w.heap.size (bcs x).toArray 25) := fun W hW => HX3.out.keep hW
        have HRR : Hid (Rw 10 bcs w3 a ys) := HR.out.below HB3.out
        clear k3 HG0 HK1 HFR HOL HS HR HX3 HB3 HN hfl hnz hp
        go_wp2_with fail
        clear k3z
        go_loopw [7, 8, 9] (fun v d i wr => ∃ (k : Nat), k ≤ ys.length ∧ i = .int .i64 k ∧ d = .bool (decide (p < k)) ∧ Hid (wr.ownsRow w3.heap.size 25 10 v (outsM ys x p k).length (rcs bcs (outsM ys x p k)) ∧ Below w3.heap.size w3 wr))
          (fun _ _ i _ => ys.length - (intOf i).toNat)
        case atStart => exact ⟨0, Nat.zero_le _, rfl, by simp, by rw [outsM_zero]; exact World.ownsRow_nil _ _ _ _, Below.refl _ _⟩
        case round =>
          obtain ⟨k, hk, rfl, rfl, HZ⟩ := hrel
          by_cases hkn : k < ys.length
          · have hkz : (k : Int) < (ys.length : Int) := by omega
            obtain ⟨blk, off, rfl, hbl, hcs⟩ := HRR.out (by omega)
            have hc := hcs k hkn
            have HOW : Hid (wr.ownsRow w3.heap.size 25 10 u7 (outsM ys x p k).length (rcs bcs (outsM ys x p k))) := HZ.out.1
            have HB : Hid (Below w3.heap.size w3 wr) := HZ.out.2
            have HOL2 : Hid ((outsM ys x p k).length ≤ 100001) := Nat.le_trans (outsM_len _ _ _ _) (by omega)
            have HPK : Hid (x.b.id < ys[k].b.id ↔ p ≤ k) := HPI.out k hkn
            have HTE : Hid (k ≠ p → outsM ys x p k ++ [ys[k]] = outsM ys x p (k + 1)) := fun h => outsM_else hkn h
            have HTH : Hid (k = p → (outsM ys x p k ++ [x]) ++ [ys[k]] = outsM ys x p (k + 1)) := fun h => outsM_here hkn h
            have HLD : Hid (∀ q, Below w3.heap.size w3 q → ∀ j, j < 10 → q.cell? ⟨blk, off + k * 10 + j, none⟩ = (bcs ys[k])[j]?) := fun q hq j hj => (hq.cell (p := ⟨blk, off + k * 10 + j, none⟩) hbl).trans (hc j hj)
            have c0 : wr.cell? ⟨blk, off + k * 10, none⟩ = some (.int .i64 ys[k].b.id) := (HB.out.cell (p := ⟨blk, off + k * 10 + 0, none⟩) hbl).trans (hc 0 (by omega))
            have b0 : wr.cell? ⟨w.heap.size, 0, none⟩ = some (.int .i64 x.b.id) := (HBX.out wr HB.out).cell 0
            generalize ys[k] = y at *
            generalize outsM ys x p k = D at *
            clear hcs hc HZ HRR HPI hpl
            rcases Nat.lt_trichotomy k p with hkp | hkp | hkp
            · have hd : decide (p < k) = false := by simp; omega
              rw [hd]
              have hg : ¬ x.b.id < y.b.id := fun h => by have := HPK.out.1 h; omega
              go_wp2_with fail
              go_quiet (fail)
              obtain ⟨wq, hwq⟩ : ∃ x, x = wr.drewN nq := ⟨_, rfl⟩
              have HBq : Hid (Below w3.heap.size w3 wq) := by rw [hwq]; exact bdrew HB.out _
              have HOq : Hid (wq.ownsRow w3.heap.size 25 10 u7 D.length (rcs bcs D)) := by rw [hwq]; exact HOW.out
              rw [← hwq]
              clear hwq HB HOW c0 b0 hd
              obtain ⟨v4, w4, hr4, ho4, hb4⟩ := jappend y HOq.out (by have := HOL2.out; omega) HBq.out
              have hr4' : (Builtin.append_ #[34, 34] 34 #[u7, .slice (some ⟨wq.heap.size, 0, none⟩) 1 1]).run Try.prog (wq.alloc (.cells #[.int .i64 y.b.id, .int .i64 y.b.ver, .string ⟨y.b.cur.toArray⟩, .int .i64 y.b.rat, .int .i64 y.b.least, .int .i64 y.b.most, .slice y.ca y.b.cuts.length y.cc, .int .i64 y.b.iss, .int .i64 y.b.ass, .slice y.ba y.b.bar.length y.bc] 25)) = .ok v4 w4 := hr4
              have HF : Hid (w4.ownsRow w3.heap.size 25 10 v4 (outsM ys x p (k + 1)).length (rcs bcs (outsM ys x p (k + 1))) ∧ Below w3.heap.size w3 w4) := by rw [← HTE.out (by omega)]; exact ⟨ho4, hb4⟩
              have e0 : wq.cell? ⟨blk, off + k * 10, none⟩ = some (.int .i64 y.b.id) := HLD.out wq HBq.out 0 (by omega)
              have e1 : wq.cell? ⟨blk, off + k * 10 + 1, none⟩ = some (.int .i64 y.b.ver) := HLD.out wq HBq.out 1 (by omega)
              have e2 : wq.cell? ⟨blk, off + k * 10 + 2, none⟩ = some (.string ⟨y.b.cur.toArray⟩) := HLD.out wq HBq.out 2 (by omega)
              have e3 : wq.cell? ⟨blk, off + k * 10 + 3, none⟩ = some (.int .i64 y.b.rat) := HLD.out wq HBq.out 3 (by omega)
              have e4 : wq.cell? ⟨blk, off + k * 10 + 4, none⟩ = some (.int .i64 y.b.least) := HLD.out wq HBq.out 4 (by omega)
              have e5 : wq.cell? ⟨blk, off + k * 10 + 5, none⟩ = some (.int .i64 y.b.most) := HLD.out wq HBq.out 5 (by omega)
              have e6 : wq.cell? ⟨blk, off + k * 10 + 6, none⟩ = some (.slice y.ca y.b.cuts.length y.cc) := HLD.out wq HBq.out 6 (by omega)
              have e7 : wq.cell? ⟨blk, off + k * 10 + 7, none⟩ = some (.int .i64 y.b.iss) := HLD.out wq HBq.out 7 (by omega)
              have e8 : wq.cell? ⟨blk, off + k * 10 + 8, none⟩ = some (.int .i64 y.b.ass) := HLD.out wq HBq.out 8 (by omega)
              have e9 : wq.cell? ⟨blk, off + k * 10 + 9, none⟩ = some (.slice y.ba y.b.bar.length y.bc) := HLD.out wq HBq.out 9 (by omega)
              clear hr4 ho4 hb4 HBq HOq HTE HTH HLD HBX HPK HOL2
              go_wp2_with (at_builtin; refine Lib.wpList_append_run _ rfl _ _ 34 34 rfl _ _ rfl rfl _ w4 hr4' ?_)
              go_roundw
              case rel => exact ⟨k + 1, by omega, by simp, by simp; omega, HF.out⟩
              case measure => simp [intOf]; omega
            · have hd : decide (p < k) = false := by simp; omega
              rw [hd]
              have hg : x.b.id < y.b.id := HPK.out.2 (by omega)
              have HKP : Hid (k = p) := hkp
              clear hkp
              go_wp2_with fail
              go_quiet (fail)
              obtain ⟨wq, hwq⟩ : ∃ x, x = wr.drewN nq := ⟨_, rfl⟩
              have HBq : Hid (Below w3.heap.size w3 wq) := by rw [hwq]; exact bdrew HB.out _
              have HOq : Hid (wq.ownsRow w3.heap.size 25 10 u7 D.length (rcs bcs D)) := by rw [hwq]; exact HOW.out
              rw [← hwq]
              clear hwq HB HOW c0 b0 hd
              obtain ⟨v3, wm, hr3, ho3, hb3⟩ := jappend x HOq.out (by have := HOL2.out; omega) HBq.out
              have hr3' : (Builtin.append_ #[34, 34] 34 #[u7, .slice (some ⟨wq.heap.size, 0, none⟩) 1 1]).run Try.prog (wq.alloc (.cells #[.int .i64 x.b.id, .int .i64 x.b.ver, .string ⟨x.b.cur.toArray⟩, .int .i64 x.b.rat, .int .i64 x.b.least, .int .i64 x.b.most, .slice x.ca x.b.cuts.length x.cc, .int .i64 x.b.iss, .int .i64 x.b.ass, .slice x.ba x.b.bar.length x.bc] 25)) = .ok v3 wm := hr3
              obtain ⟨v4, w4, hr4, ho4, hb4⟩ := jappend y ho3 (by rw [List.length_append]; have := HOL2.out; simp; omega) hb3
              have HR4 : Hid ((Builtin.append_ #[34, 34] 34 #[v3, .slice (some ⟨wm.heap.size, 0, none⟩) 1 1]).run Try.prog (wm.alloc (.cells #[.int .i64 y.b.id, .int .i64 y.b.ver, .string ⟨y.b.cur.toArray⟩, .int .i64 y.b.rat, .int .i64 y.b.least, .int .i64 y.b.most, .slice y.ca y.b.cuts.length y.cc, .int .i64 y.b.iss, .int .i64 y.b.ass, .slice y.ba y.b.bar.length y.bc] 25)) = .ok v4 w4) := hr4
              have HB3 : Hid (Below w3.heap.size w3 wm) := hb3
              have HF : Hid (w4.ownsRow w3.heap.size 25 10 v4 (outsM ys x p (k + 1)).length (rcs bcs (outsM ys x p (k + 1))) ∧ Below w3.heap.size w3 w4) := by rw [← HTH.out HKP.out]; exact ⟨ho4, hb4⟩
              clear hr3 ho3 hb3 hr4 ho4 hb4 HOq HTE HTH HPK HOL2
              have b0 : wq.cell? ⟨w.heap.size, 0, none⟩ = some (.int .i64 x.b.id) := (HBX.out wq HBq.out).cell 0
              have b1 : wq.cell? ⟨w.heap.size, 1, none⟩ = some (.int .i64 x.b.ver) := (HBX.out wq HBq.out).cell 1
              have b2 : wq.cell? ⟨w.heap.size, 2, none⟩ = some (.string ⟨x.b.cur.toArray⟩) := (HBX.out wq HBq.out).cell 2
              have b3 : wq.cell? ⟨w.heap.size, 3, none⟩ = some (.int .i64 x.b.rat) := (HBX.out wq HBq.out).cell 3
              have b4 : wq.cell? ⟨w.heap.size, 4, none⟩ = some (.int .i64 x.b.least) := (HBX.out wq HBq.out).cell 4
              have b5 : wq.cell? ⟨w.heap.size, 5, none⟩ = some (.int .i64 x.b.most) := (HBX.out wq HBq.out).cell 5
              have b6 : wq.cell? ⟨w.heap.size, 6, none⟩ = some (.slice x.ca x.b.cuts.length x.cc) := (HBX.out wq HBq.out).cell 6
              have b7 : wq.cell? ⟨w.heap.size, 7, none⟩ = some (.int .i64 x.b.iss) := (HBX.out wq HBq.out).cell 7
              have b8 : wq.cell? ⟨w.heap.size, 8, none⟩ = some (.int .i64 x.b.ass) := (HBX.out wq HBq.out).cell 8
              have b9 : wq.cell? ⟨w.heap.size, 9, none⟩ = some (.slice x.ba x.b.bar.length x.bc) := (HBX.out wq HBq.out).cell 9
              clear HBq HBX
              go_upto_region 18 with (at_builtin; refine Lib.wpList_append_run _ rfl _ _ 34 34 rfl _ _ rfl rfl _ wm hr3' ?_)
              clear hr3' b0 b1 b2 b3 b4 b5 b6 b7 b8 b9
              have hr4' := HR4.out
              have e0 : wm.cell? ⟨blk, off + k * 10, none⟩ = some (.int .i64 y.b.id) := HLD.out wm HB3.out 0 (by omega)
              have e1 : wm.cell? ⟨blk, off + k * 10 + 1, none⟩ = some (.int .i64 y.b.ver) := HLD.out wm HB3.out 1 (by omega)
              have e2 : wm.cell? ⟨blk, off + k * 10 + 2, none⟩ = some (.string ⟨y.b.cur.toArray⟩) := HLD.out wm HB3.out 2 (by omega)
              have e3 : wm.cell? ⟨blk, off + k * 10 + 3, none⟩ = some (.int .i64 y.b.rat) := HLD.out wm HB3.out 3 (by omega)
              have e4 : wm.cell? ⟨blk, off + k * 10 + 4, none⟩ = some (.int .i64 y.b.least) := HLD.out wm HB3.out 4 (by omega)
              have e5 : wm.cell? ⟨blk, off + k * 10 + 5, none⟩ = some (.int .i64 y.b.most) := HLD.out wm HB3.out 5 (by omega)
              have e6 : wm.cell? ⟨blk, off + k * 10 + 6, none⟩ = some (.slice y.ca y.b.cuts.length y.cc) := HLD.out wm HB3.out 6 (by omega)
              have e7 : wm.cell? ⟨blk, off + k * 10 + 7, none⟩ = some (.int .i64 y.b.iss) := HLD.out wm HB3.out 7 (by omega)
              have e8 : wm.cell? ⟨blk, off + k * 10 + 8, none⟩ = some (.int .i64 y.b.ass) := HLD.out wm HB3.out 8 (by omega)
              have e9 : wm.cell? ⟨blk, off + k * 10 + 9, none⟩ = some (.slice y.ba y.b.bar.length y.bc) := HLD.out wm HB3.out 9 (by omega)
              clear HLD HB3
              go_wp2_with (at_builtin; refine Lib.wpList_append_run _ rfl _ _ 34 34 rfl _ _ rfl rfl _ w4 hr4' ?_)
              go_roundw
              case rel => exact ⟨k + 1, by omega, by simp, by have := HKP.out; simp; omega, HF.out⟩
              case measure => simp [intOf]; omega
            · have hd : decide (p < k) = true := by simp; omega
              rw [hd]
              go_wp2_with fail
              go_quiet (fail)
              obtain ⟨wq, hwq⟩ : ∃ x, x = wr.drewN nq := ⟨_, rfl⟩
              have HBq : Hid (Below w3.heap.size w3 wq) := by rw [hwq]; exact bdrew HB.out _
              have HOq : Hid (wq.ownsRow w3.heap.size 25 10 u7 D.length (rcs bcs D)) := by rw [hwq]; exact HOW.out
              rw [← hwq]
              clear hwq HB HOW c0 b0 hd
              obtain ⟨v4, w4, hr4, ho4, hb4⟩ := jappend y HOq.out (by have := HOL2.out; omega) HBq.out
              have hr4' : (Builtin.append_ #[34, 34] 34 #[u7, .slice (some ⟨wq.heap.size, 0, none⟩) 1 1]).run Try.prog (wq.alloc (.cells #[.int .i64 y.b.id, .int .i64 y.b.ver, .string ⟨y.b.cur.toArray⟩, .int .i64 y.b.rat, .int .i64 y.b.least, .int .i64 y.b.most, .slice y.ca y.b.cuts.length y.cc, .int .i64 y.b.iss, .int .i64 y.b.ass, .slice y.ba y.b.bar.length y.bc] 25)) = .ok v4 w4 := hr4
              have HF : Hid (w4.ownsRow w3.heap.size 25 10 v4 (outsM ys x p (k + 1)).length (rcs bcs (outsM ys x p (k + 1))) ∧ Below w3.heap.size w3 w4) := by rw [← HTE.out (by omega)]; exact ⟨ho4, hb4⟩
              have e0 : wq.cell? ⟨blk, off + k * 10, none⟩ = some (.int .i64 y.b.id) := HLD.out wq HBq.out 0 (by omega)
              have e1 : wq.cell? ⟨blk, off + k * 10 + 1, none⟩ = some (.int .i64 y.b.ver) := HLD.out wq HBq.out 1 (by omega)
              have e2 : wq.cell? ⟨blk, off + k * 10 + 2, none⟩ = some (.string ⟨y.b.cur.toArray⟩) := HLD.out wq HBq.out 2 (by omega)
              have e3 : wq.cell? ⟨blk, off + k * 10 + 3, none⟩ = some (.int .i64 y.b.rat) := HLD.out wq HBq.out 3 (by omega)
              have e4 : wq.cell? ⟨blk, off + k * 10 + 4, none⟩ = some (.int .i64 y.b.least) := HLD.out wq HBq.out 4 (by omega)
              have e5 : wq.cell? ⟨blk, off + k * 10 + 5, none⟩ = some (.int .i64 y.b.most) := HLD.out wq HBq.out 5 (by omega)
              have e6 : wq.cell? ⟨blk, off + k * 10 + 6, none⟩ = some (.slice y.ca y.b.cuts.length y.cc) := HLD.out wq HBq.out 6 (by omega)
              have e7 : wq.cell? ⟨blk, off + k * 10 + 7, none⟩ = some (.int .i64 y.b.iss) := HLD.out wq HBq.out 7 (by omega)
              have e8 : wq.cell? ⟨blk, off + k * 10 + 8, none⟩ = some (.int .i64 y.b.ass) := HLD.out wq HBq.out 8 (by omega)
              have e9 : wq.cell? ⟨blk, off + k * 10 + 9, none⟩ = some (.slice y.ba y.b.bar.length y.bc) := HLD.out wq HBq.out 9 (by omega)
              clear hr4 ho4 hb4 HBq HOq HTE HTH HLD HBX HPK HOL2
              go_wp2_with (at_builtin; refine Lib.wpList_append_run _ rfl _ _ 34 34 rfl _ _ rfl rfl _ w4 hr4' ?_)
              go_roundw
              case rel => exact ⟨k + 1, by omega, by simp, by simp; omega, HF.out⟩
              case measure => simp [intOf]; omega
          · have hkz : ¬ (k : Int) < (ys.length : Int) := by omega
            have hke : k = ys.length := by omega
            by_cases hpk : p < k
            · have hd : decide (p < k) = true := by simp [hpk]
              rw [hd]
              have HF : Hid (SrP ys x 0 (.slice a ys.length cap) w (.returned (.tuple #[u7, .int .i64 0])) wr) := by
                have hz := HZ.out
                rw [hke, outsM_end (by omega)] at hz
                exact HFIN.out _ _ hz.1 hz.2
              clear HZ
              go_wp2_with fail
              go_ret2
              exact HF.out
            · have hd : decide (p < k) = false := by simp; omega
              rw [hd]
              obtain ⟨v3, w3, hr3, ho3, hb3⟩ := jappend x HZ.out.1 (by have := outsM_len ys x p k; omega) HZ.out.2
              have hr3' : (Builtin.append_ #[34, 34] 34 #[u7, .slice (some ⟨wr.heap.size, 0, none⟩) 1 1]).run Try.prog (wr.alloc (.cells #[.int .i64 x.b.id, .int .i64 x.b.ver, .string ⟨x.b.cur.toArray⟩, .int .i64 x.b.rat, .int .i64 x.b.least, .int .i64 x.b.most, .slice x.ca x.b.cuts.length x.cc, .int .i64 x.b.iss, .int .i64 x.b.ass, .slice x.ba x.b.bar.length x.bc] 25)) = .ok v3 w3 := hr3
              have HF : Hid (SrP ys x 0 (.slice a ys.length cap) w (.returned (.tuple #[v3, .int .i64 0])) w3) := by
                rw [hke, outsM_end2 (by omega) (by omega)] at ho3
                exact HFIN.out _ _ ho3 hb3
              have b0 : wr.cell? ⟨w.heap.size, 0, none⟩ = some (.int .i64 x.b.id) := (HBX.out wr HZ.out.2).cell 0
              have b1 : wr.cell? ⟨w.heap.size, 1, none⟩ = some (.int .i64 x.b.ver) := (HBX.out wr HZ.out.2).cell 1
              have b2 : wr.cell? ⟨w.heap.size, 2, none⟩ = some (.string ⟨x.b.cur.toArray⟩) := (HBX.out wr HZ.out.2).cell 2
              have b3 : wr.cell? ⟨w.heap.size, 3, none⟩ = some (.int .i64 x.b.rat) := (HBX.out wr HZ.out.2).cell 3
              have b4 : wr.cell? ⟨w.heap.size, 4, none⟩ = some (.int .i64 x.b.least) := (HBX.out wr HZ.out.2).cell 4
              have b5 : wr.cell? ⟨w.heap.size, 5, none⟩ = some (.int .i64 x.b.most) := (HBX.out wr HZ.out.2).cell 5
              have b6 : wr.cell? ⟨w.heap.size, 6, none⟩ = some (.slice x.ca x.b.cuts.length x.cc) := (HBX.out wr HZ.out.2).cell 6
              have b7 : wr.cell? ⟨w.heap.size, 7, none⟩ = some (.int .i64 x.b.iss) := (HBX.out wr HZ.out.2).cell 7
              have b8 : wr.cell? ⟨w.heap.size, 8, none⟩ = some (.int .i64 x.b.ass) := (HBX.out wr HZ.out.2).cell 8
              have b9 : wr.cell? ⟨w.heap.size, 9, none⟩ = some (.slice x.ba x.b.bar.length x.bc) := (HBX.out wr HZ.out.2).cell 9
              clear hr3 ho3 hb3 HZ HFIN HBX hke hpk
              go_wp2_with (at_builtin; refine Lib.wpList_append_run _ rfl _ _ 34 34 rfl _ _ rfl rfl _ w3 hr3' ?_)
              go_ret2
              exact HF.out
  · have hen : ((E : Int) != 0) = true := by simp [hE0]
    have HG : Hid (setE (ys.map (·.b)) x.b E = E) := by unfold Hid setE; rw [if_pos hE0]
    have HE2 : Hid (E ≠ 0) := hE0
    go_wp2_with fail
    refine (HC.out _ HB0.out).mono ?_
    rintro e w1 ⟨rfl, hb⟩
    have HX1 : Hid (Bx w1 w.heap.size #[.int .i64 x.b.id, .int .i64 x.b.ver, .string ⟨x.b.cur.toArray⟩, .int .i64 x.b.rat, .int .i64 x.b.least, .int .i64 x.b.most, .slice x.ca x.b.cuts.length x.cc, .int .i64 x.b.iss, .int .i64 x.b.ass, .slice x.ba x.b.bar.length x.bc] 25) := HX0.out.keep hb.out
    have HB1 : Hid (Below w.heap.size w w1) := HB0.out.trans (hb.out.mono HB0.out.size)
    clear c0 c1 c2 c3 c4 c5 c6 c7 c8 c9 hb HX0 HB0
    have c0 : w1.cell? ⟨w.heap.size, 0, none⟩ = some (.int .i64 x.b.id) := HX1.out.cell 0
    have c1 : w1.cell? ⟨w.heap.size, 1, none⟩ = some (.int .i64 x.b.ver) := HX1.out.cell 1
    have c2 : w1.cell? ⟨w.heap.size, 2, none⟩ = some (.string ⟨x.b.cur.toArray⟩) := HX1.out.cell 2
    have c3 : w1.cell? ⟨w.heap.size, 3, none⟩ = some (.int .i64 x.b.rat) := HX1.out.cell 3
    have c4 : w1.cell? ⟨w.heap.size, 4, none⟩ = some (.int .i64 x.b.least) := HX1.out.cell 4
    have c5 : w1.cell? ⟨w.heap.size, 5, none⟩ = some (.int .i64 x.b.most) := HX1.out.cell 5
    have c6 : w1.cell? ⟨w.heap.size, 6, none⟩ = some (.slice x.ca x.b.cuts.length x.cc) := HX1.out.cell 6
    have c7 : w1.cell? ⟨w.heap.size, 7, none⟩ = some (.int .i64 x.b.iss) := HX1.out.cell 7
    have c8 : w1.cell? ⟨w.heap.size, 8, none⟩ = some (.int .i64 x.b.ass) := HX1.out.cell 8
    have c9 : w1.cell? ⟨w.heap.size, 9, none⟩ = some (.slice x.ba x.b.bar.length x.bc) := HX1.out.cell 9
    go_wp2_with fail
    refine (HC.out _ HB1.out).mono ?_
    rintro e w2 ⟨rfl, hb⟩
    have HB2 : Hid (Below w.heap.size w w2) := HB1.out.trans (hb.out.mono HB1.out.size)
    clear hb HB1 HX1
    go_wp2_with fail
    go_ret2
    exact SrP.no HG.out HE2.out HB2.out
end Go.Proofs.Ytmjaijpikbdfkaa
