/- layer 13: Add of the program's -/
import Derived.Test.YtheikjjehidagaaEG
import Derived.Test.YtheikjjehidagaaV3
import Derived.WalkKit
import Derived.ProofKit
import Derived.Handy
import Derived.WalkLawsBesides
import Derived.WalkSpells
import Derived.BigQuiet
import Derived.BigCall
import Derived.Deep.QuietTactic
import Derived.Deep.Light
import Derived.Deep.OwnRows
import Derived.Laws.AppendOwnNone
import Derived.Laws.Strings3
import Derived.Laws.RangeAny
import Derived.Deep.RegionWith
import Derived.Lib.BitFns
import Derived.Lib.Walk
import Derived.Lib.Strings
import Derived.Lib.OthersKept
import Derived.Deep.CutBlock
import Derived.Deep.DeepCutAuto
import Derived.Deep.LoopGhost
import Derived.Deep.RegionHeld3
import Derived.Lib.SmallJoins
import Derived.Maps.AppendAt
import Derived.Laws.IdiomStrings
import Derived.Lib.AppendZeros
import Derived.Deep.WholeRow
import Derived.Laws.BitsAllLaws
import Derived.Lib.ConvBytes
import Derived.Deep.RegionLaw
import Derived.Maps.OwnSet
import Derived.Maps.OwnOps
import Derived.Maps.RangeWalk
import Derived.Maps.Ext
import Derived.DeepKeys4
import Derived.Laws.StructEq
import Derived.Deep.MidRow
import Derived.Lib.Bytealg
import Derived.Lib.Overlaps
import Derived.Lib.AppendZerosOnto
import Derived.Laws.MakeOwn
import Derived.Shelf.Spec.SlicesInsert
namespace Go.Proofs.Ytheikjjehidagaa.H5
open Go.RowKit
set_option linter.unusedVariables false
set_option linter.unusedSimpArgs false
open Num
set_option maxRecDepth 20000
theorem step_call {P : Program} (w : World) {ops : Array Oper} {o : Oper} {a : Act} {K : Act → World → Prop} {Q : Exit → Act → World → Prop} {E : Prop} (hgd : o.guard = none) (f : FuncId) (args : Array Value)
    (hrun : (execOp a.eval o).run P w = .ok (.enter f args) w) (R : Value → World → Prop) (hc : Calls P f args w fun e w' => ∃ v, e = .returned v ∧ R v w') (h : ∀ v w', R v w' → K (a.put o.dst v) w') :
    if Region.wanted o (yielded ops a.tmps) = true then Oper.wp P o a w K Q else E := by
  have hw : Region.wanted o (yielded ops a.tmps) = true := by simp [Region.wanted, hgd]
  rw [if_pos hw]
  unfold Oper.wp
  rw [hrun, Oper.upon_enter]
  refine hc.mono fun e w' hh => ?_
  obtain ⟨v, rfl, hr⟩ := hh
  exact h v w' hr
def eA (a : As) : Nat := N5.astE (N5.chk a.i.data.toList) (N5.Cur a.c.toList) a.iss a.rat a.mat
theorem eA_ok {a : As} (h : eA a = 0) : a.i.size ≤ 12 ∧ a.c.size ≤ 3 ∧ 0 ≤ a.mat ∧ a.mat ≤ 200000 := by
  unfold eA N5.astE at h
  split at h
  · omega
  · rename_i h2
    split at h
    · cases h
    · rename_i h3
      split at h
      · cases h
      · split at h
        · cases h
        · rename_i h5
          have h4 : N5.chk a.i.data.toList = 0 := by omega
          have h6 := N5.shp_iff.1 (N5.chk_ok.1 h4).1
          have h7 : N5.Cur a.c.toList := Classical.not_not.1 h3
          have h8 : N5.In 200000 a.mat := Classical.not_not.1 h5
          have hc : a.c.toList.length = 3 := by rcases h7 with h | h | h | h | h | h | h | h <;> (rw [h]; decide)
          have hs : a.i.data.toList.length = a.i.size := rfl
          rw [size_toList] at hc
          exact ⟨by rw [← hs]; omega, by omega, h8.1, h8.2⟩
theorem rcs_take_eq {α : Type} (f : α → List Value) (k : Nat) (hk : ∀ x, (f x).length = k) : ∀ (L : List α) (i : Nat), i ≤ L.length → rcs f (L.take i) = (rcs f L).take (i * k) ∧ rcs f (L.drop i) = (rcs f L).drop (i * k)
  | L, 0, _ => by simp [rcs]
  | [], i + 1, h => by simp at h
  | x :: r, i + 1, h => by
    obtain ⟨h1, h2⟩ := rcs_take_eq f k hk r i (by simpa using h)
    have e : rcs f (x :: r) = f x ++ rcs f r := rfl
    have hx : (i + 1) * k = (f x).length + i * k := by rw [hk, Nat.add_mul]; omega
    constructor
    · rw [List.take_succ_cons, show rcs f (x :: r.take i) = f x ++ rcs f (r.take i) from rfl, h1, e, hx, List.take_length_add_append]
    · rw [List.drop_succ_cons, h2, e, hx, List.drop_length_add_append]
theorem rcs_ins {L : List Kn} {i : Nat} (h : i ≤ L.length) (x : Kn) : kcells (L.take i ++ x :: L.drop i) = (kcells L).take (i * 6) ++ kcs x ++ (kcells L).drop (i * 6) := by
  obtain ⟨h1, h2⟩ := rcs_take_eq kcs 6 kcs_len L i h
  unfold kcells
  rw [← h1, ← h2]
  simp [rcs]
theorem kcells_one (L : List Kn) : ∀ u ∈ kcells L, u.oneCell' = true := by
  intro u hu
  unfold kcells rcs at hu
  rw [List.mem_flatten] at hu
  obtain ⟨l, hl, hu⟩ := hu
  obtain ⟨k, _, rfl⟩ := List.mem_map.1 hl
  exact kcs_one k u hu
theorem xins {B i vb : Nat} {v : Value} {L : List Kn} {x : Kn} {w : World} (h : w.ownsRow B 101 6 v L.length (kcells L)) (hi : i ≤ L.length) (hl : L.length ≤ 1000000) (hv : Bx w vb (kcs x).toArray 101) (hvb : some vb ≠ v.ownBlock) (hB : B ≤ w.heap.size) :
    Calls Try.prog 56 #[v, .int .i64 i, .slice (some ⟨vb, 0, none⟩) 1 1] w (InP B L.length v (kcells (L.take i ++ x :: L.drop i)) w) := by
  rw [rcs_ins hi x]
  have h0 := h
  rcases h.2 with ⟨rfl, hn⟩ | ⟨g, cap, cur, rfl, _, hg, hnc, _⟩
  · obtain rfl : L = [] := List.length_eq_zero_iff.1 hn
    obtain rfl : i = 0 := by simpa using hi
    have := xins_nil h (kcs_len x) (kcs_one x) hv hB
    simpa [rcs] using this
  · rcases Nat.lt_or_eq_of_le hi with hi | rfl
    · rcases Nat.lt_or_ge L.length cap with hc | hc
      · exact xins_room h0 hi hc (kcs_len x) (kcs_one x) (kcells_one L) hv (fun e => hvb (by rw [e]; rfl)) hl
      · exact xins_grow h0 hi (by omega) (kcs_len x) (kcs_one x) (kcells_one L) hv hl hB
    · have := xins_end h0 hnc (kcs_len x) (kcs_one x) hv hl hB
      have e1 : (kcells L).take (L.length * 6) = kcells L := List.take_of_length_le (Nat.le_of_eq h.1)
      have e2 : (kcells L).drop (L.length * 6) = [] := List.drop_eq_nil_of_le (Nat.le_of_eq h.1)
      rw [e1, e2, List.append_nil]
      exact this
/-- a block of another type is another one -/
theorem own_nb {w : World} {B e k n q T : Nat} {v : Value} {cs : List Value} {x : Array Value} (h : w.ownsRow B e k v n cs) (hq : Bx w q x T) (hT : T ≠ e) : some q ≠ v.ownBlock := by
  intro he
  rcases h.2 with ⟨rfl, _⟩ | ⟨g, cap, cur, rfl, _, hg, _⟩
  · cases he
  · have e1 : q = g := by simpa [Value.ownBlock] using he
    subst e1
    unfold Bx at hq
    rw [hq] at hg
    injection hg with hg
    injection hg with _ hg
    exact hT hg
def AdP (B : Nat) (q : Nat) (v : Value) (L : List Kn) (E : Nat) (w : World) (e : Ending) (w' : World) : Prop := e = .returned (.int .i64 E) ∧ Hid (∃ v', Bk B w' q v' L ∧ Kp w w' q v ∧ (v'.ownBlock = v.ownBlock ∨ ∃ g, v'.ownBlock = some g ∧ w.heap.size ≤ g))
theorem Bk.same {B : Nat} {w w' : World} {q : Nat} {v : Value} {L : List Kn} (h : Bk B w q v L) (hb : Below w.heap.size w w') : ∃ v', Bk B w' q v' L ∧ Kp w w' q v ∧ (v'.ownBlock = v.ownBlock ∨ ∃ g, v'.ownBlock = some g ∧ w.heap.size ≤ g) := ⟨v, h.below hb, Kp.of_below hb q v, .inl rfl⟩
/-- a row laid in, and the book told of it -/
theorem Bk.put {B : Nat} {w w5 : World} {q n : Nat} {v v' : Value} {L M : List Kn} (hn : n + 1 = M.length) (h : Bk B w q v L) {w4 : World} (h4 : Below w.heap.size w w4) (ho : w5.ownsRow B 101 6 v' (n + 1) (kcells M)) (hg : w4.grownBy w5 v.ownBlock) (ha : v'.ownBlock = v.ownBlock ∨ v'.ownBlock = some w4.heap.size) :
    Bk B (w5.setCell ⟨q, 1, none⟩ v') q v' M ∧ Kp w (w5.setCell ⟨q, 1, none⟩ v') q v ∧ (v'.ownBlock = v.ownBlock ∨ ∃ g, v'.ownBlock = some g ∧ w.heap.size ≤ g) := by
  have hqv : some q ≠ v.ownBlock := own_nb h.o h.b (by decide)
  have hq5 : Bx w5 q #[.bool true, v] 97 := (h.b.below h4 h.b.lt).kept hg hqv
  have hqv' : some q ≠ v'.ownBlock := own_nb ho hq5 (by decide)
  have hk : Kp w w5 q v := (Kp.of_below h4 q v).grown hg (fun k e => .inr (.inl e.symm))
  refine ⟨⟨hq5.setc 1 v', ?_, h.q⟩, hk.grown (grown_set w5 q 1 v') (fun k e => by injection e with e; exact .inl e.symm), ?_⟩
  · rw [← hn]
    exact own_grown ho (grown_set w5 q 1 v') hqv'
  · rcases ha with e | e
    · exact .inl e
    · exact .inr ⟨_, e, h4.size⟩
set_option maxHeartbeats 8000000 in
theorem xadd {B : Nat} {q : Nat} {v : Value} {L : List Kn} (g : Num.Good L) (a : As) (hs : a.i.size ≤ 9223372036854775807) (w : World) (h : Bk B w q v L) (hB : B ≤ w.heap.size) : Calls Try.prog 33 #[.pointer (some ⟨q, 0, none⟩), .agg #[.string a.i, .int .i64 a.iss, .int .i64 a.rat, .int .i64 a.mat, .string a.c]] w (AdP B q v (addL L (eA a) a) (addE L (eA a) a) w) := by
  obtain ⟨ra, cap, rfl, hcap, hrw⟩ := h.read
  obtain ⟨w1, hw1⟩ : ∃ w1, w1 = w.alloc (.cells #[.string a.i, .int .i64 a.iss, .int .i64 a.rat, .int .i64 a.mat, .string a.c] 45) := ⟨_, rfl⟩
  have HW : Hid (w.alloc (.cells #[.string a.i, .int .i64 a.iss, .int .i64 a.rat, .int .i64 a.mat, .string a.c] 45) = w1) := hw1.symm
  have hb1 : Below w.heap.size w w1 := by rw [hw1]; exact (Below.refl _ w).alloc (Nat.le_refl _) _
  have hX1 : Bx w1 w.heap.size #[.string a.i, .int .i64 a.iss, .int .i64 a.rat, .int .i64 a.mat, .string a.c] 45 := by rw [hw1]; exact Bx.new w _ _
  have HL : Hid (Calls Try.prog 53 #[.pointer (some ⟨q, 0, none⟩)] w1 (BoP false w1)) := xlackB (h.below hb1).b
  have HA : Hid (Calls Try.prog 54 #[.agg #[.string a.i, .int .i64 a.iss, .int .i64 a.rat, .int .i64 a.mat, .string a.c]] w1 fun e w' => e = .returned (.int .i64 (eA a)) ∧ w'.cell? ⟨w.heap.size, 0, none⟩ = some (.string a.i) ∧ Hid (Below w.heap.size w w' ∧ Bx w' w.heap.size #[.string a.i, .int .i64 a.iss, .int .i64 a.rat, .int .i64 a.mat, .string a.c] 45)) := (N5.xAsset a.i a.c a.iss a.rat a.mat hs w1).mono fun e w' k => ⟨k.1, (hX1.below k.2 hX1.lt).cell 0, hb1.trans (k.2.mono hb1.size), hX1.below k.2 hX1.lt⟩
  have c0 : w1.cell? ⟨w.heap.size, 0, none⟩ = some (.string a.i) := hX1.cell 0
  have c1 : w1.cell? ⟨w.heap.size, 1, none⟩ = some (.int .i64 a.iss) := hX1.cell 1
  have c2 : w1.cell? ⟨w.heap.size, 2, none⟩ = some (.int .i64 a.rat) := hX1.cell 2
  have c3 : w1.cell? ⟨w.heap.size, 3, none⟩ = some (.int .i64 a.mat) := hX1.cell 3
  have c4 : w1.cell? ⟨w.heap.size, 4, none⟩ = some (.string a.c) := hX1.cell 4
  have HS : Hid (Bk B w q (.slice ra L.length cap) L) := h
  have HG : Hid (Num.Good L) := g
  have HBw : Hid (B ≤ w.heap.size) := hB
  have hlen : (L.length : Int) ≤ 64 := by have := g.len; omega
  by_cases he : eA a = 0
  · have hen : ((eA a : Int) != 0) = false := by simp [he]
    have HF : Hid (∀ w2, Below w.heap.size w w2 → Calls Try.prog 55 #[.pointer (some ⟨q, 0, none⟩), .string a.i] w2 fun e w3 => e = .returned (.tuple #[.int .i64 (pos L a.i.toList), .bool (has L a.i.toList)]) ∧ w3.cell? ⟨q, 1, none⟩ = some (.slice ra L.length cap) ∧ Hid (Below w.heap.size w w3 ∧ Below w2.heap.size w2 w3)) := fun w2 hb2 => ((HS.out.below hb2).find HG.out a.i).mono fun e w3 k => ⟨k.1, ((HS.out.below hb2).below k.2).b.cell 1, hb2.trans (k.2.mono hb2.size), k.2⟩
    cases hh : has L a.i.toList with
    | true =>
      have hE : addE L (eA a) a = 7 := by unfold addE; rw [if_neg (by simp [he]), if_pos hh]
      have hM : addL L (eA a) a = L := by unfold addL; rw [hE]; simp
      rw [hE, hM]
      rw [hh] at HF
      clear hh hE hM h g hs hrw hB he hw1 hX1
      generalize eA a = E at *
      generalize pos L a.i.toList = P at *
      go_enter Try.func33, Try.ntmps33
      go_upto_region 1 with fail
      rw [HW.out]
      go_wp2_with (first | (go_at_call 53; refine HL.out.mono ?_; clear HL; rintro e w2 ⟨rfl, rfl⟩) | (go_at_call 54; refine HA.out.mono ?_; clear HA; rintro e w2 ⟨rfl, d0, HZ⟩) | (go_at_call 55; refine (HF.out _ HZ.out.1).mono ?_; clear HF; rintro e w3 ⟨rfl, d1, HY⟩))
      go_ret
      exact ⟨rfl, HS.out.same HY.out.1⟩
    | false =>
      by_cases hf : 64 ≤ L.length
      · have hE : addE L (eA a) a = 18 := by unfold addE; rw [if_neg (by simp [he]), if_neg (by simp [hh]), if_pos hf]
        have hM : addL L (eA a) a = L := by unfold addL; rw [hE]; simp
        have hfz : (64 : Int) ≤ (L.length : Int) := by omega
        rw [hE, hM]
        rw [hh] at HF
        clear hh hE hM h g hs hrw hB he hf hw1 hX1
        generalize eA a = E at *
        generalize pos L a.i.toList = P at *
        go_enter Try.func33, Try.ntmps33
        go_upto_region 1 with fail
        rw [HW.out]
        go_wp2_with (first | (go_at_call 53; refine HL.out.mono ?_; clear HL; rintro e w2 ⟨rfl, rfl⟩) | (go_at_call 54; refine HA.out.mono ?_; clear HA; rintro e w2 ⟨rfl, d0, HZ⟩) | (go_at_call 55; refine (HF.out _ HZ.out.1).mono ?_; clear HF; rintro e w3 ⟨rfl, d1, HY⟩))
        go_ret
        exact ⟨rfl, HS.out.same HY.out.1⟩
      · have hE : addE L (eA a) a = 0 := by unfold addE; rw [if_neg (by simp [he]), if_neg (by simp [hh]), if_neg hf]
        have hM : addL L (eA a) a = ins L a := by unfold addL; rw [hE]; simp
        have hfz : ¬ (64 : Int) ≤ (L.length : Int) := by omega
        obtain ⟨s1, s2, _, _⟩ := eA_ok he
        have HI : Hid (∀ w3, Below w.heap.size w w3 → Calls Try.prog 57 #[.agg #[.string a.i, .int .i64 a.iss, .int .i64 a.rat, .int .i64 a.mat, .string a.c]] w3 fun e w4 => ∃ x, e = .returned x ∧ (x = .agg #[.string a.i, .int .i64 a.iss, .int .i64 a.rat, .int .i64 a.mat, .string a.c] ∧ w4.cell? ⟨q, 1, none⟩ = some (.slice ra L.length cap) ∧ q < w4.heap.size ∧ Hid (Calls Try.prog 56 #[.slice ra L.length cap, .int .i64 (pos L a.i.toList), .slice (some ⟨w4.heap.size, 0, none⟩) 1 1] (w4.alloc (.cells #[.string a.i, .int .i64 a.iss, .int .i64 a.rat, .int .i64 a.mat, .string a.c, .int .i64 0] 101)) fun e w5 => ∃ x, e = .returned x ∧ ((∃ xa xn xc, x = .slice xa xn xc) ∧ w5.cell? ⟨q, 1, none⟩ = some (.slice ra L.length cap) ∧ w5.frozen? ⟨q, 1, none⟩ = false ∧ Hid (∀ y, y = x → ∃ v', Bk B (w5.setCell ⟨q, 1, none⟩ y) q v' (ins L a) ∧ Kp w (w5.setCell ⟨q, 1, none⟩ y) q (.slice ra L.length cap) ∧ (v'.ownBlock = Value.ownBlock (.slice ra L.length cap) ∨ ∃ g, v'.ownBlock = some g ∧ w.heap.size ≤ g)))))) := by
          intro w3 hb3
          refine (xapart a.i a.iss a.rat a.mat a.c (by omega) (by omega) w3).mono ?_
          rintro e w4 ⟨rfl, hb4⟩
          have h4 : Below w.heap.size w w4 := hb3.trans (hb4.mono hb3.size)
          have hbk := HS.out.below h4
          have h4a : Below w.heap.size w (w4.alloc (.cells (kcs ⟨a, 0⟩).toArray 101)) := h4.alloc h4.size _
          refine ⟨_, rfl, rfl, hbk.b.cell 1, hbk.b.lt, ?_⟩
          refine (xins (x := ⟨a, 0⟩) (hbk.o.alloc _) (pos_le L a.i.toList) (by omega) (Bx.new w4 _ _) (fun e => by have := (HS.out.o.lt _ e.symm).2; have := h4.size; omega) (Nat.le_trans HBw.out h4a.size)).mono ?_
          rintro e w5 ⟨v', rfl, hz⟩
          obtain ⟨ho, hg, hat⟩ := hz.out
          have hqv : some q ≠ Value.ownBlock (.slice ra L.length cap) := own_nb HS.out.o HS.out.b (by decide)
          have hq5 : Bx w5 q #[.bool true, .slice ra L.length cap] 97 := (HS.out.b.below h4a HS.out.b.lt).kept hg hqv
          obtain ⟨xa, xc, hx, _⟩ := own_read ho ho.1
          refine ⟨v', rfl, ⟨xa, _, xc, hx⟩, hq5.cell 1, hq5.froz 1, fun y hy => ?_⟩
          subst hy
          exact ⟨y, Bk.put (ins_len L a).symm HS.out h4a ho hg hat⟩
        rw [hE, hM]
        rw [hh] at HF
        clear hh hE hM h g hs hrw hB he hf hw1 hX1 s1 s2
        generalize eA a = E at *
        generalize pos L a.i.toList = P at *
        go_enter Try.func33, Try.ntmps33
        go_upto_region 1 with fail
        rw [HW.out]
        go_wp2_with (first | (go_at_call 53; refine HL.out.mono ?_; clear HL; rintro e w2 ⟨rfl, rfl⟩) | (go_at_call 54; refine HA.out.mono ?_; clear HA; rintro e w2 ⟨rfl, d0, HZ⟩) | (go_at_call 55; refine (HF.out _ HZ.out.1).mono ?_; clear HF; rintro e w3 ⟨rfl, d1, HY⟩))
        have hX3 := HZ.out.2.below HY.out.2 HZ.out.2.lt
        have e0 : w3.cell? ⟨w.heap.size, 0, none⟩ = some (.string a.i) := hX3.cell 0
        have e1 : w3.cell? ⟨w.heap.size, 1, none⟩ = some (.int .i64 a.iss) := hX3.cell 1
        have e2 : w3.cell? ⟨w.heap.size, 2, none⟩ = some (.int .i64 a.rat) := hX3.cell 2
        have e3 : w3.cell? ⟨w.heap.size, 3, none⟩ = some (.int .i64 a.mat) := hX3.cell 3
        have e4 : w3.cell? ⟨w.heap.size, 4, none⟩ = some (.string a.c) := hX3.cell 4
        have HBd : Hid (Below w.heap.size w w3.drew) := HY.out.1.drew
        clear hX3 HZ HY c0 c1 c2 c3 c4 d0 hb1
        go_region_law (first | (refine step_call _ (by rfl) 57 #[.agg #[.string a.i, .int .i64 a.iss, .int .i64 a.rat, .int .i64 a.mat, .string a.c]] (by go_simp) _ (HI.out _ HBd.out) ?_; clear HI; rintro v9 w4 ⟨rfl, k1, k0, HC⟩) | (refine step_call _ (by rfl) 56 #[.slice ra L.length cap, .int .i64 P, .slice (some ⟨w4.heap.size, 0, none⟩) 1 1] (by go_simp) _ HC.out ?_; clear HC; rintro v8 w5 ⟨⟨xa, xn, xc, rfl⟩, k2, k3, HF5⟩))
        all_goals
          go_wp2_with fail
          go_ret
          exact ⟨rfl, HF5.out _ rfl⟩
  · have hen : ((eA a : Int) != 0) = true := by simp [he]
    have hE : addE L (eA a) a = eA a := by unfold addE; rw [if_pos he]
    have hM : addL L (eA a) a = L := by unfold addL; rw [hE, if_neg he]
    rw [hE, hM]
    clear hE hM h g hs hrw hB he hw1 hX1
    generalize eA a = E at *
    go_enter Try.func33, Try.ntmps33
    go_upto_region 1 with fail
    rw [HW.out]
    go_wp2_with (first | (go_at_call 53; refine HL.out.mono ?_; clear HL; rintro e w2 ⟨rfl, rfl⟩) | (go_at_call 54; refine HA.out.mono ?_; clear HA; rintro e w2 ⟨rfl, d0, HZ⟩))
    go_ret
    exact ⟨rfl, HS.out.same HZ.out.1⟩
end Go.Proofs.Ytheikjjehidagaa.H5
