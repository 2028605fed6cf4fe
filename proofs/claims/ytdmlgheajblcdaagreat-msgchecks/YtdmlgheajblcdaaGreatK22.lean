/- Layer 10: the law Checks. -/
import Derived.Test.YtdmlgheajblcdaaGreatK21
import Derived.Test.YtdmlgheajblcdaaGreatK16
import Derived.WalkKit
import Derived.ProofKit
import Derived.Handy
import Derived.WalkLawsBesides
import Derived.WalkSpells
import Derived.BigQuiet
import Derived.BigCall
import Derived.Deep.QuietTactic
import Derived.Deep.Light
import Derived.Deep.OwnRows
import Derived.Laws.AppendOwnNone
import Derived.Laws.Strings3
import Derived.Laws.RangeAny
import Derived.Deep.RegionWith
import Derived.Lib.BitFns
import Derived.Lib.Walk
import Derived.Lib.Strings
import Derived.Lib.OthersKept
import Derived.Deep.CutBlock
import Derived.Deep.DeepCutAuto
import Derived.Deep.LoopGhost
import Derived.Deep.RegionHeld3
import Derived.Lib.SmallJoins
import Derived.Maps.AppendAt
import Derived.Laws.IdiomStrings
import Derived.Lib.AppendZeros
import Derived.Deep.WholeRow
import Derived.Laws.BitsAllLaws
import Derived.Lib.ConvBytes
import Derived.Deep.RegionLaw
namespace Go.Proofs.YtdmlgheajblcdaaGreat
open Go.RowKit
set_option linter.unusedVariables false
set_option linter.unusedSimpArgs false
set_option maxRecDepth 100000
theorem takeH {P : Program} {l : List Oper} {Q : Exit → Act → World → Prop} {md : Region.Mode} {S : World → Prop} {i : Nat} {oi : Oper} {v : Value} {fuel : Nat} {listed : Array Bool} {a : Act} {w : World} (hi : l[i]? = some oi)
    (hs : Region.noSelect l.toArray = true) (hf : Region.free md l.toArray listed i = true) (hr : (Region.ready md l.toArray listed).contains i = true)
    (hQ : ∀ c a w, Q (.panic c) (a.put oi.dst v) w → Q (.panic c) a w) (hy : YieldsIf P l.toArray S oi v a) (hS : S w)
    (h : wpAnyH P md l.toArray Q S fuel (listed.setIfInBounds i true) (a.put oi.dst v) w) : wpAnyH P md l.toArray Q S (fuel + 1) listed a w :=
  wpAnyH_take (by rw [List.getElem?_toArray]; exact hi) hs hf hr hQ hy hS h

theorem consH {P : Program} {l : List Oper} {Q : Exit → Act → World → Prop} {md : Region.Mode} {S : World → Prop} {fuel : Nat} {listed : Array Bool} {a : Act} {w : World} {i : Nat} {o : Oper} (hi : l[i]? = some o) (hr : Region.ready md l.toArray listed = [i])
    (h : ∀ K' : Act → World → Prop, Shut (∀ a w, S w → (S w → wpAnyH P md l.toArray Q S fuel (listed.setIfInBounds i true) a w) → K' a w) → if Region.wanted o (yielded l.toArray a.tmps) = true then Oper.wp P o a w K' Q else K' (a.put o.dst undef) w) :
    wpAnyH P md l.toArray Q S (fuel + 1) listed a w :=
  wpAnyH_ready hr (by simp) (AllReadyH.cons (by rw [List.getElem?_toArray]; exact hi) h AllReadyH.nil)
theorem ex_load {P : Program} {w : World} (ρ : Operand → Value) (o : Oper) (t : TypeId) (x : Operand) (ho : o.op = .load t x) (p v : Value) (hx : ρ x = p) (h : (Instr.loadAt t p).run P w = .ok v w) : (execOp ρ o).run P w = .ok (.value v) w := by
  unfold execOp
  simp only [ho, hx, Sem.run_bind, Sem.run_pure, Result.andThen_ok, h]
set_option maxHeartbeats 8000000 in
theorem lChecks0 (M : Array Value) (hsz : M.size = 36)  (kk : Int) (hk : kk < 1 ∨ 15 < kk) (hM0 : M[0]? = some (.int .i64 kk)) (w : World) (cv : Nat) (sv : Int)
    (hsm : ∀ W, Calls Tryz.prog 9 #[.agg M] W (KP (.bool true) W)) (hof : ∀ W, Calls Tryz.prog 11 #[.agg M] W (KP (.nilIface) W))
    (h12 : ∀ W, Below w.heap.size w W → Calls Tryz.prog 12 #[.nilIface] W (KP (.int .i64 cv) W)) (h13 : ∀ W, Below w.heap.size w W → Calls Tryz.prog 13 #[.agg M] W (KP (.int .i64 cv) W))
    (h14 : ∀ W, Calls Tryz.prog 14 #[.nilIface] W (KP (.int .i64 sv) W)) (h15 : ∀ W, Calls Tryz.prog 15 #[.agg M] W (KP (.int .i64 sv) W)) : Calls Tryz.prog 3 #[.agg M] w (KP (.bool true) w) := by
  have HOF : Hid (∀ W, Calls Tryz.prog 11 #[.agg M] W (KP (.nilIface) W)) := hof
  have H12 : Hid (∀ W, Below w.heap.size w W → Calls Tryz.prog 12 #[.nilIface] W (KP (.int .i64 cv) W)) := h12
  have H13 : Hid (∀ W, Below w.heap.size w W → Calls Tryz.prog 13 #[.agg M] W (KP (.int .i64 cv) W)) := h13
  have H14 : Hid (∀ W, Calls Tryz.prog 14 #[.nilIface] W (KP (.int .i64 sv) W)) := h14
  have H15 : Hid (∀ W, Calls Tryz.prog 15 #[.agg M] W (KP (.int .i64 sv) W)) := h15
  have HSM : Hid (∀ W, Calls Tryz.prog 9 #[.agg M] W (KP (.bool true) W)) := hsm
  have HM0 : Hid (∀ W, Bx W w.heap.size M 35 → W.cell? ⟨w.heap.size, 0, none⟩ = some (.int .i64 kk)) := fun W h => (h.cell 0).trans hM0
  have HX0 : Hid (Bx (w.alloc (.cells M 35)) w.heap.size M 35) := Bx.new _ _ _
  have HB0 : Hid (Below w.heap.size w (w.alloc (.cells M 35))) := below_a w _
  have HLD : Hid (∀ W, Bx W w.heap.size M 35 → (Instr.loadAt 35 (.pointer (some ⟨w.heap.size, 0, none⟩))).run Tryz.prog W = .ok (.agg M) W) := fun W h => hloadAt W w.heap.size M hsz h
  have HO : Hid (kk < 1 ∨ 15 < kk) := hk
  clear hof h12 h13 h14 h15 hsm hM0 hk
  go_enter Tryz.func3, Tryz.ntmps3
  go_upto_region 1 with fail
  generalize hw1 : w.alloc (.cells M 35) = w1 at *
  have HX : Hid (Bx w1 w.heap.size M 35) := HX0.out
  have HB : Hid (Below w.heap.size w w1) := HB0.out
  clear HX0 HB0 hw1
  go_wp2_with (guard_target =~ wpList _ _ _ (⟨_, Op.load 35 _, _, _, _, _⟩ :: _) _ _; refine wl_load _ rfl 35 _ rfl _ rfl _ (HLD.out _ HX.out) ?_; go_simp)
  refine (HSM.out _).mono ?_
  rintro e w2 ⟨rfl, hb2⟩
  have HX2 : Hid (Bx w2 w.heap.size M 35) := HX.out.keep hb2.out
  have HB2 : Hid (Below w.heap.size w w2) := bt HB.out hb2.out
  clear hb2 HX HB HSM
  go_wp2_with (guard_target =~ wpList _ _ _ (⟨_, Op.load 35 _, _, _, _, _⟩ :: _) _ _; refine wl_load _ rfl 35 _ rfl _ rfl _ (HLD.out _ HX2.out) ?_; go_simp)
  refine (HOF.out _).mono ?_
  rintro e w3 ⟨rfl, hb3⟩
  have HX3 : Hid (Bx w3 w.heap.size M 35) := HX2.out.keep hb3.out
  have HB3 : Hid (Below w.heap.size w w3) := bt HB2.out hb3.out
  clear hb3 HX2 HB2 HOF
  go_wp2_with fail
  refine wp_region_held (S := fun W => Bx W w.heap.size M 35 ∧ Below w.heap.size w W) (by kernel_rfl) ?_
  change wpAnyH _ _ _ _ _ 12 #[false, false, false, false, false, false, false, false, false, false, false, false] _ _
  have hS : Bx w3.drew w.heap.size M 35 ∧ Below w.heap.size w w3.drew := ⟨HX3.out, bdrw HB3.out 1⟩
  clear HX3 HB3
  refine takeH (fuel := 11) (i := 0) (v := .nilIface) rfl (by kernel_rfl) (by kernel_rfl) (by kernel_rfl) (fun _ _ _ h => h) (Or.inl ⟨rfl, fun _ _ => rfl⟩) hS ?_
  simp only [Act.put, List.setIfInBounds_toArray, List.set_cons_zero, List.set_cons_succ]
  refine takeH (fuel := 10) (i := 2) (v := .agg M) rfl (by kernel_rfl) (by kernel_rfl) (by kernel_rfl) (fun _ _ _ h => h) (Or.inl ⟨rfl, fun W hW => ex_load _ _ _ _ rfl _ _ rfl (HLD.out W hW.1)⟩) hS ?_
  simp only [Act.put, List.setIfInBounds_toArray, List.set_cons_zero, List.set_cons_succ]
  refine consH (fuel := 9) (i := 1) rfl (by kernel_rfl) (fun K hK => ?_)
  rw [if_pos (by rfl)]
  go_simp
  refine (H12.out _ hS.2).mono ?_
  rintro e w4 ⟨rfl, hb4⟩
  refine hK.out _ _ ⟨hS.1.keep hb4.out, bt hS.2 hb4.out⟩ (fun hS4 => ?_)
  clear hK
  try simp only [Act.put, List.setIfInBounds_toArray, List.set_cons_zero, List.set_cons_succ]
  refine consH (fuel := 8) (i := 3) rfl (by kernel_rfl) (fun K hK => ?_)
  rw [if_pos (by rfl)]
  go_simp
  refine (H13.out _ hS4.2).mono ?_
  rintro e w5 ⟨rfl, hb5⟩
  refine hK.out _ _ ⟨hS4.1.keep hb5.out, bt hS4.2 hb5.out⟩ (fun hS5 => ?_)
  clear hK
  try simp only [Act.put, List.setIfInBounds_toArray, List.set_cons_zero, List.set_cons_succ]
  refine takeH (fuel := 7) (i := 4) (v := .bool false) rfl (by kernel_rfl) (by kernel_rfl) (by kernel_rfl) (fun _ _ _ h => h) (Or.inl ⟨rfl, fun W hW => by go_simp⟩) hS5 ?_
  simp only [Act.put, List.setIfInBounds_toArray, List.set_cons_zero, List.set_cons_succ]
  refine takeH (fuel := 6) (i := 5) (v := .bool false) rfl (by kernel_rfl) (by kernel_rfl) (by kernel_rfl) (fun _ _ _ h => h) (Or.inl ⟨rfl, fun _ _ => rfl⟩) hS5 ?_
  simp only [Act.put, List.setIfInBounds_toArray, List.set_cons_zero, List.set_cons_succ]
  refine takeH (fuel := 5) (i := 6) (v := .nilIface) rfl (by kernel_rfl) (by kernel_rfl) (by kernel_rfl) (fun _ _ _ h => h) (Or.inl ⟨rfl, fun _ _ => rfl⟩) hS5 ?_
  simp only [Act.put, List.setIfInBounds_toArray, List.set_cons_zero, List.set_cons_succ]
  refine takeH (fuel := 4) (i := 8) (v := .agg M) rfl (by kernel_rfl) (by kernel_rfl) (by kernel_rfl) (fun _ _ _ h => h) (Or.inl ⟨rfl, fun W hW => ex_load _ _ _ _ rfl _ _ rfl (HLD.out W hW.1)⟩) hS5 ?_
  simp only [Act.put, List.setIfInBounds_toArray, List.set_cons_zero, List.set_cons_succ]
  refine consH (fuel := 3) (i := 7) rfl (by kernel_rfl) (fun K hK => ?_)
  rw [if_pos (by rfl)]
  go_simp
  refine (H14.out _).mono ?_
  rintro e w6 ⟨rfl, hb6⟩
  refine hK.out _ _ ⟨hS5.1.keep hb6.out, bt hS5.2 hb6.out⟩ (fun hS6 => ?_)
  clear hK
  try simp only [Act.put, List.setIfInBounds_toArray, List.set_cons_zero, List.set_cons_succ]
  refine consH (fuel := 2) (i := 9) rfl (by kernel_rfl) (fun K hK => ?_)
  rw [if_pos (by rfl)]
  go_simp
  refine (H15.out _).mono ?_
  rintro e w7 ⟨rfl, hb7⟩
  refine hK.out _ _ ⟨hS6.1.keep hb7.out, bt hS6.2 hb7.out⟩ (fun hS7 => ?_)
  clear hK
  try simp only [Act.put, List.setIfInBounds_toArray, List.set_cons_zero, List.set_cons_succ]
  refine takeH (fuel := 1) (i := 10) (v := .bool false) rfl (by kernel_rfl) (by kernel_rfl) (by kernel_rfl) (fun _ _ _ h => h) (Or.inl ⟨rfl, fun W hW => by go_simp⟩) hS7 ?_
  simp only [Act.put, List.setIfInBounds_toArray, List.set_cons_zero, List.set_cons_succ]
  refine takeH (fuel := 0) (i := 11) (v := .bool false) rfl (by kernel_rfl) (by kernel_rfl) (by kernel_rfl) (fun _ _ _ h => h) (Or.inl ⟨rfl, fun _ _ => rfl⟩) hS7 ?_
  simp only [Act.put, List.setIfInBounds_toArray, List.set_cons_zero, List.set_cons_succ]
  refine wpAnyH_done (by kernel_rfl) ?_ _
  have HX7 : Hid (Bx w7 w.heap.size M 35) := hS7.1
  have HB7 : Hid (Below w.heap.size w w7) := hS7.2
  clear hS hS4 hS5 hS6 hS7 hb4 hb5 hb6 hb7 H12 H13 H14 H15
  go_wp2_with fail
  by_cases n1 : kk < 1
  · have n1b : decide (kk < 1) = true := decide_eq_true n1
    refine wp_region_held (S := fun W => Bx W w.heap.size M 35 ∧ Below w.heap.size w W) (by kernel_rfl) ?_
    change wpAnyH _ _ _ _ _ 23 #[false, false, false, false, false, false, false, false, false, false, false, false, false, false, false, false, false, false, false, false, false, false, false] _ _
    have hS : Bx w7.drew w.heap.size M 35 ∧ Below w.heap.size w w7.drew := ⟨HX7.out, bdrw HB7.out 1⟩
    clear HX7 HB7
    refine takeH (fuel := 22) (i := 0) (v := .pointer (some ⟨w.heap.size, 0, none⟩)) rfl (by kernel_rfl) (by kernel_rfl) (by kernel_rfl) (fun _ _ _ h => h) (Or.inl ⟨rfl, fun W hW => by go_simp⟩) hS ?_
    simp only [Act.put, List.setIfInBounds_toArray, List.set_cons_zero, List.set_cons_succ]
    refine takeH (fuel := 21) (i := 1) (v := .int .i64 kk) rfl (by kernel_rfl) (by kernel_rfl) (by kernel_rfl) (fun _ _ _ h => h) (Or.inl ⟨rfl, fun W hW => by have c0 := HM0.out W hW.1; go_simp⟩) hS ?_
    simp only [Act.put, List.setIfInBounds_toArray, List.set_cons_zero, List.set_cons_succ]
    refine takeH (fuel := 20) (i := 2) (v := .bool true) rfl (by kernel_rfl) (by kernel_rfl) (by kernel_rfl) (fun _ _ _ h => h) (Or.inl ⟨rfl, fun W hW => by go_simp⟩) hS ?_
    simp only [Act.put, List.setIfInBounds_toArray, List.set_cons_zero, List.set_cons_succ]
    refine takeH (fuel := 19) (i := 3) (v := .bool true) rfl (by kernel_rfl) (by kernel_rfl) (by kernel_rfl) (fun _ _ _ h => h) (Or.inl ⟨rfl, fun _ _ => rfl⟩) hS ?_
    simp only [Act.put, List.setIfInBounds_toArray, List.set_cons_zero, List.set_cons_succ]
    refine takeH (fuel := 18) (i := 4) (v := undef) rfl (by kernel_rfl) (by kernel_rfl) (by kernel_rfl) (fun _ _ _ h => h) (Or.inr ⟨rfl, rfl⟩) hS ?_
    simp only [Act.put, List.setIfInBounds_toArray, List.set_cons_zero, List.set_cons_succ]
    refine takeH (fuel := 17) (i := 5) (v := undef) rfl (by kernel_rfl) (by kernel_rfl) (by kernel_rfl) (fun _ _ _ h => h) (Or.inr ⟨rfl, rfl⟩) hS ?_
    simp only [Act.put, List.setIfInBounds_toArray, List.set_cons_zero, List.set_cons_succ]
    refine takeH (fuel := 16) (i := 6) (v := undef) rfl (by kernel_rfl) (by kernel_rfl) (by kernel_rfl) (fun _ _ _ h => h) (Or.inr ⟨rfl, rfl⟩) hS ?_
    simp only [Act.put, List.setIfInBounds_toArray, List.set_cons_zero, List.set_cons_succ]
    refine takeH (fuel := 15) (i := 7) (v := .bool true) rfl (by kernel_rfl) (by kernel_rfl) (by kernel_rfl) (fun _ _ _ h => h) (Or.inl ⟨rfl, fun _ _ => rfl⟩) hS ?_
    simp only [Act.put, List.setIfInBounds_toArray, List.set_cons_zero, List.set_cons_succ]
    refine takeH (fuel := 14) (i := 8) (v := .bool true) rfl (by kernel_rfl) (by kernel_rfl) (by kernel_rfl) (fun _ _ _ h => h) (Or.inl ⟨rfl, fun _ _ => rfl⟩) hS ?_
    simp only [Act.put, List.setIfInBounds_toArray, List.set_cons_zero, List.set_cons_succ]
    refine takeH (fuel := 13) (i := 9) (v := undef) rfl (by kernel_rfl) (by kernel_rfl) (by kernel_rfl) (fun _ _ _ h => h) (Or.inr ⟨rfl, rfl⟩) hS ?_
    simp only [Act.put, List.setIfInBounds_toArray, List.set_cons_zero, List.set_cons_succ]
    refine takeH (fuel := 12) (i := 10) (v := undef) rfl (by kernel_rfl) (by kernel_rfl) (by kernel_rfl) (fun _ _ _ h => h) (Or.inr ⟨rfl, rfl⟩) hS ?_
    simp only [Act.put, List.setIfInBounds_toArray, List.set_cons_zero, List.set_cons_succ]
    refine takeH (fuel := 11) (i := 11) (v := undef) rfl (by kernel_rfl) (by kernel_rfl) (by kernel_rfl) (fun _ _ _ h => h) (Or.inr ⟨rfl, rfl⟩) hS ?_
    simp only [Act.put, List.setIfInBounds_toArray, List.set_cons_zero, List.set_cons_succ]
    refine takeH (fuel := 10) (i := 12) (v := undef) rfl (by kernel_rfl) (by kernel_rfl) (by kernel_rfl) (fun _ _ _ h => h) (Or.inr ⟨rfl, rfl⟩) hS ?_
    simp only [Act.put, List.setIfInBounds_toArray, List.set_cons_zero, List.set_cons_succ]
    refine takeH (fuel := 9) (i := 14) (v := undef) rfl (by kernel_rfl) (by kernel_rfl) (by kernel_rfl) (fun _ _ _ h => h) (Or.inr ⟨rfl, rfl⟩) hS ?_
    simp only [Act.put, List.setIfInBounds_toArray, List.set_cons_zero, List.set_cons_succ]
    refine takeH (fuel := 8) (i := 15) (v := undef) rfl (by kernel_rfl) (by kernel_rfl) (by kernel_rfl) (fun _ _ _ h => h) (Or.inr ⟨rfl, rfl⟩) hS ?_
    simp only [Act.put, List.setIfInBounds_toArray, List.set_cons_zero, List.set_cons_succ]
    refine consH (fuel := 7) (i := 13) rfl (by kernel_rfl) (fun K hK => ?_)
    rw [if_neg (by first | exact Bool.false_ne_true | decide | (intro h; cases h))]
    refine hK.out _ _ hS (fun hS8 => ?_)
    clear hK
    try simp only [Act.put, List.setIfInBounds_toArray, List.set_cons_zero, List.set_cons_succ]
    refine takeH (fuel := 6) (i := 16) (v := undef) rfl (by kernel_rfl) (by kernel_rfl) (by kernel_rfl) (fun _ _ _ h => h) (Or.inr ⟨rfl, rfl⟩) hS8 ?_
    simp only [Act.put, List.setIfInBounds_toArray, List.set_cons_zero, List.set_cons_succ]
    refine takeH (fuel := 5) (i := 17) (v := undef) rfl (by kernel_rfl) (by kernel_rfl) (by kernel_rfl) (fun _ _ _ h => h) (Or.inr ⟨rfl, rfl⟩) hS8 ?_
    simp only [Act.put, List.setIfInBounds_toArray, List.set_cons_zero, List.set_cons_succ]
    refine takeH (fuel := 4) (i := 18) (v := .bool true) rfl (by kernel_rfl) (by kernel_rfl) (by kernel_rfl) (fun _ _ _ h => h) (Or.inl ⟨rfl, fun _ _ => rfl⟩) hS8 ?_
    simp only [Act.put, List.setIfInBounds_toArray, List.set_cons_zero, List.set_cons_succ]
    refine takeH (fuel := 3) (i := 19) (v := .bool true) rfl (by kernel_rfl) (by kernel_rfl) (by kernel_rfl) (fun _ _ _ h => h) (Or.inl ⟨rfl, fun _ _ => rfl⟩) hS8 ?_
    simp only [Act.put, List.setIfInBounds_toArray, List.set_cons_zero, List.set_cons_succ]
    refine consH (fuel := 2) (i := 20) rfl (by kernel_rfl) (fun K hK => ?_)
    rw [if_pos (by rfl)]
    go_simp
    refine (awake _).mono ?_
    rintro e w9 ⟨rfl, hb9⟩
    refine hK.out _ _ ⟨hS8.1.keep hb9.out, bt hS8.2 hb9.out⟩ (fun hS9 => ?_)
    clear hK
    try simp only [Act.put, List.setIfInBounds_toArray, List.set_cons_zero, List.set_cons_succ]
    refine takeH (fuel := 1) (i := 21) (v := .bool true) rfl (by kernel_rfl) (by kernel_rfl) (by kernel_rfl) (fun _ _ _ h => h) (Or.inl ⟨rfl, fun _ _ => rfl⟩) hS9 ?_
    simp only [Act.put, List.setIfInBounds_toArray, List.set_cons_zero, List.set_cons_succ]
    refine takeH (fuel := 0) (i := 22) (v := .bool true) rfl (by kernel_rfl) (by kernel_rfl) (by kernel_rfl) (fun _ _ _ h => h) (Or.inl ⟨rfl, fun _ _ => rfl⟩) hS9 ?_
    simp only [Act.put, List.setIfInBounds_toArray, List.set_cons_zero, List.set_cons_succ]
    refine wpAnyH_done (by kernel_rfl) ?_ _
    have HB9 : Hid (Below w.heap.size w w9) := hS9.2
    clear hS hS8 hS9
    go_wp2_with fail
    go_ret
    exact KP.mk rfl HB9.out
  · have n2 : 15 < kk := by have := HO.out; omega
    have n1b : decide (kk < 1) = false := decide_eq_false n1
    have n2b : decide (15 < kk) = true := decide_eq_true n2
    refine wp_region_held (S := fun W => Bx W w.heap.size M 35 ∧ Below w.heap.size w W) (by kernel_rfl) ?_
    change wpAnyH _ _ _ _ _ 23 #[false, false, false, false, false, false, false, false, false, false, false, false, false, false, false, false, false, false, false, false, false, false, false] _ _
    have hS : Bx w7.drew w.heap.size M 35 ∧ Below w.heap.size w w7.drew := ⟨HX7.out, bdrw HB7.out 1⟩
    clear HX7 HB7
    refine takeH (fuel := 22) (i := 0) (v := .pointer (some ⟨w.heap.size, 0, none⟩)) rfl (by kernel_rfl) (by kernel_rfl) (by kernel_rfl) (fun _ _ _ h => h) (Or.inl ⟨rfl, fun W hW => by go_simp⟩) hS ?_
    simp only [Act.put, List.setIfInBounds_toArray, List.set_cons_zero, List.set_cons_succ]
    refine takeH (fuel := 21) (i := 1) (v := .int .i64 kk) rfl (by kernel_rfl) (by kernel_rfl) (by kernel_rfl) (fun _ _ _ h => h) (Or.inl ⟨rfl, fun W hW => by have c0 := HM0.out W hW.1; go_simp⟩) hS ?_
    simp only [Act.put, List.setIfInBounds_toArray, List.set_cons_zero, List.set_cons_succ]
    refine takeH (fuel := 20) (i := 2) (v := .bool false) rfl (by kernel_rfl) (by kernel_rfl) (by kernel_rfl) (fun _ _ _ h => h) (Or.inl ⟨rfl, fun W hW => by go_simp⟩) hS ?_
    simp only [Act.put, List.setIfInBounds_toArray, List.set_cons_zero, List.set_cons_succ]
    refine takeH (fuel := 19) (i := 3) (v := .bool false) rfl (by kernel_rfl) (by kernel_rfl) (by kernel_rfl) (fun _ _ _ h => h) (Or.inl ⟨rfl, fun _ _ => rfl⟩) hS ?_
    simp only [Act.put, List.setIfInBounds_toArray, List.set_cons_zero, List.set_cons_succ]
    refine takeH (fuel := 18) (i := 4) (v := .pointer (some ⟨w.heap.size, 0, none⟩)) rfl (by kernel_rfl) (by kernel_rfl) (by kernel_rfl) (fun _ _ _ h => h) (Or.inl ⟨rfl, fun W hW => by go_simp⟩) hS ?_
    simp only [Act.put, List.setIfInBounds_toArray, List.set_cons_zero, List.set_cons_succ]
    refine takeH (fuel := 17) (i := 5) (v := .int .i64 kk) rfl (by kernel_rfl) (by kernel_rfl) (by kernel_rfl) (fun _ _ _ h => h) (Or.inl ⟨rfl, fun W hW => by have c0 := HM0.out W hW.1; go_simp⟩) hS ?_
    simp only [Act.put, List.setIfInBounds_toArray, List.set_cons_zero, List.set_cons_succ]
    refine takeH (fuel := 16) (i := 6) (v := .bool true) rfl (by kernel_rfl) (by kernel_rfl) (by kernel_rfl) (fun _ _ _ h => h) (Or.inl ⟨rfl, fun W hW => by go_simp⟩) hS ?_
    simp only [Act.put, List.setIfInBounds_toArray, List.set_cons_zero, List.set_cons_succ]
    refine takeH (fuel := 15) (i := 7) (v := .bool true) rfl (by kernel_rfl) (by kernel_rfl) (by kernel_rfl) (fun _ _ _ h => h) (Or.inl ⟨rfl, fun _ _ => rfl⟩) hS ?_
    simp only [Act.put, List.setIfInBounds_toArray, List.set_cons_zero, List.set_cons_succ]
    refine takeH (fuel := 14) (i := 8) (v := .bool true) rfl (by kernel_rfl) (by kernel_rfl) (by kernel_rfl) (fun _ _ _ h => h) (Or.inl ⟨rfl, fun _ _ => rfl⟩) hS ?_
    simp only [Act.put, List.setIfInBounds_toArray, List.set_cons_zero, List.set_cons_succ]
    refine takeH (fuel := 13) (i := 9) (v := undef) rfl (by kernel_rfl) (by kernel_rfl) (by kernel_rfl) (fun _ _ _ h => h) (Or.inr ⟨rfl, rfl⟩) hS ?_
    simp only [Act.put, List.setIfInBounds_toArray, List.set_cons_zero, List.set_cons_succ]
    refine takeH (fuel := 12) (i := 10) (v := undef) rfl (by kernel_rfl) (by kernel_rfl) (by kernel_rfl) (fun _ _ _ h => h) (Or.inr ⟨rfl, rfl⟩) hS ?_
    simp only [Act.put, List.setIfInBounds_toArray, List.set_cons_zero, List.set_cons_succ]
    refine takeH (fuel := 11) (i := 11) (v := undef) rfl (by kernel_rfl) (by kernel_rfl) (by kernel_rfl) (fun _ _ _ h => h) (Or.inr ⟨rfl, rfl⟩) hS ?_
    simp only [Act.put, List.setIfInBounds_toArray, List.set_cons_zero, List.set_cons_succ]
    refine takeH (fuel := 10) (i := 12) (v := undef) rfl (by kernel_rfl) (by kernel_rfl) (by kernel_rfl) (fun _ _ _ h => h) (Or.inr ⟨rfl, rfl⟩) hS ?_
    simp only [Act.put, List.setIfInBounds_toArray, List.set_cons_zero, List.set_cons_succ]
    refine takeH (fuel := 9) (i := 14) (v := undef) rfl (by kernel_rfl) (by kernel_rfl) (by kernel_rfl) (fun _ _ _ h => h) (Or.inr ⟨rfl, rfl⟩) hS ?_
    simp only [Act.put, List.setIfInBounds_toArray, List.set_cons_zero, List.set_cons_succ]
    refine takeH (fuel := 8) (i := 15) (v := undef) rfl (by kernel_rfl) (by kernel_rfl) (by kernel_rfl) (fun _ _ _ h => h) (Or.inr ⟨rfl, rfl⟩) hS ?_
    simp only [Act.put, List.setIfInBounds_toArray, List.set_cons_zero, List.set_cons_succ]
    refine consH (fuel := 7) (i := 13) rfl (by kernel_rfl) (fun K hK => ?_)
    rw [if_neg (by first | exact Bool.false_ne_true | decide | (intro h; cases h))]
    refine hK.out _ _ hS (fun hS8 => ?_)
    clear hK
    try simp only [Act.put, List.setIfInBounds_toArray, List.set_cons_zero, List.set_cons_succ]
    refine takeH (fuel := 6) (i := 16) (v := undef) rfl (by kernel_rfl) (by kernel_rfl) (by kernel_rfl) (fun _ _ _ h => h) (Or.inr ⟨rfl, rfl⟩) hS8 ?_
    simp only [Act.put, List.setIfInBounds_toArray, List.set_cons_zero, List.set_cons_succ]
    refine takeH (fuel := 5) (i := 17) (v := undef) rfl (by kernel_rfl) (by kernel_rfl) (by kernel_rfl) (fun _ _ _ h => h) (Or.inr ⟨rfl, rfl⟩) hS8 ?_
    simp only [Act.put, List.setIfInBounds_toArray, List.set_cons_zero, List.set_cons_succ]
    refine takeH (fuel := 4) (i := 18) (v := .bool true) rfl (by kernel_rfl) (by kernel_rfl) (by kernel_rfl) (fun _ _ _ h => h) (Or.inl ⟨rfl, fun _ _ => rfl⟩) hS8 ?_
    simp only [Act.put, List.setIfInBounds_toArray, List.set_cons_zero, List.set_cons_succ]
    refine takeH (fuel := 3) (i := 19) (v := .bool true) rfl (by kernel_rfl) (by kernel_rfl) (by kernel_rfl) (fun _ _ _ h => h) (Or.inl ⟨rfl, fun _ _ => rfl⟩) hS8 ?_
    simp only [Act.put, List.setIfInBounds_toArray, List.set_cons_zero, List.set_cons_succ]
    refine consH (fuel := 2) (i := 20) rfl (by kernel_rfl) (fun K hK => ?_)
    rw [if_pos (by rfl)]
    go_simp
    refine (awake _).mono ?_
    rintro e w9 ⟨rfl, hb9⟩
    refine hK.out _ _ ⟨hS8.1.keep hb9.out, bt hS8.2 hb9.out⟩ (fun hS9 => ?_)
    clear hK
    try simp only [Act.put, List.setIfInBounds_toArray, List.set_cons_zero, List.set_cons_succ]
    refine takeH (fuel := 1) (i := 21) (v := .bool true) rfl (by kernel_rfl) (by kernel_rfl) (by kernel_rfl) (fun _ _ _ h => h) (Or.inl ⟨rfl, fun _ _ => rfl⟩) hS9 ?_
    simp only [Act.put, List.setIfInBounds_toArray, List.set_cons_zero, List.set_cons_succ]
    refine takeH (fuel := 0) (i := 22) (v := .bool true) rfl (by kernel_rfl) (by kernel_rfl) (by kernel_rfl) (fun _ _ _ h => h) (Or.inl ⟨rfl, fun _ _ => rfl⟩) hS9 ?_
    simp only [Act.put, List.setIfInBounds_toArray, List.set_cons_zero, List.set_cons_succ]
    refine wpAnyH_done (by kernel_rfl) ?_ _
    have HB9 : Hid (Below w.heap.size w w9) := hS9.2
    clear hS hS8 hS9
    go_wp2_with fail
    go_ret
    exact KP.mk rfl HB9.out
set_option maxHeartbeats 8000000 in
theorem lChecks1 (M : Array Value) (hsz : M.size = 36) (x0 : Int) (x1 : ByteArray)  (hM0 : M[0]? = some (.int .i64 1)) (w : World) (cv : Nat) (sv : Int)
    (hsm : ∀ W, Calls Tryz.prog 9 #[.agg M] W (KP (.bool true) W)) (hof : ∀ W, Calls Tryz.prog 11 #[.agg M] W (KP (.iface 76 (.agg #[.int .i64 x0, .string x1])) W))
    (h12 : ∀ W, Below w.heap.size w W → Calls Tryz.prog 12 #[.iface 76 (.agg #[.int .i64 x0, .string x1])] W (KP (.int .i64 cv) W)) (h13 : ∀ W, Below w.heap.size w W → Calls Tryz.prog 13 #[.agg M] W (KP (.int .i64 cv) W))
    (h14 : ∀ W, Calls Tryz.prog 14 #[.iface 76 (.agg #[.int .i64 x0, .string x1])] W (KP (.int .i64 sv) W)) (h15 : ∀ W, Calls Tryz.prog 15 #[.agg M] W (KP (.int .i64 sv) W)) : Calls Tryz.prog 3 #[.agg M] w (KP (.bool true) w) := by
  have HOF : Hid (∀ W, Calls Tryz.prog 11 #[.agg M] W (KP (.iface 76 (.agg #[.int .i64 x0, .string x1])) W)) := hof
  have H12 : Hid (∀ W, Below w.heap.size w W → Calls Tryz.prog 12 #[.iface 76 (.agg #[.int .i64 x0, .string x1])] W (KP (.int .i64 cv) W)) := h12
  have H13 : Hid (∀ W, Below w.heap.size w W → Calls Tryz.prog 13 #[.agg M] W (KP (.int .i64 cv) W)) := h13
  have H14 : Hid (∀ W, Calls Tryz.prog 14 #[.iface 76 (.agg #[.int .i64 x0, .string x1])] W (KP (.int .i64 sv) W)) := h14
  have H15 : Hid (∀ W, Calls Tryz.prog 15 #[.agg M] W (KP (.int .i64 sv) W)) := h15
  have HSM : Hid (∀ W, Calls Tryz.prog 9 #[.agg M] W (KP (.bool true) W)) := hsm
  have HM0 : Hid (∀ W, Bx W w.heap.size M 35 → W.cell? ⟨w.heap.size, 0, none⟩ = some (.int .i64 1)) := fun W h => (h.cell 0).trans hM0
  have HX0 : Hid (Bx (w.alloc (.cells M 35)) w.heap.size M 35) := Bx.new _ _ _
  have HB0 : Hid (Below w.heap.size w (w.alloc (.cells M 35))) := below_a w _
  have HLD : Hid (∀ W, Bx W w.heap.size M 35 → (Instr.loadAt 35 (.pointer (some ⟨w.heap.size, 0, none⟩))).run Tryz.prog W = .ok (.agg M) W) := fun W h => hloadAt W w.heap.size M hsz h
  clear hof h12 h13 h14 h15 hsm hM0
  go_enter Tryz.func3, Tryz.ntmps3
  go_upto_region 1 with fail
  generalize hw1 : w.alloc (.cells M 35) = w1 at *
  have HX : Hid (Bx w1 w.heap.size M 35) := HX0.out
  have HB : Hid (Below w.heap.size w w1) := HB0.out
  clear HX0 HB0 hw1
  go_wp2_with (guard_target =~ wpList _ _ _ (⟨_, Op.load 35 _, _, _, _, _⟩ :: _) _ _; refine wl_load _ rfl 35 _ rfl _ rfl _ (HLD.out _ HX.out) ?_; go_simp)
  refine (HSM.out _).mono ?_
  rintro e w2 ⟨rfl, hb2⟩
  have HX2 : Hid (Bx w2 w.heap.size M 35) := HX.out.keep hb2.out
  have HB2 : Hid (Below w.heap.size w w2) := bt HB.out hb2.out
  clear hb2 HX HB HSM
  go_wp2_with (guard_target =~ wpList _ _ _ (⟨_, Op.load 35 _, _, _, _, _⟩ :: _) _ _; refine wl_load _ rfl 35 _ rfl _ rfl _ (HLD.out _ HX2.out) ?_; go_simp)
  refine (HOF.out _).mono ?_
  rintro e w3 ⟨rfl, hb3⟩
  have HX3 : Hid (Bx w3 w.heap.size M 35) := HX2.out.keep hb3.out
  have HB3 : Hid (Below w.heap.size w w3) := bt HB2.out hb3.out
  clear hb3 HX2 HB2 HOF
  go_wp2_with fail
  refine wp_region_held (S := fun W => Bx W w.heap.size M 35 ∧ Below w.heap.size w W) (by kernel_rfl) ?_
  change wpAnyH _ _ _ _ _ 12 #[false, false, false, false, false, false, false, false, false, false, false, false] _ _
  have hS : Bx w3.drew w.heap.size M 35 ∧ Below w.heap.size w w3.drew := ⟨HX3.out, bdrw HB3.out 1⟩
  clear HX3 HB3
  refine takeH (fuel := 11) (i := 0) (v := .iface 76 (.agg #[.int .i64 x0, .string x1])) rfl (by kernel_rfl) (by kernel_rfl) (by kernel_rfl) (fun _ _ _ h => h) (Or.inl ⟨rfl, fun _ _ => rfl⟩) hS ?_
  simp only [Act.put, List.setIfInBounds_toArray, List.set_cons_zero, List.set_cons_succ]
  refine takeH (fuel := 10) (i := 2) (v := .agg M) rfl (by kernel_rfl) (by kernel_rfl) (by kernel_rfl) (fun _ _ _ h => h) (Or.inl ⟨rfl, fun W hW => ex_load _ _ _ _ rfl _ _ rfl (HLD.out W hW.1)⟩) hS ?_
  simp only [Act.put, List.setIfInBounds_toArray, List.set_cons_zero, List.set_cons_succ]
  refine consH (fuel := 9) (i := 1) rfl (by kernel_rfl) (fun K hK => ?_)
  rw [if_pos (by rfl)]
  go_simp
  refine (H12.out _ hS.2).mono ?_
  rintro e w4 ⟨rfl, hb4⟩
  refine hK.out _ _ ⟨hS.1.keep hb4.out, bt hS.2 hb4.out⟩ (fun hS4 => ?_)
  clear hK
  try simp only [Act.put, List.setIfInBounds_toArray, List.set_cons_zero, List.set_cons_succ]
  refine consH (fuel := 8) (i := 3) rfl (by kernel_rfl) (fun K hK => ?_)
  rw [if_pos (by rfl)]
  go_simp
  refine (H13.out _ hS4.2).mono ?_
  rintro e w5 ⟨rfl, hb5⟩
  refine hK.out _ _ ⟨hS4.1.keep hb5.out, bt hS4.2 hb5.out⟩ (fun hS5 => ?_)
  clear hK
  try simp only [Act.put, List.setIfInBounds_toArray, List.set_cons_zero, List.set_cons_succ]
  refine takeH (fuel := 7) (i := 4) (v := .bool false) rfl (by kernel_rfl) (by kernel_rfl) (by kernel_rfl) (fun _ _ _ h => h) (Or.inl ⟨rfl, fun W hW => by go_simp⟩) hS5 ?_
  simp only [Act.put, List.setIfInBounds_toArray, List.set_cons_zero, List.set_cons_succ]
  refine takeH (fuel := 6) (i := 5) (v := .bool false) rfl (by kernel_rfl) (by kernel_rfl) (by kernel_rfl) (fun _ _ _ h => h) (Or.inl ⟨rfl, fun _ _ => rfl⟩) hS5 ?_
  simp only [Act.put, List.setIfInBounds_toArray, List.set_cons_zero, List.set_cons_succ]
  refine takeH (fuel := 5) (i := 6) (v := .iface 76 (.agg #[.int .i64 x0, .string x1])) rfl (by kernel_rfl) (by kernel_rfl) (by kernel_rfl) (fun _ _ _ h => h) (Or.inl ⟨rfl, fun _ _ => rfl⟩) hS5 ?_
  simp only [Act.put, List.setIfInBounds_toArray, List.set_cons_zero, List.set_cons_succ]
  refine takeH (fuel := 4) (i := 8) (v := .agg M) rfl (by kernel_rfl) (by kernel_rfl) (by kernel_rfl) (fun _ _ _ h => h) (Or.inl ⟨rfl, fun W hW => ex_load _ _ _ _ rfl _ _ rfl (HLD.out W hW.1)⟩) hS5 ?_
  simp only [Act.put, List.setIfInBounds_toArray, List.set_cons_zero, List.set_cons_succ]
  refine consH (fuel := 3) (i := 7) rfl (by kernel_rfl) (fun K hK => ?_)
  rw [if_pos (by rfl)]
  go_simp
  refine (H14.out _).mono ?_
  rintro e w6 ⟨rfl, hb6⟩
  refine hK.out _ _ ⟨hS5.1.keep hb6.out, bt hS5.2 hb6.out⟩ (fun hS6 => ?_)
  clear hK
  try simp only [Act.put, List.setIfInBounds_toArray, List.set_cons_zero, List.set_cons_succ]
  refine consH (fuel := 2) (i := 9) rfl (by kernel_rfl) (fun K hK => ?_)
  rw [if_pos (by rfl)]
  go_simp
  refine (H15.out _).mono ?_
  rintro e w7 ⟨rfl, hb7⟩
  refine hK.out _ _ ⟨hS6.1.keep hb7.out, bt hS6.2 hb7.out⟩ (fun hS7 => ?_)
  clear hK
  try simp only [Act.put, List.setIfInBounds_toArray, List.set_cons_zero, List.set_cons_succ]
  refine takeH (fuel := 1) (i := 10) (v := .bool false) rfl (by kernel_rfl) (by kernel_rfl) (by kernel_rfl) (fun _ _ _ h => h) (Or.inl ⟨rfl, fun W hW => by go_simp⟩) hS7 ?_
  simp only [Act.put, List.setIfInBounds_toArray, List.set_cons_zero, List.set_cons_succ]
  refine takeH (fuel := 0) (i := 11) (v := .bool false) rfl (by kernel_rfl) (by kernel_rfl) (by kernel_rfl) (fun _ _ _ h => h) (Or.inl ⟨rfl, fun _ _ => rfl⟩) hS7 ?_
  simp only [Act.put, List.setIfInBounds_toArray, List.set_cons_zero, List.set_cons_succ]
  refine wpAnyH_done (by kernel_rfl) ?_ _
  have HX7 : Hid (Bx w7 w.heap.size M 35) := hS7.1
  have HB7 : Hid (Below w.heap.size w w7) := hS7.2
  clear hS hS4 hS5 hS6 hS7 hb4 hb5 hb6 hb7 H12 H13 H14 H15
  go_wp2_with fail
  refine wp_region_held (S := fun W => Bx W w.heap.size M 35 ∧ Below w.heap.size w W) (by kernel_rfl) ?_
  change wpAnyH _ _ _ _ _ 23 #[false, false, false, false, false, false, false, false, false, false, false, false, false, false, false, false, false, false, false, false, false, false, false] _ _
  have hS : Bx w7.drew w.heap.size M 35 ∧ Below w.heap.size w w7.drew := ⟨HX7.out, bdrw HB7.out 1⟩
  clear HX7 HB7
  refine takeH (fuel := 22) (i := 0) (v := .pointer (some ⟨w.heap.size, 0, none⟩)) rfl (by kernel_rfl) (by kernel_rfl) (by kernel_rfl) (fun _ _ _ h => h) (Or.inl ⟨rfl, fun W hW => by go_simp⟩) hS ?_
  simp only [Act.put, List.setIfInBounds_toArray, List.set_cons_zero, List.set_cons_succ]
  refine takeH (fuel := 21) (i := 1) (v := .int .i64 1) rfl (by kernel_rfl) (by kernel_rfl) (by kernel_rfl) (fun _ _ _ h => h) (Or.inl ⟨rfl, fun W hW => by have c0 := HM0.out W hW.1; go_simp⟩) hS ?_
  simp only [Act.put, List.setIfInBounds_toArray, List.set_cons_zero, List.set_cons_succ]
  refine takeH (fuel := 20) (i := 2) (v := .bool false) rfl (by kernel_rfl) (by kernel_rfl) (by kernel_rfl) (fun _ _ _ h => h) (Or.inl ⟨rfl, fun W hW => by go_simp⟩) hS ?_
  simp only [Act.put, List.setIfInBounds_toArray, List.set_cons_zero, List.set_cons_succ]
  refine takeH (fuel := 19) (i := 3) (v := .bool false) rfl (by kernel_rfl) (by kernel_rfl) (by kernel_rfl) (fun _ _ _ h => h) (Or.inl ⟨rfl, fun _ _ => rfl⟩) hS ?_
  simp only [Act.put, List.setIfInBounds_toArray, List.set_cons_zero, List.set_cons_succ]
  refine takeH (fuel := 18) (i := 4) (v := .pointer (some ⟨w.heap.size, 0, none⟩)) rfl (by kernel_rfl) (by kernel_rfl) (by kernel_rfl) (fun _ _ _ h => h) (Or.inl ⟨rfl, fun W hW => by go_simp⟩) hS ?_
  simp only [Act.put, List.setIfInBounds_toArray, List.set_cons_zero, List.set_cons_succ]
  refine takeH (fuel := 17) (i := 5) (v := .int .i64 1) rfl (by kernel_rfl) (by kernel_rfl) (by kernel_rfl) (fun _ _ _ h => h) (Or.inl ⟨rfl, fun W hW => by have c0 := HM0.out W hW.1; go_simp⟩) hS ?_
  simp only [Act.put, List.setIfInBounds_toArray, List.set_cons_zero, List.set_cons_succ]
  refine takeH (fuel := 16) (i := 6) (v := .bool false) rfl (by kernel_rfl) (by kernel_rfl) (by kernel_rfl) (fun _ _ _ h => h) (Or.inl ⟨rfl, fun W hW => by go_simp⟩) hS ?_
  simp only [Act.put, List.setIfInBounds_toArray, List.set_cons_zero, List.set_cons_succ]
  refine takeH (fuel := 15) (i := 7) (v := .bool false) rfl (by kernel_rfl) (by kernel_rfl) (by kernel_rfl) (fun _ _ _ h => h) (Or.inl ⟨rfl, fun _ _ => rfl⟩) hS ?_
  simp only [Act.put, List.setIfInBounds_toArray, List.set_cons_zero, List.set_cons_succ]
  refine takeH (fuel := 14) (i := 8) (v := .bool false) rfl (by kernel_rfl) (by kernel_rfl) (by kernel_rfl) (fun _ _ _ h => h) (Or.inl ⟨rfl, fun _ _ => rfl⟩) hS ?_
  simp only [Act.put, List.setIfInBounds_toArray, List.set_cons_zero, List.set_cons_succ]
  refine takeH (fuel := 13) (i := 9) (v := .iface 76 (.agg #[.int .i64 x0, .string x1])) rfl (by kernel_rfl) (by kernel_rfl) (by kernel_rfl) (fun _ _ _ h => h) (Or.inl ⟨rfl, fun _ _ => rfl⟩) hS ?_
  simp only [Act.put, List.setIfInBounds_toArray, List.set_cons_zero, List.set_cons_succ]
  refine takeH (fuel := 12) (i := 10) (v := .bool true) rfl (by kernel_rfl) (by kernel_rfl) (by kernel_rfl) (fun _ _ _ h => h) (Or.inl ⟨rfl, fun W hW => by go_simp⟩) hS ?_
  simp only [Act.put, List.setIfInBounds_toArray, List.set_cons_zero, List.set_cons_succ]
  refine takeH (fuel := 11) (i := 11) (v := .bool true) rfl (by kernel_rfl) (by kernel_rfl) (by kernel_rfl) (fun _ _ _ h => h) (Or.inl ⟨rfl, fun _ _ => rfl⟩) hS ?_
  simp only [Act.put, List.setIfInBounds_toArray, List.set_cons_zero, List.set_cons_succ]
  refine takeH (fuel := 10) (i := 12) (v := .iface 76 (.agg #[.int .i64 x0, .string x1])) rfl (by kernel_rfl) (by kernel_rfl) (by kernel_rfl) (fun _ _ _ h => h) (Or.inl ⟨rfl, fun _ _ => rfl⟩) hS ?_
  simp only [Act.put, List.setIfInBounds_toArray, List.set_cons_zero, List.set_cons_succ]
  refine takeH (fuel := 9) (i := 14) (v := .pointer (some ⟨w.heap.size, 0, none⟩)) rfl (by kernel_rfl) (by kernel_rfl) (by kernel_rfl) (fun _ _ _ h => h) (Or.inl ⟨rfl, fun W hW => by go_simp⟩) hS ?_
  simp only [Act.put, List.setIfInBounds_toArray, List.set_cons_zero, List.set_cons_succ]
  refine takeH (fuel := 8) (i := 15) (v := .int .i64 1) rfl (by kernel_rfl) (by kernel_rfl) (by kernel_rfl) (fun _ _ _ h => h) (Or.inl ⟨rfl, fun W hW => by have c0 := HM0.out W hW.1; go_simp⟩) hS ?_
  simp only [Act.put, List.setIfInBounds_toArray, List.set_cons_zero, List.set_cons_succ]
  refine consH (fuel := 7) (i := 13) rfl (by kernel_rfl) (fun K hK => ?_)
  rw [if_pos (by rfl)]
  go_simp
  refine (kind1 x0 x1 _).mono ?_
  rintro e w8 ⟨rfl, hb8⟩
  refine hK.out _ _ ⟨hS.1.keep hb8.out, bt hS.2 hb8.out⟩ (fun hS8 => ?_)
  clear hK
  try simp only [Act.put, List.setIfInBounds_toArray, List.set_cons_zero, List.set_cons_succ]
  refine takeH (fuel := 6) (i := 16) (v := .bool true) rfl (by kernel_rfl) (by kernel_rfl) (by kernel_rfl) (fun _ _ _ h => h) (Or.inl ⟨rfl, fun W hW => by go_simp⟩) hS8 ?_
  simp only [Act.put, List.setIfInBounds_toArray, List.set_cons_zero, List.set_cons_succ]
  refine takeH (fuel := 5) (i := 17) (v := .bool true) rfl (by kernel_rfl) (by kernel_rfl) (by kernel_rfl) (fun _ _ _ h => h) (Or.inl ⟨rfl, fun _ _ => rfl⟩) hS8 ?_
  simp only [Act.put, List.setIfInBounds_toArray, List.set_cons_zero, List.set_cons_succ]
  refine takeH (fuel := 4) (i := 18) (v := .bool true) rfl (by kernel_rfl) (by kernel_rfl) (by kernel_rfl) (fun _ _ _ h => h) (Or.inl ⟨rfl, fun _ _ => rfl⟩) hS8 ?_
  simp only [Act.put, List.setIfInBounds_toArray, List.set_cons_zero, List.set_cons_succ]
  refine takeH (fuel := 3) (i := 19) (v := .bool true) rfl (by kernel_rfl) (by kernel_rfl) (by kernel_rfl) (fun _ _ _ h => h) (Or.inl ⟨rfl, fun _ _ => rfl⟩) hS8 ?_
  simp only [Act.put, List.setIfInBounds_toArray, List.set_cons_zero, List.set_cons_succ]
  refine consH (fuel := 2) (i := 20) rfl (by kernel_rfl) (fun K hK => ?_)
  rw [if_pos (by rfl)]
  go_simp
  refine (awake _).mono ?_
  rintro e w9 ⟨rfl, hb9⟩
  refine hK.out _ _ ⟨hS8.1.keep hb9.out, bt hS8.2 hb9.out⟩ (fun hS9 => ?_)
  clear hK
  try simp only [Act.put, List.setIfInBounds_toArray, List.set_cons_zero, List.set_cons_succ]
  refine takeH (fuel := 1) (i := 21) (v := .bool true) rfl (by kernel_rfl) (by kernel_rfl) (by kernel_rfl) (fun _ _ _ h => h) (Or.inl ⟨rfl, fun _ _ => rfl⟩) hS9 ?_
  simp only [Act.put, List.setIfInBounds_toArray, List.set_cons_zero, List.set_cons_succ]
  refine takeH (fuel := 0) (i := 22) (v := .bool true) rfl (by kernel_rfl) (by kernel_rfl) (by kernel_rfl) (fun _ _ _ h => h) (Or.inl ⟨rfl, fun _ _ => rfl⟩) hS9 ?_
  simp only [Act.put, List.setIfInBounds_toArray, List.set_cons_zero, List.set_cons_succ]
  refine wpAnyH_done (by kernel_rfl) ?_ _
  have HB9 : Hid (Below w.heap.size w w9) := hS9.2
  clear hS hS8 hS9
  go_wp2_with fail
  go_ret
  exact KP.mk rfl HB9.out
set_option maxHeartbeats 8000000 in
theorem lChecks2 (M : Array Value) (hsz : M.size = 36) (x0 : ByteArray) (x1 : Int) (x2 : Int) (x3 : Int) (x4 : ByteArray)  (hM0 : M[0]? = some (.int .i64 2)) (w : World) (cv : Nat) (sv : Int)
    (hsm : ∀ W, Calls Tryz.prog 9 #[.agg M] W (KP (.bool true) W)) (hof : ∀ W, Calls Tryz.prog 11 #[.agg M] W (KP (.iface 78 (.agg #[.string x0, .int .i64 x1, .int .i64 x2, .int .i64 x3, .string x4])) W))
    (h12 : ∀ W, Below w.heap.size w W → Calls Tryz.prog 12 #[.iface 78 (.agg #[.string x0, .int .i64 x1, .int .i64 x2, .int .i64 x3, .string x4])] W (KP (.int .i64 cv) W)) (h13 : ∀ W, Below w.heap.size w W → Calls Tryz.prog 13 #[.agg M] W (KP (.int .i64 cv) W))
    (h14 : ∀ W, Calls Tryz.prog 14 #[.iface 78 (.agg #[.string x0, .int .i64 x1, .int .i64 x2, .int .i64 x3, .string x4])] W (KP (.int .i64 sv) W)) (h15 : ∀ W, Calls Tryz.prog 15 #[.agg M] W (KP (.int .i64 sv) W)) : Calls Tryz.prog 3 #[.agg M] w (KP (.bool true) w) := by
  have HOF : Hid (∀ W, Calls Tryz.prog 11 #[.agg M] W (KP (.iface 78 (.agg #[.string x0, .int .i64 x1, .int .i64 x2, .int .i64 x3, .string x4])) W)) := hof
  have H12 : Hid (∀ W, Below w.heap.size w W → Calls Tryz.prog 12 #[.iface 78 (.agg #[.string x0, .int .i64 x1, .int .i64 x2, .int .i64 x3, .string x4])] W (KP (.int .i64 cv) W)) := h12
  have H13 : Hid (∀ W, Below w.heap.size w W → Calls Tryz.prog 13 #[.agg M] W (KP (.int .i64 cv) W)) := h13
  have H14 : Hid (∀ W, Calls Tryz.prog 14 #[.iface 78 (.agg #[.string x0, .int .i64 x1, .int .i64 x2, .int .i64 x3, .string x4])] W (KP (.int .i64 sv) W)) := h14
  have H15 : Hid (∀ W, Calls Tryz.prog 15 #[.agg M] W (KP (.int .i64 sv) W)) := h15
  have HSM : Hid (∀ W, Calls Tryz.prog 9 #[.agg M] W (KP (.bool true) W)) := hsm
  have HM0 : Hid (∀ W, Bx W w.heap.size M 35 → W.cell? ⟨w.heap.size, 0, none⟩ = some (.int .i64 2)) := fun W h => (h.cell 0).trans hM0
  have HX0 : Hid (Bx (w.alloc (.cells M 35)) w.heap.size M 35) := Bx.new _ _ _
  have HB0 : Hid (Below w.heap.size w (w.alloc (.cells M 35))) := below_a w _
  have HLD : Hid (∀ W, Bx W w.heap.size M 35 → (Instr.loadAt 35 (.pointer (some ⟨w.heap.size, 0, none⟩))).run Tryz.prog W = .ok (.agg M) W) := fun W h => hloadAt W w.heap.size M hsz h
  clear hof h12 h13 h14 h15 hsm hM0
  go_enter Tryz.func3, Tryz.ntmps3
  go_upto_region 1 with fail
  generalize hw1 : w.alloc (.cells M 35) = w1 at *
  have HX : Hid (Bx w1 w.heap.size M 35) := HX0.out
  have HB : Hid (Below w.heap.size w w1) := HB0.out
  clear HX0 HB0 hw1
  go_wp2_with (guard_target =~ wpList _ _ _ (⟨_, Op.load 35 _, _, _, _, _⟩ :: _) _ _; refine wl_load _ rfl 35 _ rfl _ rfl _ (HLD.out _ HX.out) ?_; go_simp)
  refine (HSM.out _).mono ?_
  rintro e w2 ⟨rfl, hb2⟩
  have HX2 : Hid (Bx w2 w.heap.size M 35) := HX.out.keep hb2.out
  have HB2 : Hid (Below w.heap.size w w2) := bt HB.out hb2.out
  clear hb2 HX HB HSM
  go_wp2_with (guard_target =~ wpList _ _ _ (⟨_, Op.load 35 _, _, _, _, _⟩ :: _) _ _; refine wl_load _ rfl 35 _ rfl _ rfl _ (HLD.out _ HX2.out) ?_; go_simp)
  refine (HOF.out _).mono ?_
  rintro e w3 ⟨rfl, hb3⟩
  have HX3 : Hid (Bx w3 w.heap.size M 35) := HX2.out.keep hb3.out
  have HB3 : Hid (Below w.heap.size w w3) := bt HB2.out hb3.out
  clear hb3 HX2 HB2 HOF
  go_wp2_with fail
  refine wp_region_held (S := fun W => Bx W w.heap.size M 35 ∧ Below w.heap.size w W) (by kernel_rfl) ?_
  change wpAnyH _ _ _ _ _ 12 #[false, false, false, false, false, false, false, false, false, false, false, false] _ _
  have hS : Bx w3.drew w.heap.size M 35 ∧ Below w.heap.size w w3.drew := ⟨HX3.out, bdrw HB3.out 1⟩
  clear HX3 HB3
  refine takeH (fuel := 11) (i := 0) (v := .iface 78 (.agg #[.string x0, .int .i64 x1, .int .i64 x2, .int .i64 x3, .string x4])) rfl (by kernel_rfl) (by kernel_rfl) (by kernel_rfl) (fun _ _ _ h => h) (Or.inl ⟨rfl, fun _ _ => rfl⟩) hS ?_
  simp only [Act.put, List.setIfInBounds_toArray, List.set_cons_zero, List.set_cons_succ]
  refine takeH (fuel := 10) (i := 2) (v := .agg M) rfl (by kernel_rfl) (by kernel_rfl) (by kernel_rfl) (fun _ _ _ h => h) (Or.inl ⟨rfl, fun W hW => ex_load _ _ _ _ rfl _ _ rfl (HLD.out W hW.1)⟩) hS ?_
  simp only [Act.put, List.setIfInBounds_toArray, List.set_cons_zero, List.set_cons_succ]
  refine consH (fuel := 9) (i := 1) rfl (by kernel_rfl) (fun K hK => ?_)
  rw [if_pos (by rfl)]
  go_simp
  refine (H12.out _ hS.2).mono ?_
  rintro e w4 ⟨rfl, hb4⟩
  refine hK.out _ _ ⟨hS.1.keep hb4.out, bt hS.2 hb4.out⟩ (fun hS4 => ?_)
  clear hK
  try simp only [Act.put, List.setIfInBounds_toArray, List.set_cons_zero, List.set_cons_succ]
  refine consH (fuel := 8) (i := 3) rfl (by kernel_rfl) (fun K hK => ?_)
  rw [if_pos (by rfl)]
  go_simp
  refine (H13.out _ hS4.2).mono ?_
  rintro e w5 ⟨rfl, hb5⟩
  refine hK.out _ _ ⟨hS4.1.keep hb5.out, bt hS4.2 hb5.out⟩ (fun hS5 => ?_)
  clear hK
  try simp only [Act.put, List.setIfInBounds_toArray, List.set_cons_zero, List.set_cons_succ]
  refine takeH (fuel := 7) (i := 4) (v := .bool false) rfl (by kernel_rfl) (by kernel_rfl) (by kernel_rfl) (fun _ _ _ h => h) (Or.inl ⟨rfl, fun W hW => by go_simp⟩) hS5 ?_
  simp only [Act.put, List.setIfInBounds_toArray, List.set_cons_zero, List.set_cons_succ]
  refine takeH (fuel := 6) (i := 5) (v := .bool false) rfl (by kernel_rfl) (by kernel_rfl) (by kernel_rfl) (fun _ _ _ h => h) (Or.inl ⟨rfl, fun _ _ => rfl⟩) hS5 ?_
  simp only [Act.put, List.setIfInBounds_toArray, List.set_cons_zero, List.set_cons_succ]
  refine takeH (fuel := 5) (i := 6) (v := .iface 78 (.agg #[.string x0, .int .i64 x1, .int .i64 x2, .int .i64 x3, .string x4])) rfl (by kernel_rfl) (by kernel_rfl) (by kernel_rfl) (fun _ _ _ h => h) (Or.inl ⟨rfl, fun _ _ => rfl⟩) hS5 ?_
  simp only [Act.put, List.setIfInBounds_toArray, List.set_cons_zero, List.set_cons_succ]
  refine takeH (fuel := 4) (i := 8) (v := .agg M) rfl (by kernel_rfl) (by kernel_rfl) (by kernel_rfl) (fun _ _ _ h => h) (Or.inl ⟨rfl, fun W hW => ex_load _ _ _ _ rfl _ _ rfl (HLD.out W hW.1)⟩) hS5 ?_
  simp only [Act.put, List.setIfInBounds_toArray, List.set_cons_zero, List.set_cons_succ]
  refine consH (fuel := 3) (i := 7) rfl (by kernel_rfl) (fun K hK => ?_)
  rw [if_pos (by rfl)]
  go_simp
  refine (H14.out _).mono ?_
  rintro e w6 ⟨rfl, hb6⟩
  refine hK.out _ _ ⟨hS5.1.keep hb6.out, bt hS5.2 hb6.out⟩ (fun hS6 => ?_)
  clear hK
  try simp only [Act.put, List.setIfInBounds_toArray, List.set_cons_zero, List.set_cons_succ]
  refine consH (fuel := 2) (i := 9) rfl (by kernel_rfl) (fun K hK => ?_)
  rw [if_pos (by rfl)]
  go_simp
  refine (H15.out _).mono ?_
  rintro e w7 ⟨rfl, hb7⟩
  refine hK.out _ _ ⟨hS6.1.keep hb7.out, bt hS6.2 hb7.out⟩ (fun hS7 => ?_)
  clear hK
  try simp only [Act.put, List.setIfInBounds_toArray, List.set_cons_zero, List.set_cons_succ]
  refine takeH (fuel := 1) (i := 10) (v := .bool false) rfl (by kernel_rfl) (by kernel_rfl) (by kernel_rfl) (fun _ _ _ h => h) (Or.inl ⟨rfl, fun W hW => by go_simp⟩) hS7 ?_
  simp only [Act.put, List.setIfInBounds_toArray, List.set_cons_zero, List.set_cons_succ]
  refine takeH (fuel := 0) (i := 11) (v := .bool false) rfl (by kernel_rfl) (by kernel_rfl) (by kernel_rfl) (fun _ _ _ h => h) (Or.inl ⟨rfl, fun _ _ => rfl⟩) hS7 ?_
  simp only [Act.put, List.setIfInBounds_toArray, List.set_cons_zero, List.set_cons_succ]
  refine wpAnyH_done (by kernel_rfl) ?_ _
  have HX7 : Hid (Bx w7 w.heap.size M 35) := hS7.1
  have HB7 : Hid (Below w.heap.size w w7) := hS7.2
  clear hS hS4 hS5 hS6 hS7 hb4 hb5 hb6 hb7 H12 H13 H14 H15
  go_wp2_with fail
  refine wp_region_held (S := fun W => Bx W w.heap.size M 35 ∧ Below w.heap.size w W) (by kernel_rfl) ?_
  change wpAnyH _ _ _ _ _ 23 #[false, false, false, false, false, false, false, false, false, false, false, false, false, false, false, false, false, false, false, false, false, false, false] _ _
  have hS : Bx w7.drew w.heap.size M 35 ∧ Below w.heap.size w w7.drew := ⟨HX7.out, bdrw HB7.out 1⟩
  clear HX7 HB7
  refine takeH (fuel := 22) (i := 0) (v := .pointer (some ⟨w.heap.size, 0, none⟩)) rfl (by kernel_rfl) (by kernel_rfl) (by kernel_rfl) (fun _ _ _ h => h) (Or.inl ⟨rfl, fun W hW => by go_simp⟩) hS ?_
  simp only [Act.put, List.setIfInBounds_toArray, List.set_cons_zero, List.set_cons_succ]
  refine takeH (fuel := 21) (i := 1) (v := .int .i64 2) rfl (by kernel_rfl) (by kernel_rfl) (by kernel_rfl) (fun _ _ _ h => h) (Or.inl ⟨rfl, fun W hW => by have c0 := HM0.out W hW.1; go_simp⟩) hS ?_
  simp only [Act.put, List.setIfInBounds_toArray, List.set_cons_zero, List.set_cons_succ]
  refine takeH (fuel := 20) (i := 2) (v := .bool false) rfl (by kernel_rfl) (by kernel_rfl) (by kernel_rfl) (fun _ _ _ h => h) (Or.inl ⟨rfl, fun W hW => by go_simp⟩) hS ?_
  simp only [Act.put, List.setIfInBounds_toArray, List.set_cons_zero, List.set_cons_succ]
  refine takeH (fuel := 19) (i := 3) (v := .bool false) rfl (by kernel_rfl) (by kernel_rfl) (by kernel_rfl) (fun _ _ _ h => h) (Or.inl ⟨rfl, fun _ _ => rfl⟩) hS ?_
  simp only [Act.put, List.setIfInBounds_toArray, List.set_cons_zero, List.set_cons_succ]
  refine takeH (fuel := 18) (i := 4) (v := .pointer (some ⟨w.heap.size, 0, none⟩)) rfl (by kernel_rfl) (by kernel_rfl) (by kernel_rfl) (fun _ _ _ h => h) (Or.inl ⟨rfl, fun W hW => by go_simp⟩) hS ?_
  simp only [Act.put, List.setIfInBounds_toArray, List.set_cons_zero, List.set_cons_succ]
  refine takeH (fuel := 17) (i := 5) (v := .int .i64 2) rfl (by kernel_rfl) (by kernel_rfl) (by kernel_rfl) (fun _ _ _ h => h) (Or.inl ⟨rfl, fun W hW => by have c0 := HM0.out W hW.1; go_simp⟩) hS ?_
  simp only [Act.put, List.setIfInBounds_toArray, List.set_cons_zero, List.set_cons_succ]
  refine takeH (fuel := 16) (i := 6) (v := .bool false) rfl (by kernel_rfl) (by kernel_rfl) (by kernel_rfl) (fun _ _ _ h => h) (Or.inl ⟨rfl, fun W hW => by go_simp⟩) hS ?_
  simp only [Act.put, List.setIfInBounds_toArray, List.set_cons_zero, List.set_cons_succ]
  refine takeH (fuel := 15) (i := 7) (v := .bool false) rfl (by kernel_rfl) (by kernel_rfl) (by kernel_rfl) (fun _ _ _ h => h) (Or.inl ⟨rfl, fun _ _ => rfl⟩) hS ?_
  simp only [Act.put, List.setIfInBounds_toArray, List.set_cons_zero, List.set_cons_succ]
  refine takeH (fuel := 14) (i := 8) (v := .bool false) rfl (by kernel_rfl) (by kernel_rfl) (by kernel_rfl) (fun _ _ _ h => h) (Or.inl ⟨rfl, fun _ _ => rfl⟩) hS ?_
  simp only [Act.put, List.setIfInBounds_toArray, List.set_cons_zero, List.set_cons_succ]
  refine takeH (fuel := 13) (i := 9) (v := .iface 78 (.agg #[.string x0, .int .i64 x1, .int .i64 x2, .int .i64 x3, .string x4])) rfl (by kernel_rfl) (by kernel_rfl) (by kernel_rfl) (fun _ _ _ h => h) (Or.inl ⟨rfl, fun _ _ => rfl⟩) hS ?_
  simp only [Act.put, List.setIfInBounds_toArray, List.set_cons_zero, List.set_cons_succ]
  refine takeH (fuel := 12) (i := 10) (v := .bool true) rfl (by kernel_rfl) (by kernel_rfl) (by kernel_rfl) (fun _ _ _ h => h) (Or.inl ⟨rfl, fun W hW => by go_simp⟩) hS ?_
  simp only [Act.put, List.setIfInBounds_toArray, List.set_cons_zero, List.set_cons_succ]
  refine takeH (fuel := 11) (i := 11) (v := .bool true) rfl (by kernel_rfl) (by kernel_rfl) (by kernel_rfl) (fun _ _ _ h => h) (Or.inl ⟨rfl, fun _ _ => rfl⟩) hS ?_
  simp only [Act.put, List.setIfInBounds_toArray, List.set_cons_zero, List.set_cons_succ]
  refine takeH (fuel := 10) (i := 12) (v := .iface 78 (.agg #[.string x0, .int .i64 x1, .int .i64 x2, .int .i64 x3, .string x4])) rfl (by kernel_rfl) (by kernel_rfl) (by kernel_rfl) (fun _ _ _ h => h) (Or.inl ⟨rfl, fun _ _ => rfl⟩) hS ?_
  simp only [Act.put, List.setIfInBounds_toArray, List.set_cons_zero, List.set_cons_succ]
  refine takeH (fuel := 9) (i := 14) (v := .pointer (some ⟨w.heap.size, 0, none⟩)) rfl (by kernel_rfl) (by kernel_rfl) (by kernel_rfl) (fun _ _ _ h => h) (Or.inl ⟨rfl, fun W hW => by go_simp⟩) hS ?_
  simp only [Act.put, List.setIfInBounds_toArray, List.set_cons_zero, List.set_cons_succ]
  refine takeH (fuel := 8) (i := 15) (v := .int .i64 2) rfl (by kernel_rfl) (by kernel_rfl) (by kernel_rfl) (fun _ _ _ h => h) (Or.inl ⟨rfl, fun W hW => by have c0 := HM0.out W hW.1; go_simp⟩) hS ?_
  simp only [Act.put, List.setIfInBounds_toArray, List.set_cons_zero, List.set_cons_succ]
  refine consH (fuel := 7) (i := 13) rfl (by kernel_rfl) (fun K hK => ?_)
  rw [if_pos (by rfl)]
  go_simp
  refine (kind2 x0 x1 x2 x3 x4 _).mono ?_
  rintro e w8 ⟨rfl, hb8⟩
  refine hK.out _ _ ⟨hS.1.keep hb8.out, bt hS.2 hb8.out⟩ (fun hS8 => ?_)
  clear hK
  try simp only [Act.put, List.setIfInBounds_toArray, List.set_cons_zero, List.set_cons_succ]
  refine takeH (fuel := 6) (i := 16) (v := .bool true) rfl (by kernel_rfl) (by kernel_rfl) (by kernel_rfl) (fun _ _ _ h => h) (Or.inl ⟨rfl, fun W hW => by go_simp⟩) hS8 ?_
  simp only [Act.put, List.setIfInBounds_toArray, List.set_cons_zero, List.set_cons_succ]
  refine takeH (fuel := 5) (i := 17) (v := .bool true) rfl (by kernel_rfl) (by kernel_rfl) (by kernel_rfl) (fun _ _ _ h => h) (Or.inl ⟨rfl, fun _ _ => rfl⟩) hS8 ?_
  simp only [Act.put, List.setIfInBounds_toArray, List.set_cons_zero, List.set_cons_succ]
  refine takeH (fuel := 4) (i := 18) (v := .bool true) rfl (by kernel_rfl) (by kernel_rfl) (by kernel_rfl) (fun _ _ _ h => h) (Or.inl ⟨rfl, fun _ _ => rfl⟩) hS8 ?_
  simp only [Act.put, List.setIfInBounds_toArray, List.set_cons_zero, List.set_cons_succ]
  refine takeH (fuel := 3) (i := 19) (v := .bool true) rfl (by kernel_rfl) (by kernel_rfl) (by kernel_rfl) (fun _ _ _ h => h) (Or.inl ⟨rfl, fun _ _ => rfl⟩) hS8 ?_
  simp only [Act.put, List.setIfInBounds_toArray, List.set_cons_zero, List.set_cons_succ]
  refine consH (fuel := 2) (i := 20) rfl (by kernel_rfl) (fun K hK => ?_)
  rw [if_pos (by rfl)]
  go_simp
  refine (awake _).mono ?_
  rintro e w9 ⟨rfl, hb9⟩
  refine hK.out _ _ ⟨hS8.1.keep hb9.out, bt hS8.2 hb9.out⟩ (fun hS9 => ?_)
  clear hK
  try simp only [Act.put, List.setIfInBounds_toArray, List.set_cons_zero, List.set_cons_succ]
  refine takeH (fuel := 1) (i := 21) (v := .bool true) rfl (by kernel_rfl) (by kernel_rfl) (by kernel_rfl) (fun _ _ _ h => h) (Or.inl ⟨rfl, fun _ _ => rfl⟩) hS9 ?_
  simp only [Act.put, List.setIfInBounds_toArray, List.set_cons_zero, List.set_cons_succ]
  refine takeH (fuel := 0) (i := 22) (v := .bool true) rfl (by kernel_rfl) (by kernel_rfl) (by kernel_rfl) (fun _ _ _ h => h) (Or.inl ⟨rfl, fun _ _ => rfl⟩) hS9 ?_
  simp only [Act.put, List.setIfInBounds_toArray, List.set_cons_zero, List.set_cons_succ]
  refine wpAnyH_done (by kernel_rfl) ?_ _
  have HB9 : Hid (Below w.heap.size w w9) := hS9.2
  clear hS hS8 hS9
  go_wp2_with fail
  go_ret
  exact KP.mk rfl HB9.out
set_option maxHeartbeats 8000000 in
theorem lChecks3 (M : Array Value) (hsz : M.size = 36) (x0 : Int) (x1 : Int) (x2 : ByteArray) (x3 : Int) (x4 : Int) (x5 : Int) (x6a : Option Addr) (x6n x6c : Nat) (x7 : Int) (x8 : Int) (x9a : Option Addr) (x9n x9c : Nat)  (hM0 : M[0]? = some (.int .i64 3)) (w : World) (cv : Nat) (sv : Int)
    (hsm : ∀ W, Calls Tryz.prog 9 #[.agg M] W (KP (.bool true) W)) (hof : ∀ W, Calls Tryz.prog 11 #[.agg M] W (KP (.iface 80 (.agg #[.int .i64 x0, .int .i64 x1, .string x2, .int .i64 x3, .int .i64 x4, .int .i64 x5, .slice x6a x6n x6c, .int .i64 x7, .int .i64 x8, .slice x9a x9n x9c])) W))
    (h12 : ∀ W, Below w.heap.size w W → Calls Tryz.prog 12 #[.iface 80 (.agg #[.int .i64 x0, .int .i64 x1, .string x2, .int .i64 x3, .int .i64 x4, .int .i64 x5, .slice x6a x6n x6c, .int .i64 x7, .int .i64 x8, .slice x9a x9n x9c])] W (KP (.int .i64 cv) W)) (h13 : ∀ W, Below w.heap.size w W → Calls Tryz.prog 13 #[.agg M] W (KP (.int .i64 cv) W))
    (h14 : ∀ W, Calls Tryz.prog 14 #[.iface 80 (.agg #[.int .i64 x0, .int .i64 x1, .string x2, .int .i64 x3, .int .i64 x4, .int .i64 x5, .slice x6a x6n x6c, .int .i64 x7, .int .i64 x8, .slice x9a x9n x9c])] W (KP (.int .i64 sv) W)) (h15 : ∀ W, Calls Tryz.prog 15 #[.agg M] W (KP (.int .i64 sv) W)) : Calls Tryz.prog 3 #[.agg M] w (KP (.bool true) w) := by
  have HOF : Hid (∀ W, Calls Tryz.prog 11 #[.agg M] W (KP (.iface 80 (.agg #[.int .i64 x0, .int .i64 x1, .string x2, .int .i64 x3, .int .i64 x4, .int .i64 x5, .slice x6a x6n x6c, .int .i64 x7, .int .i64 x8, .slice x9a x9n x9c])) W)) := hof
  have H12 : Hid (∀ W, Below w.heap.size w W → Calls Tryz.prog 12 #[.iface 80 (.agg #[.int .i64 x0, .int .i64 x1, .string x2, .int .i64 x3, .int .i64 x4, .int .i64 x5, .slice x6a x6n x6c, .int .i64 x7, .int .i64 x8, .slice x9a x9n x9c])] W (KP (.int .i64 cv) W)) := h12
  have H13 : Hid (∀ W, Below w.heap.size w W → Calls Tryz.prog 13 #[.agg M] W (KP (.int .i64 cv) W)) := h13
  have H14 : Hid (∀ W, Calls Tryz.prog 14 #[.iface 80 (.agg #[.int .i64 x0, .int .i64 x1, .string x2, .int .i64 x3, .int .i64 x4, .int .i64 x5, .slice x6a x6n x6c, .int .i64 x7, .int .i64 x8, .slice x9a x9n x9c])] W (KP (.int .i64 sv) W)) := h14
  have H15 : Hid (∀ W, Calls Tryz.prog 15 #[.agg M] W (KP (.int .i64 sv) W)) := h15
  have HSM : Hid (∀ W, Calls Tryz.prog 9 #[.agg M] W (KP (.bool true) W)) := hsm
  have HM0 : Hid (∀ W, Bx W w.heap.size M 35 → W.cell? ⟨w.heap.size, 0, none⟩ = some (.int .i64 3)) := fun W h => (h.cell 0).trans hM0
  have HX0 : Hid (Bx (w.alloc (.cells M 35)) w.heap.size M 35) := Bx.new _ _ _
  have HB0 : Hid (Below w.heap.size w (w.alloc (.cells M 35))) := below_a w _
  have HLD : Hid (∀ W, Bx W w.heap.size M 35 → (Instr.loadAt 35 (.pointer (some ⟨w.heap.size, 0, none⟩))).run Tryz.prog W = .ok (.agg M) W) := fun W h => hloadAt W w.heap.size M hsz h
  clear hof h12 h13 h14 h15 hsm hM0
  go_enter Tryz.func3, Tryz.ntmps3
  go_upto_region 1 with fail
  generalize hw1 : w.alloc (.cells M 35) = w1 at *
  have HX : Hid (Bx w1 w.heap.size M 35) := HX0.out
  have HB : Hid (Below w.heap.size w w1) := HB0.out
  clear HX0 HB0 hw1
  go_wp2_with (guard_target =~ wpList _ _ _ (⟨_, Op.load 35 _, _, _, _, _⟩ :: _) _ _; refine wl_load _ rfl 35 _ rfl _ rfl _ (HLD.out _ HX.out) ?_; go_simp)
  refine (HSM.out _).mono ?_
  rintro e w2 ⟨rfl, hb2⟩
  have HX2 : Hid (Bx w2 w.heap.size M 35) := HX.out.keep hb2.out
  have HB2 : Hid (Below w.heap.size w w2) := bt HB.out hb2.out
  clear hb2 HX HB HSM
  go_wp2_with (guard_target =~ wpList _ _ _ (⟨_, Op.load 35 _, _, _, _, _⟩ :: _) _ _; refine wl_load _ rfl 35 _ rfl _ rfl _ (HLD.out _ HX2.out) ?_; go_simp)
  refine (HOF.out _).mono ?_
  rintro e w3 ⟨rfl, hb3⟩
  have HX3 : Hid (Bx w3 w.heap.size M 35) := HX2.out.keep hb3.out
  have HB3 : Hid (Below w.heap.size w w3) := bt HB2.out hb3.out
  clear hb3 HX2 HB2 HOF
  go_wp2_with fail
  refine wp_region_held (S := fun W => Bx W w.heap.size M 35 ∧ Below w.heap.size w W) (by kernel_rfl) ?_
  change wpAnyH _ _ _ _ _ 12 #[false, false, false, false, false, false, false, false, false, false, false, false] _ _
  have hS : Bx w3.drew w.heap.size M 35 ∧ Below w.heap.size w w3.drew := ⟨HX3.out, bdrw HB3.out 1⟩
  clear HX3 HB3
  refine takeH (fuel := 11) (i := 0) (v := .iface 80 (.agg #[.int .i64 x0, .int .i64 x1, .string x2, .int .i64 x3, .int .i64 x4, .int .i64 x5, .slice x6a x6n x6c, .int .i64 x7, .int .i64 x8, .slice x9a x9n x9c])) rfl (by kernel_rfl) (by kernel_rfl) (by kernel_rfl) (fun _ _ _ h => h) (Or.inl ⟨rfl, fun _ _ => rfl⟩) hS ?_
  simp only [Act.put, List.setIfInBounds_toArray, List.set_cons_zero, List.set_cons_succ]
  refine takeH (fuel := 10) (i := 2) (v := .agg M) rfl (by kernel_rfl) (by kernel_rfl) (by kernel_rfl) (fun _ _ _ h => h) (Or.inl ⟨rfl, fun W hW => ex_load _ _ _ _ rfl _ _ rfl (HLD.out W hW.1)⟩) hS ?_
  simp only [Act.put, List.setIfInBounds_toArray, List.set_cons_zero, List.set_cons_succ]
  refine consH (fuel := 9) (i := 1) rfl (by kernel_rfl) (fun K hK => ?_)
  rw [if_pos (by rfl)]
  go_simp
  refine (H12.out _ hS.2).mono ?_
  rintro e w4 ⟨rfl, hb4⟩
  refine hK.out _ _ ⟨hS.1.keep hb4.out, bt hS.2 hb4.out⟩ (fun hS4 => ?_)
  clear hK
  try simp only [Act.put, List.setIfInBounds_toArray, List.set_cons_zero, List.set_cons_succ]
  refine consH (fuel := 8) (i := 3) rfl (by kernel_rfl) (fun K hK => ?_)
  rw [if_pos (by rfl)]
  go_simp
  refine (H13.out _ hS4.2).mono ?_
  rintro e w5 ⟨rfl, hb5⟩
  refine hK.out _ _ ⟨hS4.1.keep hb5.out, bt hS4.2 hb5.out⟩ (fun hS5 => ?_)
  clear hK
  try simp only [Act.put, List.setIfInBounds_toArray, List.set_cons_zero, List.set_cons_succ]
  refine takeH (fuel := 7) (i := 4) (v := .bool false) rfl (by kernel_rfl) (by kernel_rfl) (by kernel_rfl) (fun _ _ _ h => h) (Or.inl ⟨rfl, fun W hW => by go_simp⟩) hS5 ?_
  simp only [Act.put, List.setIfInBounds_toArray, List.set_cons_zero, List.set_cons_succ]
  refine takeH (fuel := 6) (i := 5) (v := .bool false) rfl (by kernel_rfl) (by kernel_rfl) (by kernel_rfl) (fun _ _ _ h => h) (Or.inl ⟨rfl, fun _ _ => rfl⟩) hS5 ?_
  simp only [Act.put, List.setIfInBounds_toArray, List.set_cons_zero, List.set_cons_succ]
  refine takeH (fuel := 5) (i := 6) (v := .iface 80 (.agg #[.int .i64 x0, .int .i64 x1, .string x2, .int .i64 x3, .int .i64 x4, .int .i64 x5, .slice x6a x6n x6c, .int .i64 x7, .int .i64 x8, .slice x9a x9n x9c])) rfl (by kernel_rfl) (by kernel_rfl) (by kernel_rfl) (fun _ _ _ h => h) (Or.inl ⟨rfl, fun _ _ => rfl⟩) hS5 ?_
  simp only [Act.put, List.setIfInBounds_toArray, List.set_cons_zero, List.set_cons_succ]
  refine takeH (fuel := 4) (i := 8) (v := .agg M) rfl (by kernel_rfl) (by kernel_rfl) (by kernel_rfl) (fun _ _ _ h => h) (Or.inl ⟨rfl, fun W hW => ex_load _ _ _ _ rfl _ _ rfl (HLD.out W hW.1)⟩) hS5 ?_
  simp only [Act.put, List.setIfInBounds_toArray, List.set_cons_zero, List.set_cons_succ]
  refine consH (fuel := 3) (i := 7) rfl (by kernel_rfl) (fun K hK => ?_)
  rw [if_pos (by rfl)]
  go_simp
  refine (H14.out _).mono ?_
  rintro e w6 ⟨rfl, hb6⟩
  refine hK.out _ _ ⟨hS5.1.keep hb6.out, bt hS5.2 hb6.out⟩ (fun hS6 => ?_)
  clear hK
  try simp only [Act.put, List.setIfInBounds_toArray, List.set_cons_zero, List.set_cons_succ]
  refine consH (fuel := 2) (i := 9) rfl (by kernel_rfl) (fun K hK => ?_)
  rw [if_pos (by rfl)]
  go_simp
  refine (H15.out _).mono ?_
  rintro e w7 ⟨rfl, hb7⟩
  refine hK.out _ _ ⟨hS6.1.keep hb7.out, bt hS6.2 hb7.out⟩ (fun hS7 => ?_)
  clear hK
  try simp only [Act.put, List.setIfInBounds_toArray, List.set_cons_zero, List.set_cons_succ]
  refine takeH (fuel := 1) (i := 10) (v := .bool false) rfl (by kernel_rfl) (by kernel_rfl) (by kernel_rfl) (fun _ _ _ h => h) (Or.inl ⟨rfl, fun W hW => by go_simp⟩) hS7 ?_
  simp only [Act.put, List.setIfInBounds_toArray, List.set_cons_zero, List.set_cons_succ]
  refine takeH (fuel := 0) (i := 11) (v := .bool false) rfl (by kernel_rfl) (by kernel_rfl) (by kernel_rfl) (fun _ _ _ h => h) (Or.inl ⟨rfl, fun _ _ => rfl⟩) hS7 ?_
  simp only [Act.put, List.setIfInBounds_toArray, List.set_cons_zero, List.set_cons_succ]
  refine wpAnyH_done (by kernel_rfl) ?_ _
  have HX7 : Hid (Bx w7 w.heap.size M 35) := hS7.1
  have HB7 : Hid (Below w.heap.size w w7) := hS7.2
  clear hS hS4 hS5 hS6 hS7 hb4 hb5 hb6 hb7 H12 H13 H14 H15
  go_wp2_with fail
  refine wp_region_held (S := fun W => Bx W w.heap.size M 35 ∧ Below w.heap.size w W) (by kernel_rfl) ?_
  change wpAnyH _ _ _ _ _ 23 #[false, false, false, false, false, false, false, false, false, false, false, false, false, false, false, false, false, false, false, false, false, false, false] _ _
  have hS : Bx w7.drew w.heap.size M 35 ∧ Below w.heap.size w w7.drew := ⟨HX7.out, bdrw HB7.out 1⟩
  clear HX7 HB7
  refine takeH (fuel := 22) (i := 0) (v := .pointer (some ⟨w.heap.size, 0, none⟩)) rfl (by kernel_rfl) (by kernel_rfl) (by kernel_rfl) (fun _ _ _ h => h) (Or.inl ⟨rfl, fun W hW => by go_simp⟩) hS ?_
  simp only [Act.put, List.setIfInBounds_toArray, List.set_cons_zero, List.set_cons_succ]
  refine takeH (fuel := 21) (i := 1) (v := .int .i64 3) rfl (by kernel_rfl) (by kernel_rfl) (by kernel_rfl) (fun _ _ _ h => h) (Or.inl ⟨rfl, fun W hW => by have c0 := HM0.out W hW.1; go_simp⟩) hS ?_
  simp only [Act.put, List.setIfInBounds_toArray, List.set_cons_zero, List.set_cons_succ]
  refine takeH (fuel := 20) (i := 2) (v := .bool false) rfl (by kernel_rfl) (by kernel_rfl) (by kernel_rfl) (fun _ _ _ h => h) (Or.inl ⟨rfl, fun W hW => by go_simp⟩) hS ?_
  simp only [Act.put, List.setIfInBounds_toArray, List.set_cons_zero, List.set_cons_succ]
  refine takeH (fuel := 19) (i := 3) (v := .bool false) rfl (by kernel_rfl) (by kernel_rfl) (by kernel_rfl) (fun _ _ _ h => h) (Or.inl ⟨rfl, fun _ _ => rfl⟩) hS ?_
  simp only [Act.put, List.setIfInBounds_toArray, List.set_cons_zero, List.set_cons_succ]
  refine takeH (fuel := 18) (i := 4) (v := .pointer (some ⟨w.heap.size, 0, none⟩)) rfl (by kernel_rfl) (by kernel_rfl) (by kernel_rfl) (fun _ _ _ h => h) (Or.inl ⟨rfl, fun W hW => by go_simp⟩) hS ?_
  simp only [Act.put, List.setIfInBounds_toArray, List.set_cons_zero, List.set_cons_succ]
  refine takeH (fuel := 17) (i := 5) (v := .int .i64 3) rfl (by kernel_rfl) (by kernel_rfl) (by kernel_rfl) (fun _ _ _ h => h) (Or.inl ⟨rfl, fun W hW => by have c0 := HM0.out W hW.1; go_simp⟩) hS ?_
  simp only [Act.put, List.setIfInBounds_toArray, List.set_cons_zero, List.set_cons_succ]
  refine takeH (fuel := 16) (i := 6) (v := .bool false) rfl (by kernel_rfl) (by kernel_rfl) (by kernel_rfl) (fun _ _ _ h => h) (Or.inl ⟨rfl, fun W hW => by go_simp⟩) hS ?_
  simp only [Act.put, List.setIfInBounds_toArray, List.set_cons_zero, List.set_cons_succ]
  refine takeH (fuel := 15) (i := 7) (v := .bool false) rfl (by kernel_rfl) (by kernel_rfl) (by kernel_rfl) (fun _ _ _ h => h) (Or.inl ⟨rfl, fun _ _ => rfl⟩) hS ?_
  simp only [Act.put, List.setIfInBounds_toArray, List.set_cons_zero, List.set_cons_succ]
  refine takeH (fuel := 14) (i := 8) (v := .bool false) rfl (by kernel_rfl) (by kernel_rfl) (by kernel_rfl) (fun _ _ _ h => h) (Or.inl ⟨rfl, fun _ _ => rfl⟩) hS ?_
  simp only [Act.put, List.setIfInBounds_toArray, List.set_cons_zero, List.set_cons_succ]
  refine takeH (fuel := 13) (i := 9) (v := .iface 80 (.agg #[.int .i64 x0, .int .i64 x1, .string x2, .int .i64 x3, .int .i64 x4, .int .i64 x5, .slice x6a x6n x6c, .int .i64 x7, .int .i64 x8, .slice x9a x9n x9c])) rfl (by kernel_rfl) (by kernel_rfl) (by kernel_rfl) (fun _ _ _ h => h) (Or.inl ⟨rfl, fun _ _ => rfl⟩) hS ?_
  simp only [Act.put, List.setIfInBounds_toArray, List.set_cons_zero, List.set_cons_succ]
  refine takeH (fuel := 12) (i := 10) (v := .bool true) rfl (by kernel_rfl) (by kernel_rfl) (by kernel_rfl) (fun _ _ _ h => h) (Or.inl ⟨rfl, fun W hW => by go_simp⟩) hS ?_
  simp only [Act.put, List.setIfInBounds_toArray, List.set_cons_zero, List.set_cons_succ]
  refine takeH (fuel := 11) (i := 11) (v := .bool true) rfl (by kernel_rfl) (by kernel_rfl) (by kernel_rfl) (fun _ _ _ h => h) (Or.inl ⟨rfl, fun _ _ => rfl⟩) hS ?_
  simp only [Act.put, List.setIfInBounds_toArray, List.set_cons_zero, List.set_cons_succ]
  refine takeH (fuel := 10) (i := 12) (v := .iface 80 (.agg #[.int .i64 x0, .int .i64 x1, .string x2, .int .i64 x3, .int .i64 x4, .int .i64 x5, .slice x6a x6n x6c, .int .i64 x7, .int .i64 x8, .slice x9a x9n x9c])) rfl (by kernel_rfl) (by kernel_rfl) (by kernel_rfl) (fun _ _ _ h => h) (Or.inl ⟨rfl, fun _ _ => rfl⟩) hS ?_
  simp only [Act.put, List.setIfInBounds_toArray, List.set_cons_zero, List.set_cons_succ]
  refine takeH (fuel := 9) (i := 14) (v := .pointer (some ⟨w.heap.size, 0, none⟩)) rfl (by kernel_rfl) (by kernel_rfl) (by kernel_rfl) (fun _ _ _ h => h) (Or.inl ⟨rfl, fun W hW => by go_simp⟩) hS ?_
  simp only [Act.put, List.setIfInBounds_toArray, List.set_cons_zero, List.set_cons_succ]
  refine takeH (fuel := 8) (i := 15) (v := .int .i64 3) rfl (by kernel_rfl) (by kernel_rfl) (by kernel_rfl) (fun _ _ _ h => h) (Or.inl ⟨rfl, fun W hW => by have c0 := HM0.out W hW.1; go_simp⟩) hS ?_
  simp only [Act.put, List.setIfInBounds_toArray, List.set_cons_zero, List.set_cons_succ]
  refine consH (fuel := 7) (i := 13) rfl (by kernel_rfl) (fun K hK => ?_)
  rw [if_pos (by rfl)]
  go_simp
  refine (kind3 x0 x1 x2 x3 x4 x5 x6a x6n x6c x7 x8 x9a x9n x9c _).mono ?_
  rintro e w8 ⟨rfl, hb8⟩
  refine hK.out _ _ ⟨hS.1.keep hb8.out, bt hS.2 hb8.out⟩ (fun hS8 => ?_)
  clear hK
  try simp only [Act.put, List.setIfInBounds_toArray, List.set_cons_zero, List.set_cons_succ]
  refine takeH (fuel := 6) (i := 16) (v := .bool true) rfl (by kernel_rfl) (by kernel_rfl) (by kernel_rfl) (fun _ _ _ h => h) (Or.inl ⟨rfl, fun W hW => by go_simp⟩) hS8 ?_
  simp only [Act.put, List.setIfInBounds_toArray, List.set_cons_zero, List.set_cons_succ]
  refine takeH (fuel := 5) (i := 17) (v := .bool true) rfl (by kernel_rfl) (by kernel_rfl) (by kernel_rfl) (fun _ _ _ h => h) (Or.inl ⟨rfl, fun _ _ => rfl⟩) hS8 ?_
  simp only [Act.put, List.setIfInBounds_toArray, List.set_cons_zero, List.set_cons_succ]
  refine takeH (fuel := 4) (i := 18) (v := .bool true) rfl (by kernel_rfl) (by kernel_rfl) (by kernel_rfl) (fun _ _ _ h => h) (Or.inl ⟨rfl, fun _ _ => rfl⟩) hS8 ?_
  simp only [Act.put, List.setIfInBounds_toArray, List.set_cons_zero, List.set_cons_succ]
  refine takeH (fuel := 3) (i := 19) (v := .bool true) rfl (by kernel_rfl) (by kernel_rfl) (by kernel_rfl) (fun _ _ _ h => h) (Or.inl ⟨rfl, fun _ _ => rfl⟩) hS8 ?_
  simp only [Act.put, List.setIfInBounds_toArray, List.set_cons_zero, List.set_cons_succ]
  refine consH (fuel := 2) (i := 20) rfl (by kernel_rfl) (fun K hK => ?_)
  rw [if_pos (by rfl)]
  go_simp
  refine (awake _).mono ?_
  rintro e w9 ⟨rfl, hb9⟩
  refine hK.out _ _ ⟨hS8.1.keep hb9.out, bt hS8.2 hb9.out⟩ (fun hS9 => ?_)
  clear hK
  try simp only [Act.put, List.setIfInBounds_toArray, List.set_cons_zero, List.set_cons_succ]
  refine takeH (fuel := 1) (i := 21) (v := .bool true) rfl (by kernel_rfl) (by kernel_rfl) (by kernel_rfl) (fun _ _ _ h => h) (Or.inl ⟨rfl, fun _ _ => rfl⟩) hS9 ?_
  simp only [Act.put, List.setIfInBounds_toArray, List.set_cons_zero, List.set_cons_succ]
  refine takeH (fuel := 0) (i := 22) (v := .bool true) rfl (by kernel_rfl) (by kernel_rfl) (by kernel_rfl) (fun _ _ _ h => h) (Or.inl ⟨rfl, fun _ _ => rfl⟩) hS9 ?_
  simp only [Act.put, List.setIfInBounds_toArray, List.set_cons_zero, List.set_cons_succ]
  refine wpAnyH_done (by kernel_rfl) ?_ _
  have HB9 : Hid (Below w.heap.size w w9) := hS9.2
  clear hS hS8 hS9
  go_wp2_with fail
  go_ret
  exact KP.mk rfl HB9.out
set_option maxHeartbeats 8000000 in
theorem lChecks4 (M : Array Value) (hsz : M.size = 36) (x0a : Option Addr) (x0n x0c : Nat)  (hM0 : M[0]? = some (.int .i64 4)) (w : World) (cv : Nat) (sv : Int)
    (hsm : ∀ W, Calls Tryz.prog 9 #[.agg M] W (KP (.bool true) W)) (hof : ∀ W, Calls Tryz.prog 11 #[.agg M] W (KP (.iface 82 (.agg #[.slice x0a x0n x0c])) W))
    (h12 : ∀ W, Below w.heap.size w W → Calls Tryz.prog 12 #[.iface 82 (.agg #[.slice x0a x0n x0c])] W (KP (.int .i64 cv) W)) (h13 : ∀ W, Below w.heap.size w W → Calls Tryz.prog 13 #[.agg M] W (KP (.int .i64 cv) W))
    (h14 : ∀ W, Calls Tryz.prog 14 #[.iface 82 (.agg #[.slice x0a x0n x0c])] W (KP (.int .i64 sv) W)) (h15 : ∀ W, Calls Tryz.prog 15 #[.agg M] W (KP (.int .i64 sv) W)) : Calls Tryz.prog 3 #[.agg M] w (KP (.bool true) w) := by
  have HOF : Hid (∀ W, Calls Tryz.prog 11 #[.agg M] W (KP (.iface 82 (.agg #[.slice x0a x0n x0c])) W)) := hof
  have H12 : Hid (∀ W, Below w.heap.size w W → Calls Tryz.prog 12 #[.iface 82 (.agg #[.slice x0a x0n x0c])] W (KP (.int .i64 cv) W)) := h12
  have H13 : Hid (∀ W, Below w.heap.size w W → Calls Tryz.prog 13 #[.agg M] W (KP (.int .i64 cv) W)) := h13
  have H14 : Hid (∀ W, Calls Tryz.prog 14 #[.iface 82 (.agg #[.slice x0a x0n x0c])] W (KP (.int .i64 sv) W)) := h14
  have H15 : Hid (∀ W, Calls Tryz.prog 15 #[.agg M] W (KP (.int .i64 sv) W)) := h15
  have HSM : Hid (∀ W, Calls Tryz.prog 9 #[.agg M] W (KP (.bool true) W)) := hsm
  have HM0 : Hid (∀ W, Bx W w.heap.size M 35 → W.cell? ⟨w.heap.size, 0, none⟩ = some (.int .i64 4)) := fun W h => (h.cell 0).trans hM0
  have HX0 : Hid (Bx (w.alloc (.cells M 35)) w.heap.size M 35) := Bx.new _ _ _
  have HB0 : Hid (Below w.heap.size w (w.alloc (.cells M 35))) := below_a w _
  have HLD : Hid (∀ W, Bx W w.heap.size M 35 → (Instr.loadAt 35 (.pointer (some ⟨w.heap.size, 0, none⟩))).run Tryz.prog W = .ok (.agg M) W) := fun W h => hloadAt W w.heap.size M hsz h
  clear hof h12 h13 h14 h15 hsm hM0
  go_enter Tryz.func3, Tryz.ntmps3
  go_upto_region 1 with fail
  generalize hw1 : w.alloc (.cells M 35) = w1 at *
  have HX : Hid (Bx w1 w.heap.size M 35) := HX0.out
  have HB : Hid (Below w.heap.size w w1) := HB0.out
  clear HX0 HB0 hw1
  go_wp2_with (guard_target =~ wpList _ _ _ (⟨_, Op.load 35 _, _, _, _, _⟩ :: _) _ _; refine wl_load _ rfl 35 _ rfl _ rfl _ (HLD.out _ HX.out) ?_; go_simp)
  refine (HSM.out _).mono ?_
  rintro e w2 ⟨rfl, hb2⟩
  have HX2 : Hid (Bx w2 w.heap.size M 35) := HX.out.keep hb2.out
  have HB2 : Hid (Below w.heap.size w w2) := bt HB.out hb2.out
  clear hb2 HX HB HSM
  go_wp2_with (guard_target =~ wpList _ _ _ (⟨_, Op.load 35 _, _, _, _, _⟩ :: _) _ _; refine wl_load _ rfl 35 _ rfl _ rfl _ (HLD.out _ HX2.out) ?_; go_simp)
  refine (HOF.out _).mono ?_
  rintro e w3 ⟨rfl, hb3⟩
  have HX3 : Hid (Bx w3 w.heap.size M 35) := HX2.out.keep hb3.out
  have HB3 : Hid (Below w.heap.size w w3) := bt HB2.out hb3.out
  clear hb3 HX2 HB2 HOF
  go_wp2_with fail
  refine wp_region_held (S := fun W => Bx W w.heap.size M 35 ∧ Below w.heap.size w W) (by kernel_rfl) ?_
  change wpAnyH _ _ _ _ _ 12 #[false, false, false, false, false, false, false, false, false, false, false, false] _ _
  have hS : Bx w3.drew w.heap.size M 35 ∧ Below w.heap.size w w3.drew := ⟨HX3.out, bdrw HB3.out 1⟩
  clear HX3 HB3
  refine takeH (fuel := 11) (i := 0) (v := .iface 82 (.agg #[.slice x0a x0n x0c])) rfl (by kernel_rfl) (by kernel_rfl) (by kernel_rfl) (fun _ _ _ h => h) (Or.inl ⟨rfl, fun _ _ => rfl⟩) hS ?_
  simp only [Act.put, List.setIfInBounds_toArray, List.set_cons_zero, List.set_cons_succ]
  refine takeH (fuel := 10) (i := 2) (v := .agg M) rfl (by kernel_rfl) (by kernel_rfl) (by kernel_rfl) (fun _ _ _ h => h) (Or.inl ⟨rfl, fun W hW => ex_load _ _ _ _ rfl _ _ rfl (HLD.out W hW.1)⟩) hS ?_
  simp only [Act.put, List.setIfInBounds_toArray, List.set_cons_zero, List.set_cons_succ]
  refine consH (fuel := 9) (i := 1) rfl (by kernel_rfl) (fun K hK => ?_)
  rw [if_pos (by rfl)]
  go_simp
  refine (H12.out _ hS.2).mono ?_
  rintro e w4 ⟨rfl, hb4⟩
  refine hK.out _ _ ⟨hS.1.keep hb4.out, bt hS.2 hb4.out⟩ (fun hS4 => ?_)
  clear hK
  try simp only [Act.put, List.setIfInBounds_toArray, List.set_cons_zero, List.set_cons_succ]
  refine consH (fuel := 8) (i := 3) rfl (by kernel_rfl) (fun K hK => ?_)
  rw [if_pos (by rfl)]
  go_simp
  refine (H13.out _ hS4.2).mono ?_
  rintro e w5 ⟨rfl, hb5⟩
  refine hK.out _ _ ⟨hS4.1.keep hb5.out, bt hS4.2 hb5.out⟩ (fun hS5 => ?_)
  clear hK
  try simp only [Act.put, List.setIfInBounds_toArray, List.set_cons_zero, List.set_cons_succ]
  refine takeH (fuel := 7) (i := 4) (v := .bool false) rfl (by kernel_rfl) (by kernel_rfl) (by kernel_rfl) (fun _ _ _ h => h) (Or.inl ⟨rfl, fun W hW => by go_simp⟩) hS5 ?_
  simp only [Act.put, List.setIfInBounds_toArray, List.set_cons_zero, List.set_cons_succ]
  refine takeH (fuel := 6) (i := 5) (v := .bool false) rfl (by kernel_rfl) (by kernel_rfl) (by kernel_rfl) (fun _ _ _ h => h) (Or.inl ⟨rfl, fun _ _ => rfl⟩) hS5 ?_
  simp only [Act.put, List.setIfInBounds_toArray, List.set_cons_zero, List.set_cons_succ]
  refine takeH (fuel := 5) (i := 6) (v := .iface 82 (.agg #[.slice x0a x0n x0c])) rfl (by kernel_rfl) (by kernel_rfl) (by kernel_rfl) (fun _ _ _ h => h) (Or.inl ⟨rfl, fun _ _ => rfl⟩) hS5 ?_
  simp only [Act.put, List.setIfInBounds_toArray, List.set_cons_zero, List.set_cons_succ]
  refine takeH (fuel := 4) (i := 8) (v := .agg M) rfl (by kernel_rfl) (by kernel_rfl) (by kernel_rfl) (fun _ _ _ h => h) (Or.inl ⟨rfl, fun W hW => ex_load _ _ _ _ rfl _ _ rfl (HLD.out W hW.1)⟩) hS5 ?_
  simp only [Act.put, List.setIfInBounds_toArray, List.set_cons_zero, List.set_cons_succ]
  refine consH (fuel := 3) (i := 7) rfl (by kernel_rfl) (fun K hK => ?_)
  rw [if_pos (by rfl)]
  go_simp
  refine (H14.out _).mono ?_
  rintro e w6 ⟨rfl, hb6⟩
  refine hK.out _ _ ⟨hS5.1.keep hb6.out, bt hS5.2 hb6.out⟩ (fun hS6 => ?_)
  clear hK
  try simp only [Act.put, List.setIfInBounds_toArray, List.set_cons_zero, List.set_cons_succ]
  refine consH (fuel := 2) (i := 9) rfl (by kernel_rfl) (fun K hK => ?_)
  rw [if_pos (by rfl)]
  go_simp
  refine (H15.out _).mono ?_
  rintro e w7 ⟨rfl, hb7⟩
  refine hK.out _ _ ⟨hS6.1.keep hb7.out, bt hS6.2 hb7.out⟩ (fun hS7 => ?_)
  clear hK
  try simp only [Act.put, List.setIfInBounds_toArray, List.set_cons_zero, List.set_cons_succ]
  refine takeH (fuel := 1) (i := 10) (v := .bool false) rfl (by kernel_rfl) (by kernel_rfl) (by kernel_rfl) (fun _ _ _ h => h) (Or.inl ⟨rfl, fun W hW => by go_simp⟩) hS7 ?_
  simp only [Act.put, List.setIfInBounds_toArray, List.set_cons_zero, List.set_cons_succ]
  refine takeH (fuel := 0) (i := 11) (v := .bool false) rfl (by kernel_rfl) (by kernel_rfl) (by kernel_rfl) (fun _ _ _ h => h) (Or.inl ⟨rfl, fun _ _ => rfl⟩) hS7 ?_
  simp only [Act.put, List.setIfInBounds_toArray, List.set_cons_zero, List.set_cons_succ]
  refine wpAnyH_done (by kernel_rfl) ?_ _
  have HX7 : Hid (Bx w7 w.heap.size M 35) := hS7.1
  have HB7 : Hid (Below w.heap.size w w7) := hS7.2
  clear hS hS4 hS5 hS6 hS7 hb4 hb5 hb6 hb7 H12 H13 H14 H15
  go_wp2_with fail
  refine wp_region_held (S := fun W => Bx W w.heap.size M 35 ∧ Below w.heap.size w W) (by kernel_rfl) ?_
  change wpAnyH _ _ _ _ _ 23 #[false, false, false, false, false, false, false, false, false, false, false, false, false, false, false, false, false, false, false, false, false, false, false] _ _
  have hS : Bx w7.drew w.heap.size M 35 ∧ Below w.heap.size w w7.drew := ⟨HX7.out, bdrw HB7.out 1⟩
  clear HX7 HB7
  refine takeH (fuel := 22) (i := 0) (v := .pointer (some ⟨w.heap.size, 0, none⟩)) rfl (by kernel_rfl) (by kernel_rfl) (by kernel_rfl) (fun _ _ _ h => h) (Or.inl ⟨rfl, fun W hW => by go_simp⟩) hS ?_
  simp only [Act.put, List.setIfInBounds_toArray, List.set_cons_zero, List.set_cons_succ]
  refine takeH (fuel := 21) (i := 1) (v := .int .i64 4) rfl (by kernel_rfl) (by kernel_rfl) (by kernel_rfl) (fun _ _ _ h => h) (Or.inl ⟨rfl, fun W hW => by have c0 := HM0.out W hW.1; go_simp⟩) hS ?_
  simp only [Act.put, List.setIfInBounds_toArray, List.set_cons_zero, List.set_cons_succ]
  refine takeH (fuel := 20) (i := 2) (v := .bool false) rfl (by kernel_rfl) (by kernel_rfl) (by kernel_rfl) (fun _ _ _ h => h) (Or.inl ⟨rfl, fun W hW => by go_simp⟩) hS ?_
  simp only [Act.put, List.setIfInBounds_toArray, List.set_cons_zero, List.set_cons_succ]
  refine takeH (fuel := 19) (i := 3) (v := .bool false) rfl (by kernel_rfl) (by kernel_rfl) (by kernel_rfl) (fun _ _ _ h => h) (Or.inl ⟨rfl, fun _ _ => rfl⟩) hS ?_
  simp only [Act.put, List.setIfInBounds_toArray, List.set_cons_zero, List.set_cons_succ]
  refine takeH (fuel := 18) (i := 4) (v := .pointer (some ⟨w.heap.size, 0, none⟩)) rfl (by kernel_rfl) (by kernel_rfl) (by kernel_rfl) (fun _ _ _ h => h) (Or.inl ⟨rfl, fun W hW => by go_simp⟩) hS ?_
  simp only [Act.put, List.setIfInBounds_toArray, List.set_cons_zero, List.set_cons_succ]
  refine takeH (fuel := 17) (i := 5) (v := .int .i64 4) rfl (by kernel_rfl) (by kernel_rfl) (by kernel_rfl) (fun _ _ _ h => h) (Or.inl ⟨rfl, fun W hW => by have c0 := HM0.out W hW.1; go_simp⟩) hS ?_
  simp only [Act.put, List.setIfInBounds_toArray, List.set_cons_zero, List.set_cons_succ]
  refine takeH (fuel := 16) (i := 6) (v := .bool false) rfl (by kernel_rfl) (by kernel_rfl) (by kernel_rfl) (fun _ _ _ h => h) (Or.inl ⟨rfl, fun W hW => by go_simp⟩) hS ?_
  simp only [Act.put, List.setIfInBounds_toArray, List.set_cons_zero, List.set_cons_succ]
  refine takeH (fuel := 15) (i := 7) (v := .bool false) rfl (by kernel_rfl) (by kernel_rfl) (by kernel_rfl) (fun _ _ _ h => h) (Or.inl ⟨rfl, fun _ _ => rfl⟩) hS ?_
  simp only [Act.put, List.setIfInBounds_toArray, List.set_cons_zero, List.set_cons_succ]
  refine takeH (fuel := 14) (i := 8) (v := .bool false) rfl (by kernel_rfl) (by kernel_rfl) (by kernel_rfl) (fun _ _ _ h => h) (Or.inl ⟨rfl, fun _ _ => rfl⟩) hS ?_
  simp only [Act.put, List.setIfInBounds_toArray, List.set_cons_zero, List.set_cons_succ]
  refine takeH (fuel := 13) (i := 9) (v := .iface 82 (.agg #[.slice x0a x0n x0c])) rfl (by kernel_rfl) (by kernel_rfl) (by kernel_rfl) (fun _ _ _ h => h) (Or.inl ⟨rfl, fun _ _ => rfl⟩) hS ?_
  simp only [Act.put, List.setIfInBounds_toArray, List.set_cons_zero, List.set_cons_succ]
  refine takeH (fuel := 12) (i := 10) (v := .bool true) rfl (by kernel_rfl) (by kernel_rfl) (by kernel_rfl) (fun _ _ _ h => h) (Or.inl ⟨rfl, fun W hW => by go_simp⟩) hS ?_
  simp only [Act.put, List.setIfInBounds_toArray, List.set_cons_zero, List.set_cons_succ]
  refine takeH (fuel := 11) (i := 11) (v := .bool true) rfl (by kernel_rfl) (by kernel_rfl) (by kernel_rfl) (fun _ _ _ h => h) (Or.inl ⟨rfl, fun _ _ => rfl⟩) hS ?_
  simp only [Act.put, List.setIfInBounds_toArray, List.set_cons_zero, List.set_cons_succ]
  refine takeH (fuel := 10) (i := 12) (v := .iface 82 (.agg #[.slice x0a x0n x0c])) rfl (by kernel_rfl) (by kernel_rfl) (by kernel_rfl) (fun _ _ _ h => h) (Or.inl ⟨rfl, fun _ _ => rfl⟩) hS ?_
  simp only [Act.put, List.setIfInBounds_toArray, List.set_cons_zero, List.set_cons_succ]
  refine takeH (fuel := 9) (i := 14) (v := .pointer (some ⟨w.heap.size, 0, none⟩)) rfl (by kernel_rfl) (by kernel_rfl) (by kernel_rfl) (fun _ _ _ h => h) (Or.inl ⟨rfl, fun W hW => by go_simp⟩) hS ?_
  simp only [Act.put, List.setIfInBounds_toArray, List.set_cons_zero, List.set_cons_succ]
  refine takeH (fuel := 8) (i := 15) (v := .int .i64 4) rfl (by kernel_rfl) (by kernel_rfl) (by kernel_rfl) (fun _ _ _ h => h) (Or.inl ⟨rfl, fun W hW => by have c0 := HM0.out W hW.1; go_simp⟩) hS ?_
  simp only [Act.put, List.setIfInBounds_toArray, List.set_cons_zero, List.set_cons_succ]
  refine consH (fuel := 7) (i := 13) rfl (by kernel_rfl) (fun K hK => ?_)
  rw [if_pos (by rfl)]
  go_simp
  refine (kind4 x0a x0n x0c _).mono ?_
  rintro e w8 ⟨rfl, hb8⟩
  refine hK.out _ _ ⟨hS.1.keep hb8.out, bt hS.2 hb8.out⟩ (fun hS8 => ?_)
  clear hK
  try simp only [Act.put, List.setIfInBounds_toArray, List.set_cons_zero, List.set_cons_succ]
  refine takeH (fuel := 6) (i := 16) (v := .bool true) rfl (by kernel_rfl) (by kernel_rfl) (by kernel_rfl) (fun _ _ _ h => h) (Or.inl ⟨rfl, fun W hW => by go_simp⟩) hS8 ?_
  simp only [Act.put, List.setIfInBounds_toArray, List.set_cons_zero, List.set_cons_succ]
  refine takeH (fuel := 5) (i := 17) (v := .bool true) rfl (by kernel_rfl) (by kernel_rfl) (by kernel_rfl) (fun _ _ _ h => h) (Or.inl ⟨rfl, fun _ _ => rfl⟩) hS8 ?_
  simp only [Act.put, List.setIfInBounds_toArray, List.set_cons_zero, List.set_cons_succ]
  refine takeH (fuel := 4) (i := 18) (v := .bool true) rfl (by kernel_rfl) (by kernel_rfl) (by kernel_rfl) (fun _ _ _ h => h) (Or.inl ⟨rfl, fun _ _ => rfl⟩) hS8 ?_
  simp only [Act.put, List.setIfInBounds_toArray, List.set_cons_zero, List.set_cons_succ]
  refine takeH (fuel := 3) (i := 19) (v := .bool true) rfl (by kernel_rfl) (by kernel_rfl) (by kernel_rfl) (fun _ _ _ h => h) (Or.inl ⟨rfl, fun _ _ => rfl⟩) hS8 ?_
  simp only [Act.put, List.setIfInBounds_toArray, List.set_cons_zero, List.set_cons_succ]
  refine consH (fuel := 2) (i := 20) rfl (by kernel_rfl) (fun K hK => ?_)
  rw [if_pos (by rfl)]
  go_simp
  refine (awake _).mono ?_
  rintro e w9 ⟨rfl, hb9⟩
  refine hK.out _ _ ⟨hS8.1.keep hb9.out, bt hS8.2 hb9.out⟩ (fun hS9 => ?_)
  clear hK
  try simp only [Act.put, List.setIfInBounds_toArray, List.set_cons_zero, List.set_cons_succ]
  refine takeH (fuel := 1) (i := 21) (v := .bool true) rfl (by kernel_rfl) (by kernel_rfl) (by kernel_rfl) (fun _ _ _ h => h) (Or.inl ⟨rfl, fun _ _ => rfl⟩) hS9 ?_
  simp only [Act.put, List.setIfInBounds_toArray, List.set_cons_zero, List.set_cons_succ]
  refine takeH (fuel := 0) (i := 22) (v := .bool true) rfl (by kernel_rfl) (by kernel_rfl) (by kernel_rfl) (fun _ _ _ h => h) (Or.inl ⟨rfl, fun _ _ => rfl⟩) hS9 ?_
  simp only [Act.put, List.setIfInBounds_toArray, List.set_cons_zero, List.set_cons_succ]
  refine wpAnyH_done (by kernel_rfl) ?_ _
  have HB9 : Hid (Below w.heap.size w w9) := hS9.2
  clear hS hS8 hS9
  go_wp2_with fail
  go_ret
  exact KP.mk rfl HB9.out
set_option maxHeartbeats 8000000 in
theorem lChecks5 (M : Array Value) (hsz : M.size = 36) (x0 : Int)  (hM0 : M[0]? = some (.int .i64 5)) (w : World) (cv : Nat) (sv : Int)
    (hsm : ∀ W, Calls Tryz.prog 9 #[.agg M] W (KP (.bool true) W)) (hof : ∀ W, Calls Tryz.prog 11 #[.agg M] W (KP (.iface 74 (.agg #[.int .i64 x0])) W))
    (h12 : ∀ W, Below w.heap.size w W → Calls Tryz.prog 12 #[.iface 74 (.agg #[.int .i64 x0])] W (KP (.int .i64 cv) W)) (h13 : ∀ W, Below w.heap.size w W → Calls Tryz.prog 13 #[.agg M] W (KP (.int .i64 cv) W))
    (h14 : ∀ W, Calls Tryz.prog 14 #[.iface 74 (.agg #[.int .i64 x0])] W (KP (.int .i64 sv) W)) (h15 : ∀ W, Calls Tryz.prog 15 #[.agg M] W (KP (.int .i64 sv) W)) : Calls Tryz.prog 3 #[.agg M] w (KP (.bool true) w) := by
  have HOF : Hid (∀ W, Calls Tryz.prog 11 #[.agg M] W (KP (.iface 74 (.agg #[.int .i64 x0])) W)) := hof
  have H12 : Hid (∀ W, Below w.heap.size w W → Calls Tryz.prog 12 #[.iface 74 (.agg #[.int .i64 x0])] W (KP (.int .i64 cv) W)) := h12
  have H13 : Hid (∀ W, Below w.heap.size w W → Calls Tryz.prog 13 #[.agg M] W (KP (.int .i64 cv) W)) := h13
  have H14 : Hid (∀ W, Calls Tryz.prog 14 #[.iface 74 (.agg #[.int .i64 x0])] W (KP (.int .i64 sv) W)) := h14
  have H15 : Hid (∀ W, Calls Tryz.prog 15 #[.agg M] W (KP (.int .i64 sv) W)) := h15
  have HSM : Hid (∀ W, Calls Tryz.prog 9 #[.agg M] W (KP (.bool true) W)) := hsm
  have HM0 : Hid (∀ W, Bx W w.heap.size M 35 → W.cell? ⟨w.heap.size, 0, none⟩ = some (.int .i64 5)) := fun W h => (h.cell 0).trans hM0
  have HX0 : Hid (Bx (w.alloc (.cells M 35)) w.heap.size M 35) := Bx.new _ _ _
  have HB0 : Hid (Below w.heap.size w (w.alloc (.cells M 35))) := below_a w _
  have HLD : Hid (∀ W, Bx W w.heap.size M 35 → (Instr.loadAt 35 (.pointer (some ⟨w.heap.size, 0, none⟩))).run Tryz.prog W = .ok (.agg M) W) := fun W h => hloadAt W w.heap.size M hsz h
  clear hof h12 h13 h14 h15 hsm hM0
  go_enter Tryz.func3, Tryz.ntmps3
  go_upto_region 1 with fail
  generalize hw1 : w.alloc (.cells M 35) = w1 at *
  have HX : Hid (Bx w1 w.heap.size M 35) := HX0.out
  have HB : Hid (Below w.heap.size w w1) := HB0.out
  clear HX0 HB0 hw1
  go_wp2_with (guard_target =~ wpList _ _ _ (⟨_, Op.load 35 _, _, _, _, _⟩ :: _) _ _; refine wl_load _ rfl 35 _ rfl _ rfl _ (HLD.out _ HX.out) ?_; go_simp)
  refine (HSM.out _).mono ?_
  rintro e w2 ⟨rfl, hb2⟩
  have HX2 : Hid (Bx w2 w.heap.size M 35) := HX.out.keep hb2.out
  have HB2 : Hid (Below w.heap.size w w2) := bt HB.out hb2.out
  clear hb2 HX HB HSM
  go_wp2_with (guard_target =~ wpList _ _ _ (⟨_, Op.load 35 _, _, _, _, _⟩ :: _) _ _; refine wl_load _ rfl 35 _ rfl _ rfl _ (HLD.out _ HX2.out) ?_; go_simp)
  refine (HOF.out _).mono ?_
  rintro e w3 ⟨rfl, hb3⟩
  have HX3 : Hid (Bx w3 w.heap.size M 35) := HX2.out.keep hb3.out
  have HB3 : Hid (Below w.heap.size w w3) := bt HB2.out hb3.out
  clear hb3 HX2 HB2 HOF
  go_wp2_with fail
  refine wp_region_held (S := fun W => Bx W w.heap.size M 35 ∧ Below w.heap.size w W) (by kernel_rfl) ?_
  change wpAnyH _ _ _ _ _ 12 #[false, false, false, false, false, false, false, false, false, false, false, false] _ _
  have hS : Bx w3.drew w.heap.size M 35 ∧ Below w.heap.size w w3.drew := ⟨HX3.out, bdrw HB3.out 1⟩
  clear HX3 HB3
  refine takeH (fuel := 11) (i := 0) (v := .iface 74 (.agg #[.int .i64 x0])) rfl (by kernel_rfl) (by kernel_rfl) (by kernel_rfl) (fun _ _ _ h => h) (Or.inl ⟨rfl, fun _ _ => rfl⟩) hS ?_
  simp only [Act.put, List.setIfInBounds_toArray, List.set_cons_zero, List.set_cons_succ]
  refine takeH (fuel := 10) (i := 2) (v := .agg M) rfl (by kernel_rfl) (by kernel_rfl) (by kernel_rfl) (fun _ _ _ h => h) (Or.inl ⟨rfl, fun W hW => ex_load _ _ _ _ rfl _ _ rfl (HLD.out W hW.1)⟩) hS ?_
  simp only [Act.put, List.setIfInBounds_toArray, List.set_cons_zero, List.set_cons_succ]
  refine consH (fuel := 9) (i := 1) rfl (by kernel_rfl) (fun K hK => ?_)
  rw [if_pos (by rfl)]
  go_simp
  refine (H12.out _ hS.2).mono ?_
  rintro e w4 ⟨rfl, hb4⟩
  refine hK.out _ _ ⟨hS.1.keep hb4.out, bt hS.2 hb4.out⟩ (fun hS4 => ?_)
  clear hK
  try simp only [Act.put, List.setIfInBounds_toArray, List.set_cons_zero, List.set_cons_succ]
  refine consH (fuel := 8) (i := 3) rfl (by kernel_rfl) (fun K hK => ?_)
  rw [if_pos (by rfl)]
  go_simp
  refine (H13.out _ hS4.2).mono ?_
  rintro e w5 ⟨rfl, hb5⟩
  refine hK.out _ _ ⟨hS4.1.keep hb5.out, bt hS4.2 hb5.out⟩ (fun hS5 => ?_)
  clear hK
  try simp only [Act.put, List.setIfInBounds_toArray, List.set_cons_zero, List.set_cons_succ]
  refine takeH (fuel := 7) (i := 4) (v := .bool false) rfl (by kernel_rfl) (by kernel_rfl) (by kernel_rfl) (fun _ _ _ h => h) (Or.inl ⟨rfl, fun W hW => by go_simp⟩) hS5 ?_
  simp only [Act.put, List.setIfInBounds_toArray, List.set_cons_zero, List.set_cons_succ]
  refine takeH (fuel := 6) (i := 5) (v := .bool false) rfl (by kernel_rfl) (by kernel_rfl) (by kernel_rfl) (fun _ _ _ h => h) (Or.inl ⟨rfl, fun _ _ => rfl⟩) hS5 ?_
  simp only [Act.put, List.setIfInBounds_toArray, List.set_cons_zero, List.set_cons_succ]
  refine takeH (fuel := 5) (i := 6) (v := .iface 74 (.agg #[.int .i64 x0])) rfl (by kernel_rfl) (by kernel_rfl) (by kernel_rfl) (fun _ _ _ h => h) (Or.inl ⟨rfl, fun _ _ => rfl⟩) hS5 ?_
  simp only [Act.put, List.setIfInBounds_toArray, List.set_cons_zero, List.set_cons_succ]
  refine takeH (fuel := 4) (i := 8) (v := .agg M) rfl (by kernel_rfl) (by kernel_rfl) (by kernel_rfl) (fun _ _ _ h => h) (Or.inl ⟨rfl, fun W hW => ex_load _ _ _ _ rfl _ _ rfl (HLD.out W hW.1)⟩) hS5 ?_
  simp only [Act.put, List.setIfInBounds_toArray, List.set_cons_zero, List.set_cons_succ]
  refine consH (fuel := 3) (i := 7) rfl (by kernel_rfl) (fun K hK => ?_)
  rw [if_pos (by rfl)]
  go_simp
  refine (H14.out _).mono ?_
  rintro e w6 ⟨rfl, hb6⟩
  refine hK.out _ _ ⟨hS5.1.keep hb6.out, bt hS5.2 hb6.out⟩ (fun hS6 => ?_)
  clear hK
  try simp only [Act.put, List.setIfInBounds_toArray, List.set_cons_zero, List.set_cons_succ]
  refine consH (fuel := 2) (i := 9) rfl (by kernel_rfl) (fun K hK => ?_)
  rw [if_pos (by rfl)]
  go_simp
  refine (H15.out _).mono ?_
  rintro e w7 ⟨rfl, hb7⟩
  refine hK.out _ _ ⟨hS6.1.keep hb7.out, bt hS6.2 hb7.out⟩ (fun hS7 => ?_)
  clear hK
  try simp only [Act.put, List.setIfInBounds_toArray, List.set_cons_zero, List.set_cons_succ]
  refine takeH (fuel := 1) (i := 10) (v := .bool false) rfl (by kernel_rfl) (by kernel_rfl) (by kernel_rfl) (fun _ _ _ h => h) (Or.inl ⟨rfl, fun W hW => by go_simp⟩) hS7 ?_
  simp only [Act.put, List.setIfInBounds_toArray, List.set_cons_zero, List.set_cons_succ]
  refine takeH (fuel := 0) (i := 11) (v := .bool false) rfl (by kernel_rfl) (by kernel_rfl) (by kernel_rfl) (fun _ _ _ h => h) (Or.inl ⟨rfl, fun _ _ => rfl⟩) hS7 ?_
  simp only [Act.put, List.setIfInBounds_toArray, List.set_cons_zero, List.set_cons_succ]
  refine wpAnyH_done (by kernel_rfl) ?_ _
  have HX7 : Hid (Bx w7 w.heap.size M 35) := hS7.1
  have HB7 : Hid (Below w.heap.size w w7) := hS7.2
  clear hS hS4 hS5 hS6 hS7 hb4 hb5 hb6 hb7 H12 H13 H14 H15
  go_wp2_with fail
  refine wp_region_held (S := fun W => Bx W w.heap.size M 35 ∧ Below w.heap.size w W) (by kernel_rfl) ?_
  change wpAnyH _ _ _ _ _ 23 #[false, false, false, false, false, false, false, false, false, false, false, false, false, false, false, false, false, false, false, false, false, false, false] _ _
  have hS : Bx w7.drew w.heap.size M 35 ∧ Below w.heap.size w w7.drew := ⟨HX7.out, bdrw HB7.out 1⟩
  clear HX7 HB7
  refine takeH (fuel := 22) (i := 0) (v := .pointer (some ⟨w.heap.size, 0, none⟩)) rfl (by kernel_rfl) (by kernel_rfl) (by kernel_rfl) (fun _ _ _ h => h) (Or.inl ⟨rfl, fun W hW => by go_simp⟩) hS ?_
  simp only [Act.put, List.setIfInBounds_toArray, List.set_cons_zero, List.set_cons_succ]
  refine takeH (fuel := 21) (i := 1) (v := .int .i64 5) rfl (by kernel_rfl) (by kernel_rfl) (by kernel_rfl) (fun _ _ _ h => h) (Or.inl ⟨rfl, fun W hW => by have c0 := HM0.out W hW.1; go_simp⟩) hS ?_
  simp only [Act.put, List.setIfInBounds_toArray, List.set_cons_zero, List.set_cons_succ]
  refine takeH (fuel := 20) (i := 2) (v := .bool false) rfl (by kernel_rfl) (by kernel_rfl) (by kernel_rfl) (fun _ _ _ h => h) (Or.inl ⟨rfl, fun W hW => by go_simp⟩) hS ?_
  simp only [Act.put, List.setIfInBounds_toArray, List.set_cons_zero, List.set_cons_succ]
  refine takeH (fuel := 19) (i := 3) (v := .bool false) rfl (by kernel_rfl) (by kernel_rfl) (by kernel_rfl) (fun _ _ _ h => h) (Or.inl ⟨rfl, fun _ _ => rfl⟩) hS ?_
  simp only [Act.put, List.setIfInBounds_toArray, List.set_cons_zero, List.set_cons_succ]
  refine takeH (fuel := 18) (i := 4) (v := .pointer (some ⟨w.heap.size, 0, none⟩)) rfl (by kernel_rfl) (by kernel_rfl) (by kernel_rfl) (fun _ _ _ h => h) (Or.inl ⟨rfl, fun W hW => by go_simp⟩) hS ?_
  simp only [Act.put, List.setIfInBounds_toArray, List.set_cons_zero, List.set_cons_succ]
  refine takeH (fuel := 17) (i := 5) (v := .int .i64 5) rfl (by kernel_rfl) (by kernel_rfl) (by kernel_rfl) (fun _ _ _ h => h) (Or.inl ⟨rfl, fun W hW => by have c0 := HM0.out W hW.1; go_simp⟩) hS ?_
  simp only [Act.put, List.setIfInBounds_toArray, List.set_cons_zero, List.set_cons_succ]
  refine takeH (fuel := 16) (i := 6) (v := .bool false) rfl (by kernel_rfl) (by kernel_rfl) (by kernel_rfl) (fun _ _ _ h => h) (Or.inl ⟨rfl, fun W hW => by go_simp⟩) hS ?_
  simp only [Act.put, List.setIfInBounds_toArray, List.set_cons_zero, List.set_cons_succ]
  refine takeH (fuel := 15) (i := 7) (v := .bool false) rfl (by kernel_rfl) (by kernel_rfl) (by kernel_rfl) (fun _ _ _ h => h) (Or.inl ⟨rfl, fun _ _ => rfl⟩) hS ?_
  simp only [Act.put, List.setIfInBounds_toArray, List.set_cons_zero, List.set_cons_succ]
  refine takeH (fuel := 14) (i := 8) (v := .bool false) rfl (by kernel_rfl) (by kernel_rfl) (by kernel_rfl) (fun _ _ _ h => h) (Or.inl ⟨rfl, fun _ _ => rfl⟩) hS ?_
  simp only [Act.put, List.setIfInBounds_toArray, List.set_cons_zero, List.set_cons_succ]
  refine takeH (fuel := 13) (i := 9) (v := .iface 74 (.agg #[.int .i64 x0])) rfl (by kernel_rfl) (by kernel_rfl) (by kernel_rfl) (fun _ _ _ h => h) (Or.inl ⟨rfl, fun _ _ => rfl⟩) hS ?_
  simp only [Act.put, List.setIfInBounds_toArray, List.set_cons_zero, List.set_cons_succ]
  refine takeH (fuel := 12) (i := 10) (v := .bool true) rfl (by kernel_rfl) (by kernel_rfl) (by kernel_rfl) (fun _ _ _ h => h) (Or.inl ⟨rfl, fun W hW => by go_simp⟩) hS ?_
  simp only [Act.put, List.setIfInBounds_toArray, List.set_cons_zero, List.set_cons_succ]
  refine takeH (fuel := 11) (i := 11) (v := .bool true) rfl (by kernel_rfl) (by kernel_rfl) (by kernel_rfl) (fun _ _ _ h => h) (Or.inl ⟨rfl, fun _ _ => rfl⟩) hS ?_
  simp only [Act.put, List.setIfInBounds_toArray, List.set_cons_zero, List.set_cons_succ]
  refine takeH (fuel := 10) (i := 12) (v := .iface 74 (.agg #[.int .i64 x0])) rfl (by kernel_rfl) (by kernel_rfl) (by kernel_rfl) (fun _ _ _ h => h) (Or.inl ⟨rfl, fun _ _ => rfl⟩) hS ?_
  simp only [Act.put, List.setIfInBounds_toArray, List.set_cons_zero, List.set_cons_succ]
  refine takeH (fuel := 9) (i := 14) (v := .pointer (some ⟨w.heap.size, 0, none⟩)) rfl (by kernel_rfl) (by kernel_rfl) (by kernel_rfl) (fun _ _ _ h => h) (Or.inl ⟨rfl, fun W hW => by go_simp⟩) hS ?_
  simp only [Act.put, List.setIfInBounds_toArray, List.set_cons_zero, List.set_cons_succ]
  refine takeH (fuel := 8) (i := 15) (v := .int .i64 5) rfl (by kernel_rfl) (by kernel_rfl) (by kernel_rfl) (fun _ _ _ h => h) (Or.inl ⟨rfl, fun W hW => by have c0 := HM0.out W hW.1; go_simp⟩) hS ?_
  simp only [Act.put, List.setIfInBounds_toArray, List.set_cons_zero, List.set_cons_succ]
  refine consH (fuel := 7) (i := 13) rfl (by kernel_rfl) (fun K hK => ?_)
  rw [if_pos (by rfl)]
  go_simp
  refine (kind5 x0 _).mono ?_
  rintro e w8 ⟨rfl, hb8⟩
  refine hK.out _ _ ⟨hS.1.keep hb8.out, bt hS.2 hb8.out⟩ (fun hS8 => ?_)
  clear hK
  try simp only [Act.put, List.setIfInBounds_toArray, List.set_cons_zero, List.set_cons_succ]
  refine takeH (fuel := 6) (i := 16) (v := .bool true) rfl (by kernel_rfl) (by kernel_rfl) (by kernel_rfl) (fun _ _ _ h => h) (Or.inl ⟨rfl, fun W hW => by go_simp⟩) hS8 ?_
  simp only [Act.put, List.setIfInBounds_toArray, List.set_cons_zero, List.set_cons_succ]
  refine takeH (fuel := 5) (i := 17) (v := .bool true) rfl (by kernel_rfl) (by kernel_rfl) (by kernel_rfl) (fun _ _ _ h => h) (Or.inl ⟨rfl, fun _ _ => rfl⟩) hS8 ?_
  simp only [Act.put, List.setIfInBounds_toArray, List.set_cons_zero, List.set_cons_succ]
  refine takeH (fuel := 4) (i := 18) (v := .bool true) rfl (by kernel_rfl) (by kernel_rfl) (by kernel_rfl) (fun _ _ _ h => h) (Or.inl ⟨rfl, fun _ _ => rfl⟩) hS8 ?_
  simp only [Act.put, List.setIfInBounds_toArray, List.set_cons_zero, List.set_cons_succ]
  refine takeH (fuel := 3) (i := 19) (v := .bool true) rfl (by kernel_rfl) (by kernel_rfl) (by kernel_rfl) (fun _ _ _ h => h) (Or.inl ⟨rfl, fun _ _ => rfl⟩) hS8 ?_
  simp only [Act.put, List.setIfInBounds_toArray, List.set_cons_zero, List.set_cons_succ]
  refine consH (fuel := 2) (i := 20) rfl (by kernel_rfl) (fun K hK => ?_)
  rw [if_pos (by rfl)]
  go_simp
  refine (awake _).mono ?_
  rintro e w9 ⟨rfl, hb9⟩
  refine hK.out _ _ ⟨hS8.1.keep hb9.out, bt hS8.2 hb9.out⟩ (fun hS9 => ?_)
  clear hK
  try simp only [Act.put, List.setIfInBounds_toArray, List.set_cons_zero, List.set_cons_succ]
  refine takeH (fuel := 1) (i := 21) (v := .bool true) rfl (by kernel_rfl) (by kernel_rfl) (by kernel_rfl) (fun _ _ _ h => h) (Or.inl ⟨rfl, fun _ _ => rfl⟩) hS9 ?_
  simp only [Act.put, List.setIfInBounds_toArray, List.set_cons_zero, List.set_cons_succ]
  refine takeH (fuel := 0) (i := 22) (v := .bool true) rfl (by kernel_rfl) (by kernel_rfl) (by kernel_rfl) (fun _ _ _ h => h) (Or.inl ⟨rfl, fun _ _ => rfl⟩) hS9 ?_
  simp only [Act.put, List.setIfInBounds_toArray, List.set_cons_zero, List.set_cons_succ]
  refine wpAnyH_done (by kernel_rfl) ?_ _
  have HB9 : Hid (Below w.heap.size w w9) := hS9.2
  clear hS hS8 hS9
  go_wp2_with fail
  go_ret
  exact KP.mk rfl HB9.out
set_option maxHeartbeats 8000000 in
theorem lChecks6 (M : Array Value) (hsz : M.size = 36) (x0 : Int) (x1 : ByteArray) (x2 : Int)  (hM0 : M[0]? = some (.int .i64 6)) (w : World) (cv : Nat) (sv : Int)
    (hsm : ∀ W, Calls Tryz.prog 9 #[.agg M] W (KP (.bool true) W)) (hof : ∀ W, Calls Tryz.prog 11 #[.agg M] W (KP (.iface 84 (.agg #[.int .i64 x0, .string x1, .int .i64 x2])) W))
    (h12 : ∀ W, Below w.heap.size w W → Calls Tryz.prog 12 #[.iface 84 (.agg #[.int .i64 x0, .string x1, .int .i64 x2])] W (KP (.int .i64 cv) W)) (h13 : ∀ W, Below w.heap.size w W → Calls Tryz.prog 13 #[.agg M] W (KP (.int .i64 cv) W))
    (h14 : ∀ W, Calls Tryz.prog 14 #[.iface 84 (.agg #[.int .i64 x0, .string x1, .int .i64 x2])] W (KP (.int .i64 sv) W)) (h15 : ∀ W, Calls Tryz.prog 15 #[.agg M] W (KP (.int .i64 sv) W)) : Calls Tryz.prog 3 #[.agg M] w (KP (.bool true) w) := by
  have HOF : Hid (∀ W, Calls Tryz.prog 11 #[.agg M] W (KP (.iface 84 (.agg #[.int .i64 x0, .string x1, .int .i64 x2])) W)) := hof
  have H12 : Hid (∀ W, Below w.heap.size w W → Calls Tryz.prog 12 #[.iface 84 (.agg #[.int .i64 x0, .string x1, .int .i64 x2])] W (KP (.int .i64 cv) W)) := h12
  have H13 : Hid (∀ W, Below w.heap.size w W → Calls Tryz.prog 13 #[.agg M] W (KP (.int .i64 cv) W)) := h13
  have H14 : Hid (∀ W, Calls Tryz.prog 14 #[.iface 84 (.agg #[.int .i64 x0, .string x1, .int .i64 x2])] W (KP (.int .i64 sv) W)) := h14
  have H15 : Hid (∀ W, Calls Tryz.prog 15 #[.agg M] W (KP (.int .i64 sv) W)) := h15
  have HSM : Hid (∀ W, Calls Tryz.prog 9 #[.agg M] W (KP (.bool true) W)) := hsm
  have HM0 : Hid (∀ W, Bx W w.heap.size M 35 → W.cell? ⟨w.heap.size, 0, none⟩ = some (.int .i64 6)) := fun W h => (h.cell 0).trans hM0
  have HX0 : Hid (Bx (w.alloc (.cells M 35)) w.heap.size M 35) := Bx.new _ _ _
  have HB0 : Hid (Below w.heap.size w (w.alloc (.cells M 35))) := below_a w _
  have HLD : Hid (∀ W, Bx W w.heap.size M 35 → (Instr.loadAt 35 (.pointer (some ⟨w.heap.size, 0, none⟩))).run Tryz.prog W = .ok (.agg M) W) := fun W h => hloadAt W w.heap.size M hsz h
  clear hof h12 h13 h14 h15 hsm hM0
  go_enter Tryz.func3, Tryz.ntmps3
  go_upto_region 1 with fail
  generalize hw1 : w.alloc (.cells M 35) = w1 at *
  have HX : Hid (Bx w1 w.heap.size M 35) := HX0.out
  have HB : Hid (Below w.heap.size w w1) := HB0.out
  clear HX0 HB0 hw1
  go_wp2_with (guard_target =~ wpList _ _ _ (⟨_, Op.load 35 _, _, _, _, _⟩ :: _) _ _; refine wl_load _ rfl 35 _ rfl _ rfl _ (HLD.out _ HX.out) ?_; go_simp)
  refine (HSM.out _).mono ?_
  rintro e w2 ⟨rfl, hb2⟩
  have HX2 : Hid (Bx w2 w.heap.size M 35) := HX.out.keep hb2.out
  have HB2 : Hid (Below w.heap.size w w2) := bt HB.out hb2.out
  clear hb2 HX HB HSM
  go_wp2_with (guard_target =~ wpList _ _ _ (⟨_, Op.load 35 _, _, _, _, _⟩ :: _) _ _; refine wl_load _ rfl 35 _ rfl _ rfl _ (HLD.out _ HX2.out) ?_; go_simp)
  refine (HOF.out _).mono ?_
  rintro e w3 ⟨rfl, hb3⟩
  have HX3 : Hid (Bx w3 w.heap.size M 35) := HX2.out.keep hb3.out
  have HB3 : Hid (Below w.heap.size w w3) := bt HB2.out hb3.out
  clear hb3 HX2 HB2 HOF
  go_wp2_with fail
  refine wp_region_held (S := fun W => Bx W w.heap.size M 35 ∧ Below w.heap.size w W) (by kernel_rfl) ?_
  change wpAnyH _ _ _ _ _ 12 #[false, false, false, false, false, false, false, false, false, false, false, false] _ _
  have hS : Bx w3.drew w.heap.size M 35 ∧ Below w.heap.size w w3.drew := ⟨HX3.out, bdrw HB3.out 1⟩
  clear HX3 HB3
  refine takeH (fuel := 11) (i := 0) (v := .iface 84 (.agg #[.int .i64 x0, .string x1, .int .i64 x2])) rfl (by kernel_rfl) (by kernel_rfl) (by kernel_rfl) (fun _ _ _ h => h) (Or.inl ⟨rfl, fun _ _ => rfl⟩) hS ?_
  simp only [Act.put, List.setIfInBounds_toArray, List.set_cons_zero, List.set_cons_succ]
  refine takeH (fuel := 10) (i := 2) (v := .agg M) rfl (by kernel_rfl) (by kernel_rfl) (by kernel_rfl) (fun _ _ _ h => h) (Or.inl ⟨rfl, fun W hW => ex_load _ _ _ _ rfl _ _ rfl (HLD.out W hW.1)⟩) hS ?_
  simp only [Act.put, List.setIfInBounds_toArray, List.set_cons_zero, List.set_cons_succ]
  refine consH (fuel := 9) (i := 1) rfl (by kernel_rfl) (fun K hK => ?_)
  rw [if_pos (by rfl)]
  go_simp
  refine (H12.out _ hS.2).mono ?_
  rintro e w4 ⟨rfl, hb4⟩
  refine hK.out _ _ ⟨hS.1.keep hb4.out, bt hS.2 hb4.out⟩ (fun hS4 => ?_)
  clear hK
  try simp only [Act.put, List.setIfInBounds_toArray, List.set_cons_zero, List.set_cons_succ]
  refine consH (fuel := 8) (i := 3) rfl (by kernel_rfl) (fun K hK => ?_)
  rw [if_pos (by rfl)]
  go_simp
  refine (H13.out _ hS4.2).mono ?_
  rintro e w5 ⟨rfl, hb5⟩
  refine hK.out _ _ ⟨hS4.1.keep hb5.out, bt hS4.2 hb5.out⟩ (fun hS5 => ?_)
  clear hK
  try simp only [Act.put, List.setIfInBounds_toArray, List.set_cons_zero, List.set_cons_succ]
  refine takeH (fuel := 7) (i := 4) (v := .bool false) rfl (by kernel_rfl) (by kernel_rfl) (by kernel_rfl) (fun _ _ _ h => h) (Or.inl ⟨rfl, fun W hW => by go_simp⟩) hS5 ?_
  simp only [Act.put, List.setIfInBounds_toArray, List.set_cons_zero, List.set_cons_succ]
  refine takeH (fuel := 6) (i := 5) (v := .bool false) rfl (by kernel_rfl) (by kernel_rfl) (by kernel_rfl) (fun _ _ _ h => h) (Or.inl ⟨rfl, fun _ _ => rfl⟩) hS5 ?_
  simp only [Act.put, List.setIfInBounds_toArray, List.set_cons_zero, List.set_cons_succ]
  refine takeH (fuel := 5) (i := 6) (v := .iface 84 (.agg #[.int .i64 x0, .string x1, .int .i64 x2])) rfl (by kernel_rfl) (by kernel_rfl) (by kernel_rfl) (fun _ _ _ h => h) (Or.inl ⟨rfl, fun _ _ => rfl⟩) hS5 ?_
  simp only [Act.put, List.setIfInBounds_toArray, List.set_cons_zero, List.set_cons_succ]
  refine takeH (fuel := 4) (i := 8) (v := .agg M) rfl (by kernel_rfl) (by kernel_rfl) (by kernel_rfl) (fun _ _ _ h => h) (Or.inl ⟨rfl, fun W hW => ex_load _ _ _ _ rfl _ _ rfl (HLD.out W hW.1)⟩) hS5 ?_
  simp only [Act.put, List.setIfInBounds_toArray, List.set_cons_zero, List.set_cons_succ]
  refine consH (fuel := 3) (i := 7) rfl (by kernel_rfl) (fun K hK => ?_)
  rw [if_pos (by rfl)]
  go_simp
  refine (H14.out _).mono ?_
  rintro e w6 ⟨rfl, hb6⟩
  refine hK.out _ _ ⟨hS5.1.keep hb6.out, bt hS5.2 hb6.out⟩ (fun hS6 => ?_)
  clear hK
  try simp only [Act.put, List.setIfInBounds_toArray, List.set_cons_zero, List.set_cons_succ]
  refine consH (fuel := 2) (i := 9) rfl (by kernel_rfl) (fun K hK => ?_)
  rw [if_pos (by rfl)]
  go_simp
  refine (H15.out _).mono ?_
  rintro e w7 ⟨rfl, hb7⟩
  refine hK.out _ _ ⟨hS6.1.keep hb7.out, bt hS6.2 hb7.out⟩ (fun hS7 => ?_)
  clear hK
  try simp only [Act.put, List.setIfInBounds_toArray, List.set_cons_zero, List.set_cons_succ]
  refine takeH (fuel := 1) (i := 10) (v := .bool false) rfl (by kernel_rfl) (by kernel_rfl) (by kernel_rfl) (fun _ _ _ h => h) (Or.inl ⟨rfl, fun W hW => by go_simp⟩) hS7 ?_
  simp only [Act.put, List.setIfInBounds_toArray, List.set_cons_zero, List.set_cons_succ]
  refine takeH (fuel := 0) (i := 11) (v := .bool false) rfl (by kernel_rfl) (by kernel_rfl) (by kernel_rfl) (fun _ _ _ h => h) (Or.inl ⟨rfl, fun _ _ => rfl⟩) hS7 ?_
  simp only [Act.put, List.setIfInBounds_toArray, List.set_cons_zero, List.set_cons_succ]
  refine wpAnyH_done (by kernel_rfl) ?_ _
  have HX7 : Hid (Bx w7 w.heap.size M 35) := hS7.1
  have HB7 : Hid (Below w.heap.size w w7) := hS7.2
  clear hS hS4 hS5 hS6 hS7 hb4 hb5 hb6 hb7 H12 H13 H14 H15
  go_wp2_with fail
  refine wp_region_held (S := fun W => Bx W w.heap.size M 35 ∧ Below w.heap.size w W) (by kernel_rfl) ?_
  change wpAnyH _ _ _ _ _ 23 #[false, false, false, false, false, false, false, false, false, false, false, false, false, false, false, false, false, false, false, false, false, false, false] _ _
  have hS : Bx w7.drew w.heap.size M 35 ∧ Below w.heap.size w w7.drew := ⟨HX7.out, bdrw HB7.out 1⟩
  clear HX7 HB7
  refine takeH (fuel := 22) (i := 0) (v := .pointer (some ⟨w.heap.size, 0, none⟩)) rfl (by kernel_rfl) (by kernel_rfl) (by kernel_rfl) (fun _ _ _ h => h) (Or.inl ⟨rfl, fun W hW => by go_simp⟩) hS ?_
  simp only [Act.put, List.setIfInBounds_toArray, List.set_cons_zero, List.set_cons_succ]
  refine takeH (fuel := 21) (i := 1) (v := .int .i64 6) rfl (by kernel_rfl) (by kernel_rfl) (by kernel_rfl) (fun _ _ _ h => h) (Or.inl ⟨rfl, fun W hW => by have c0 := HM0.out W hW.1; go_simp⟩) hS ?_
  simp only [Act.put, List.setIfInBounds_toArray, List.set_cons_zero, List.set_cons_succ]
  refine takeH (fuel := 20) (i := 2) (v := .bool false) rfl (by kernel_rfl) (by kernel_rfl) (by kernel_rfl) (fun _ _ _ h => h) (Or.inl ⟨rfl, fun W hW => by go_simp⟩) hS ?_
  simp only [Act.put, List.setIfInBounds_toArray, List.set_cons_zero, List.set_cons_succ]
  refine takeH (fuel := 19) (i := 3) (v := .bool false) rfl (by kernel_rfl) (by kernel_rfl) (by kernel_rfl) (fun _ _ _ h => h) (Or.inl ⟨rfl, fun _ _ => rfl⟩) hS ?_
  simp only [Act.put, List.setIfInBounds_toArray, List.set_cons_zero, List.set_cons_succ]
  refine takeH (fuel := 18) (i := 4) (v := .pointer (some ⟨w.heap.size, 0, none⟩)) rfl (by kernel_rfl) (by kernel_rfl) (by kernel_rfl) (fun _ _ _ h => h) (Or.inl ⟨rfl, fun W hW => by go_simp⟩) hS ?_
  simp only [Act.put, List.setIfInBounds_toArray, List.set_cons_zero, List.set_cons_succ]
  refine takeH (fuel := 17) (i := 5) (v := .int .i64 6) rfl (by kernel_rfl) (by kernel_rfl) (by kernel_rfl) (fun _ _ _ h => h) (Or.inl ⟨rfl, fun W hW => by have c0 := HM0.out W hW.1; go_simp⟩) hS ?_
  simp only [Act.put, List.setIfInBounds_toArray, List.set_cons_zero, List.set_cons_succ]
  refine takeH (fuel := 16) (i := 6) (v := .bool false) rfl (by kernel_rfl) (by kernel_rfl) (by kernel_rfl) (fun _ _ _ h => h) (Or.inl ⟨rfl, fun W hW => by go_simp⟩) hS ?_
  simp only [Act.put, List.setIfInBounds_toArray, List.set_cons_zero, List.set_cons_succ]
  refine takeH (fuel := 15) (i := 7) (v := .bool false) rfl (by kernel_rfl) (by kernel_rfl) (by kernel_rfl) (fun _ _ _ h => h) (Or.inl ⟨rfl, fun _ _ => rfl⟩) hS ?_
  simp only [Act.put, List.setIfInBounds_toArray, List.set_cons_zero, List.set_cons_succ]
  refine takeH (fuel := 14) (i := 8) (v := .bool false) rfl (by kernel_rfl) (by kernel_rfl) (by kernel_rfl) (fun _ _ _ h => h) (Or.inl ⟨rfl, fun _ _ => rfl⟩) hS ?_
  simp only [Act.put, List.setIfInBounds_toArray, List.set_cons_zero, List.set_cons_succ]
  refine takeH (fuel := 13) (i := 9) (v := .iface 84 (.agg #[.int .i64 x0, .string x1, .int .i64 x2])) rfl (by kernel_rfl) (by kernel_rfl) (by kernel_rfl) (fun _ _ _ h => h) (Or.inl ⟨rfl, fun _ _ => rfl⟩) hS ?_
  simp only [Act.put, List.setIfInBounds_toArray, List.set_cons_zero, List.set_cons_succ]
  refine takeH (fuel := 12) (i := 10) (v := .bool true) rfl (by kernel_rfl) (by kernel_rfl) (by kernel_rfl) (fun _ _ _ h => h) (Or.inl ⟨rfl, fun W hW => by go_simp⟩) hS ?_
  simp only [Act.put, List.setIfInBounds_toArray, List.set_cons_zero, List.set_cons_succ]
  refine takeH (fuel := 11) (i := 11) (v := .bool true) rfl (by kernel_rfl) (by kernel_rfl) (by kernel_rfl) (fun _ _ _ h => h) (Or.inl ⟨rfl, fun _ _ => rfl⟩) hS ?_
  simp only [Act.put, List.setIfInBounds_toArray, List.set_cons_zero, List.set_cons_succ]
  refine takeH (fuel := 10) (i := 12) (v := .iface 84 (.agg #[.int .i64 x0, .string x1, .int .i64 x2])) rfl (by kernel_rfl) (by kernel_rfl) (by kernel_rfl) (fun _ _ _ h => h) (Or.inl ⟨rfl, fun _ _ => rfl⟩) hS ?_
  simp only [Act.put, List.setIfInBounds_toArray, List.set_cons_zero, List.set_cons_succ]
  refine takeH (fuel := 9) (i := 14) (v := .pointer (some ⟨w.heap.size, 0, none⟩)) rfl (by kernel_rfl) (by kernel_rfl) (by kernel_rfl) (fun _ _ _ h => h) (Or.inl ⟨rfl, fun W hW => by go_simp⟩) hS ?_
  simp only [Act.put, List.setIfInBounds_toArray, List.set_cons_zero, List.set_cons_succ]
  refine takeH (fuel := 8) (i := 15) (v := .int .i64 6) rfl (by kernel_rfl) (by kernel_rfl) (by kernel_rfl) (fun _ _ _ h => h) (Or.inl ⟨rfl, fun W hW => by have c0 := HM0.out W hW.1; go_simp⟩) hS ?_
  simp only [Act.put, List.setIfInBounds_toArray, List.set_cons_zero, List.set_cons_succ]
  refine consH (fuel := 7) (i := 13) rfl (by kernel_rfl) (fun K hK => ?_)
  rw [if_pos (by rfl)]
  go_simp
  refine (kind6 x0 x1 x2 _).mono ?_
  rintro e w8 ⟨rfl, hb8⟩
  refine hK.out _ _ ⟨hS.1.keep hb8.out, bt hS.2 hb8.out⟩ (fun hS8 => ?_)
  clear hK
  try simp only [Act.put, List.setIfInBounds_toArray, List.set_cons_zero, List.set_cons_succ]
  refine takeH (fuel := 6) (i := 16) (v := .bool true) rfl (by kernel_rfl) (by kernel_rfl) (by kernel_rfl) (fun _ _ _ h => h) (Or.inl ⟨rfl, fun W hW => by go_simp⟩) hS8 ?_
  simp only [Act.put, List.setIfInBounds_toArray, List.set_cons_zero, List.set_cons_succ]
  refine takeH (fuel := 5) (i := 17) (v := .bool true) rfl (by kernel_rfl) (by kernel_rfl) (by kernel_rfl) (fun _ _ _ h => h) (Or.inl ⟨rfl, fun _ _ => rfl⟩) hS8 ?_
  simp only [Act.put, List.setIfInBounds_toArray, List.set_cons_zero, List.set_cons_succ]
  refine takeH (fuel := 4) (i := 18) (v := .bool true) rfl (by kernel_rfl) (by kernel_rfl) (by kernel_rfl) (fun _ _ _ h => h) (Or.inl ⟨rfl, fun _ _ => rfl⟩) hS8 ?_
  simp only [Act.put, List.setIfInBounds_toArray, List.set_cons_zero, List.set_cons_succ]
  refine takeH (fuel := 3) (i := 19) (v := .bool true) rfl (by kernel_rfl) (by kernel_rfl) (by kernel_rfl) (fun _ _ _ h => h) (Or.inl ⟨rfl, fun _ _ => rfl⟩) hS8 ?_
  simp only [Act.put, List.setIfInBounds_toArray, List.set_cons_zero, List.set_cons_succ]
  refine consH (fuel := 2) (i := 20) rfl (by kernel_rfl) (fun K hK => ?_)
  rw [if_pos (by rfl)]
  go_simp
  refine (awake _).mono ?_
  rintro e w9 ⟨rfl, hb9⟩
  refine hK.out _ _ ⟨hS8.1.keep hb9.out, bt hS8.2 hb9.out⟩ (fun hS9 => ?_)
  clear hK
  try simp only [Act.put, List.setIfInBounds_toArray, List.set_cons_zero, List.set_cons_succ]
  refine takeH (fuel := 1) (i := 21) (v := .bool true) rfl (by kernel_rfl) (by kernel_rfl) (by kernel_rfl) (fun _ _ _ h => h) (Or.inl ⟨rfl, fun _ _ => rfl⟩) hS9 ?_
  simp only [Act.put, List.setIfInBounds_toArray, List.set_cons_zero, List.set_cons_succ]
  refine takeH (fuel := 0) (i := 22) (v := .bool true) rfl (by kernel_rfl) (by kernel_rfl) (by kernel_rfl) (fun _ _ _ h => h) (Or.inl ⟨rfl, fun _ _ => rfl⟩) hS9 ?_
  simp only [Act.put, List.setIfInBounds_toArray, List.set_cons_zero, List.set_cons_succ]
  refine wpAnyH_done (by kernel_rfl) ?_ _
  have HB9 : Hid (Below w.heap.size w w9) := hS9.2
  clear hS hS8 hS9
  go_wp2_with fail
  go_ret
  exact KP.mk rfl HB9.out
set_option maxHeartbeats 8000000 in
theorem lChecks7 (M : Array Value) (hsz : M.size = 36) (x0 : Int) (x1 : ByteArray) (x2 : Int)  (hM0 : M[0]? = some (.int .i64 7)) (w : World) (cv : Nat) (sv : Int)
    (hsm : ∀ W, Calls Tryz.prog 9 #[.agg M] W (KP (.bool true) W)) (hof : ∀ W, Calls Tryz.prog 11 #[.agg M] W (KP (.iface 86 (.agg #[.int .i64 x0, .string x1, .int .i64 x2])) W))
    (h12 : ∀ W, Below w.heap.size w W → Calls Tryz.prog 12 #[.iface 86 (.agg #[.int .i64 x0, .string x1, .int .i64 x2])] W (KP (.int .i64 cv) W)) (h13 : ∀ W, Below w.heap.size w W → Calls Tryz.prog 13 #[.agg M] W (KP (.int .i64 cv) W))
    (h14 : ∀ W, Calls Tryz.prog 14 #[.iface 86 (.agg #[.int .i64 x0, .string x1, .int .i64 x2])] W (KP (.int .i64 sv) W)) (h15 : ∀ W, Calls Tryz.prog 15 #[.agg M] W (KP (.int .i64 sv) W)) : Calls Tryz.prog 3 #[.agg M] w (KP (.bool true) w) := by
  have HOF : Hid (∀ W, Calls Tryz.prog 11 #[.agg M] W (KP (.iface 86 (.agg #[.int .i64 x0, .string x1, .int .i64 x2])) W)) := hof
  have H12 : Hid (∀ W, Below w.heap.size w W → Calls Tryz.prog 12 #[.iface 86 (.agg #[.int .i64 x0, .string x1, .int .i64 x2])] W (KP (.int .i64 cv) W)) := h12
  have H13 : Hid (∀ W, Below w.heap.size w W → Calls Tryz.prog 13 #[.agg M] W (KP (.int .i64 cv) W)) := h13
  have H14 : Hid (∀ W, Calls Tryz.prog 14 #[.iface 86 (.agg #[.int .i64 x0, .string x1, .int .i64 x2])] W (KP (.int .i64 sv) W)) := h14
  have H15 : Hid (∀ W, Calls Tryz.prog 15 #[.agg M] W (KP (.int .i64 sv) W)) := h15
  have HSM : Hid (∀ W, Calls Tryz.prog 9 #[.agg M] W (KP (.bool true) W)) := hsm
  have HM0 : Hid (∀ W, Bx W w.heap.size M 35 → W.cell? ⟨w.heap.size, 0, none⟩ = some (.int .i64 7)) := fun W h => (h.cell 0).trans hM0
  have HX0 : Hid (Bx (w.alloc (.cells M 35)) w.heap.size M 35) := Bx.new _ _ _
  have HB0 : Hid (Below w.heap.size w (w.alloc (.cells M 35))) := below_a w _
  have HLD : Hid (∀ W, Bx W w.heap.size M 35 → (Instr.loadAt 35 (.pointer (some ⟨w.heap.size, 0, none⟩))).run Tryz.prog W = .ok (.agg M) W) := fun W h => hloadAt W w.heap.size M hsz h
  clear hof h12 h13 h14 h15 hsm hM0
  go_enter Tryz.func3, Tryz.ntmps3
  go_upto_region 1 with fail
  generalize hw1 : w.alloc (.cells M 35) = w1 at *
  have HX : Hid (Bx w1 w.heap.size M 35) := HX0.out
  have HB : Hid (Below w.heap.size w w1) := HB0.out
  clear HX0 HB0 hw1
  go_wp2_with (guard_target =~ wpList _ _ _ (⟨_, Op.load 35 _, _, _, _, _⟩ :: _) _ _; refine wl_load _ rfl 35 _ rfl _ rfl _ (HLD.out _ HX.out) ?_; go_simp)
  refine (HSM.out _).mono ?_
  rintro e w2 ⟨rfl, hb2⟩
  have HX2 : Hid (Bx w2 w.heap.size M 35) := HX.out.keep hb2.out
  have HB2 : Hid (Below w.heap.size w w2) := bt HB.out hb2.out
  clear hb2 HX HB HSM
  go_wp2_with (guard_target =~ wpList _ _ _ (⟨_, Op.load 35 _, _, _, _, _⟩ :: _) _ _; refine wl_load _ rfl 35 _ rfl _ rfl _ (HLD.out _ HX2.out) ?_; go_simp)
  refine (HOF.out _).mono ?_
  rintro e w3 ⟨rfl, hb3⟩
  have HX3 : Hid (Bx w3 w.heap.size M 35) := HX2.out.keep hb3.out
  have HB3 : Hid (Below w.heap.size w w3) := bt HB2.out hb3.out
  clear hb3 HX2 HB2 HOF
  go_wp2_with fail
  refine wp_region_held (S := fun W => Bx W w.heap.size M 35 ∧ Below w.heap.size w W) (by kernel_rfl) ?_
  change wpAnyH _ _ _ _ _ 12 #[false, false, false, false, false, false, false, false, false, false, false, false] _ _
  have hS : Bx w3.drew w.heap.size M 35 ∧ Below w.heap.size w w3.drew := ⟨HX3.out, bdrw HB3.out 1⟩
  clear HX3 HB3
  refine takeH (fuel := 11) (i := 0) (v := .iface 86 (.agg #[.int .i64 x0, .string x1, .int .i64 x2])) rfl (by kernel_rfl) (by kernel_rfl) (by kernel_rfl) (fun _ _ _ h => h) (Or.inl ⟨rfl, fun _ _ => rfl⟩) hS ?_
  simp only [Act.put, List.setIfInBounds_toArray, List.set_cons_zero, List.set_cons_succ]
  refine takeH (fuel := 10) (i := 2) (v := .agg M) rfl (by kernel_rfl) (by kernel_rfl) (by kernel_rfl) (fun _ _ _ h => h) (Or.inl ⟨rfl, fun W hW => ex_load _ _ _ _ rfl _ _ rfl (HLD.out W hW.1)⟩) hS ?_
  simp only [Act.put, List.setIfInBounds_toArray, List.set_cons_zero, List.set_cons_succ]
  refine consH (fuel := 9) (i := 1) rfl (by kernel_rfl) (fun K hK => ?_)
  rw [if_pos (by rfl)]
  go_simp
  refine (H12.out _ hS.2).mono ?_
  rintro e w4 ⟨rfl, hb4⟩
  refine hK.out _ _ ⟨hS.1.keep hb4.out, bt hS.2 hb4.out⟩ (fun hS4 => ?_)
  clear hK
  try simp only [Act.put, List.setIfInBounds_toArray, List.set_cons_zero, List.set_cons_succ]
  refine consH (fuel := 8) (i := 3) rfl (by kernel_rfl) (fun K hK => ?_)
  rw [if_pos (by rfl)]
  go_simp
  refine (H13.out _ hS4.2).mono ?_
  rintro e w5 ⟨rfl, hb5⟩
  refine hK.out _ _ ⟨hS4.1.keep hb5.out, bt hS4.2 hb5.out⟩ (fun hS5 => ?_)
  clear hK
  try simp only [Act.put, List.setIfInBounds_toArray, List.set_cons_zero, List.set_cons_succ]
  refine takeH (fuel := 7) (i := 4) (v := .bool false) rfl (by kernel_rfl) (by kernel_rfl) (by kernel_rfl) (fun _ _ _ h => h) (Or.inl ⟨rfl, fun W hW => by go_simp⟩) hS5 ?_
  simp only [Act.put, List.setIfInBounds_toArray, List.set_cons_zero, List.set_cons_succ]
  refine takeH (fuel := 6) (i := 5) (v := .bool false) rfl (by kernel_rfl) (by kernel_rfl) (by kernel_rfl) (fun _ _ _ h => h) (Or.inl ⟨rfl, fun _ _ => rfl⟩) hS5 ?_
  simp only [Act.put, List.setIfInBounds_toArray, List.set_cons_zero, List.set_cons_succ]
  refine takeH (fuel := 5) (i := 6) (v := .iface 86 (.agg #[.int .i64 x0, .string x1, .int .i64 x2])) rfl (by kernel_rfl) (by kernel_rfl) (by kernel_rfl) (fun _ _ _ h => h) (Or.inl ⟨rfl, fun _ _ => rfl⟩) hS5 ?_
  simp only [Act.put, List.setIfInBounds_toArray, List.set_cons_zero, List.set_cons_succ]
  refine takeH (fuel := 4) (i := 8) (v := .agg M) rfl (by kernel_rfl) (by kernel_rfl) (by kernel_rfl) (fun _ _ _ h => h) (Or.inl ⟨rfl, fun W hW => ex_load _ _ _ _ rfl _ _ rfl (HLD.out W hW.1)⟩) hS5 ?_
  simp only [Act.put, List.setIfInBounds_toArray, List.set_cons_zero, List.set_cons_succ]
  refine consH (fuel := 3) (i := 7) rfl (by kernel_rfl) (fun K hK => ?_)
  rw [if_pos (by rfl)]
  go_simp
  refine (H14.out _).mono ?_
  rintro e w6 ⟨rfl, hb6⟩
  refine hK.out _ _ ⟨hS5.1.keep hb6.out, bt hS5.2 hb6.out⟩ (fun hS6 => ?_)
  clear hK
  try simp only [Act.put, List.setIfInBounds_toArray, List.set_cons_zero, List.set_cons_succ]
  refine consH (fuel := 2) (i := 9) rfl (by kernel_rfl) (fun K hK => ?_)
  rw [if_pos (by rfl)]
  go_simp
  refine (H15.out _).mono ?_
  rintro e w7 ⟨rfl, hb7⟩
  refine hK.out _ _ ⟨hS6.1.keep hb7.out, bt hS6.2 hb7.out⟩ (fun hS7 => ?_)
  clear hK
  try simp only [Act.put, List.setIfInBounds_toArray, List.set_cons_zero, List.set_cons_succ]
  refine takeH (fuel := 1) (i := 10) (v := .bool false) rfl (by kernel_rfl) (by kernel_rfl) (by kernel_rfl) (fun _ _ _ h => h) (Or.inl ⟨rfl, fun W hW => by go_simp⟩) hS7 ?_
  simp only [Act.put, List.setIfInBounds_toArray, List.set_cons_zero, List.set_cons_succ]
  refine takeH (fuel := 0) (i := 11) (v := .bool false) rfl (by kernel_rfl) (by kernel_rfl) (by kernel_rfl) (fun _ _ _ h => h) (Or.inl ⟨rfl, fun _ _ => rfl⟩) hS7 ?_
  simp only [Act.put, List.setIfInBounds_toArray, List.set_cons_zero, List.set_cons_succ]
  refine wpAnyH_done (by kernel_rfl) ?_ _
  have HX7 : Hid (Bx w7 w.heap.size M 35) := hS7.1
  have HB7 : Hid (Below w.heap.size w w7) := hS7.2
  clear hS hS4 hS5 hS6 hS7 hb4 hb5 hb6 hb7 H12 H13 H14 H15
  go_wp2_with fail
  refine wp_region_held (S := fun W => Bx W w.heap.size M 35 ∧ Below w.heap.size w W) (by kernel_rfl) ?_
  change wpAnyH _ _ _ _ _ 23 #[false, false, false, false, false, false, false, false, false, false, false, false, false, false, false, false, false, false, false, false, false, false, false] _ _
  have hS : Bx w7.drew w.heap.size M 35 ∧ Below w.heap.size w w7.drew := ⟨HX7.out, bdrw HB7.out 1⟩
  clear HX7 HB7
  refine takeH (fuel := 22) (i := 0) (v := .pointer (some ⟨w.heap.size, 0, none⟩)) rfl (by kernel_rfl) (by kernel_rfl) (by kernel_rfl) (fun _ _ _ h => h) (Or.inl ⟨rfl, fun W hW => by go_simp⟩) hS ?_
  simp only [Act.put, List.setIfInBounds_toArray, List.set_cons_zero, List.set_cons_succ]
  refine takeH (fuel := 21) (i := 1) (v := .int .i64 7) rfl (by kernel_rfl) (by kernel_rfl) (by kernel_rfl) (fun _ _ _ h => h) (Or.inl ⟨rfl, fun W hW => by have c0 := HM0.out W hW.1; go_simp⟩) hS ?_
  simp only [Act.put, List.setIfInBounds_toArray, List.set_cons_zero, List.set_cons_succ]
  refine takeH (fuel := 20) (i := 2) (v := .bool false) rfl (by kernel_rfl) (by kernel_rfl) (by kernel_rfl) (fun _ _ _ h => h) (Or.inl ⟨rfl, fun W hW => by go_simp⟩) hS ?_
  simp only [Act.put, List.setIfInBounds_toArray, List.set_cons_zero, List.set_cons_succ]
  refine takeH (fuel := 19) (i := 3) (v := .bool false) rfl (by kernel_rfl) (by kernel_rfl) (by kernel_rfl) (fun _ _ _ h => h) (Or.inl ⟨rfl, fun _ _ => rfl⟩) hS ?_
  simp only [Act.put, List.setIfInBounds_toArray, List.set_cons_zero, List.set_cons_succ]
  refine takeH (fuel := 18) (i := 4) (v := .pointer (some ⟨w.heap.size, 0, none⟩)) rfl (by kernel_rfl) (by kernel_rfl) (by kernel_rfl) (fun _ _ _ h => h) (Or.inl ⟨rfl, fun W hW => by go_simp⟩) hS ?_
  simp only [Act.put, List.setIfInBounds_toArray, List.set_cons_zero, List.set_cons_succ]
  refine takeH (fuel := 17) (i := 5) (v := .int .i64 7) rfl (by kernel_rfl) (by kernel_rfl) (by kernel_rfl) (fun _ _ _ h => h) (Or.inl ⟨rfl, fun W hW => by have c0 := HM0.out W hW.1; go_simp⟩) hS ?_
  simp only [Act.put, List.setIfInBounds_toArray, List.set_cons_zero, List.set_cons_succ]
  refine takeH (fuel := 16) (i := 6) (v := .bool false) rfl (by kernel_rfl) (by kernel_rfl) (by kernel_rfl) (fun _ _ _ h => h) (Or.inl ⟨rfl, fun W hW => by go_simp⟩) hS ?_
  simp only [Act.put, List.setIfInBounds_toArray, List.set_cons_zero, List.set_cons_succ]
  refine takeH (fuel := 15) (i := 7) (v := .bool false) rfl (by kernel_rfl) (by kernel_rfl) (by kernel_rfl) (fun _ _ _ h => h) (Or.inl ⟨rfl, fun _ _ => rfl⟩) hS ?_
  simp only [Act.put, List.setIfInBounds_toArray, List.set_cons_zero, List.set_cons_succ]
  refine takeH (fuel := 14) (i := 8) (v := .bool false) rfl (by kernel_rfl) (by kernel_rfl) (by kernel_rfl) (fun _ _ _ h => h) (Or.inl ⟨rfl, fun _ _ => rfl⟩) hS ?_
  simp only [Act.put, List.setIfInBounds_toArray, List.set_cons_zero, List.set_cons_succ]
  refine takeH (fuel := 13) (i := 9) (v := .iface 86 (.agg #[.int .i64 x0, .string x1, .int .i64 x2])) rfl (by kernel_rfl) (by kernel_rfl) (by kernel_rfl) (fun _ _ _ h => h) (Or.inl ⟨rfl, fun _ _ => rfl⟩) hS ?_
  simp only [Act.put, List.setIfInBounds_toArray, List.set_cons_zero, List.set_cons_succ]
  refine takeH (fuel := 12) (i := 10) (v := .bool true) rfl (by kernel_rfl) (by kernel_rfl) (by kernel_rfl) (fun _ _ _ h => h) (Or.inl ⟨rfl, fun W hW => by go_simp⟩) hS ?_
  simp only [Act.put, List.setIfInBounds_toArray, List.set_cons_zero, List.set_cons_succ]
  refine takeH (fuel := 11) (i := 11) (v := .bool true) rfl (by kernel_rfl) (by kernel_rfl) (by kernel_rfl) (fun _ _ _ h => h) (Or.inl ⟨rfl, fun _ _ => rfl⟩) hS ?_
  simp only [Act.put, List.setIfInBounds_toArray, List.set_cons_zero, List.set_cons_succ]
  refine takeH (fuel := 10) (i := 12) (v := .iface 86 (.agg #[.int .i64 x0, .string x1, .int .i64 x2])) rfl (by kernel_rfl) (by kernel_rfl) (by kernel_rfl) (fun _ _ _ h => h) (Or.inl ⟨rfl, fun _ _ => rfl⟩) hS ?_
  simp only [Act.put, List.setIfInBounds_toArray, List.set_cons_zero, List.set_cons_succ]
  refine takeH (fuel := 9) (i := 14) (v := .pointer (some ⟨w.heap.size, 0, none⟩)) rfl (by kernel_rfl) (by kernel_rfl) (by kernel_rfl) (fun _ _ _ h => h) (Or.inl ⟨rfl, fun W hW => by go_simp⟩) hS ?_
  simp only [Act.put, List.setIfInBounds_toArray, List.set_cons_zero, List.set_cons_succ]
  refine takeH (fuel := 8) (i := 15) (v := .int .i64 7) rfl (by kernel_rfl) (by kernel_rfl) (by kernel_rfl) (fun _ _ _ h => h) (Or.inl ⟨rfl, fun W hW => by have c0 := HM0.out W hW.1; go_simp⟩) hS ?_
  simp only [Act.put, List.setIfInBounds_toArray, List.set_cons_zero, List.set_cons_succ]
  refine consH (fuel := 7) (i := 13) rfl (by kernel_rfl) (fun K hK => ?_)
  rw [if_pos (by rfl)]
  go_simp
  refine (kind7 x0 x1 x2 _).mono ?_
  rintro e w8 ⟨rfl, hb8⟩
  refine hK.out _ _ ⟨hS.1.keep hb8.out, bt hS.2 hb8.out⟩ (fun hS8 => ?_)
  clear hK
  try simp only [Act.put, List.setIfInBounds_toArray, List.set_cons_zero, List.set_cons_succ]
  refine takeH (fuel := 6) (i := 16) (v := .bool true) rfl (by kernel_rfl) (by kernel_rfl) (by kernel_rfl) (fun _ _ _ h => h) (Or.inl ⟨rfl, fun W hW => by go_simp⟩) hS8 ?_
  simp only [Act.put, List.setIfInBounds_toArray, List.set_cons_zero, List.set_cons_succ]
  refine takeH (fuel := 5) (i := 17) (v := .bool true) rfl (by kernel_rfl) (by kernel_rfl) (by kernel_rfl) (fun _ _ _ h => h) (Or.inl ⟨rfl, fun _ _ => rfl⟩) hS8 ?_
  simp only [Act.put, List.setIfInBounds_toArray, List.set_cons_zero, List.set_cons_succ]
  refine takeH (fuel := 4) (i := 18) (v := .bool true) rfl (by kernel_rfl) (by kernel_rfl) (by kernel_rfl) (fun _ _ _ h => h) (Or.inl ⟨rfl, fun _ _ => rfl⟩) hS8 ?_
  simp only [Act.put, List.setIfInBounds_toArray, List.set_cons_zero, List.set_cons_succ]
  refine takeH (fuel := 3) (i := 19) (v := .bool true) rfl (by kernel_rfl) (by kernel_rfl) (by kernel_rfl) (fun _ _ _ h => h) (Or.inl ⟨rfl, fun _ _ => rfl⟩) hS8 ?_
  simp only [Act.put, List.setIfInBounds_toArray, List.set_cons_zero, List.set_cons_succ]
  refine consH (fuel := 2) (i := 20) rfl (by kernel_rfl) (fun K hK => ?_)
  rw [if_pos (by rfl)]
  go_simp
  refine (awake _).mono ?_
  rintro e w9 ⟨rfl, hb9⟩
  refine hK.out _ _ ⟨hS8.1.keep hb9.out, bt hS8.2 hb9.out⟩ (fun hS9 => ?_)
  clear hK
  try simp only [Act.put, List.setIfInBounds_toArray, List.set_cons_zero, List.set_cons_succ]
  refine takeH (fuel := 1) (i := 21) (v := .bool true) rfl (by kernel_rfl) (by kernel_rfl) (by kernel_rfl) (fun _ _ _ h => h) (Or.inl ⟨rfl, fun _ _ => rfl⟩) hS9 ?_
  simp only [Act.put, List.setIfInBounds_toArray, List.set_cons_zero, List.set_cons_succ]
  refine takeH (fuel := 0) (i := 22) (v := .bool true) rfl (by kernel_rfl) (by kernel_rfl) (by kernel_rfl) (fun _ _ _ h => h) (Or.inl ⟨rfl, fun _ _ => rfl⟩) hS9 ?_
  simp only [Act.put, List.setIfInBounds_toArray, List.set_cons_zero, List.set_cons_succ]
  refine wpAnyH_done (by kernel_rfl) ?_ _
  have HB9 : Hid (Below w.heap.size w w9) := hS9.2
  clear hS hS8 hS9
  go_wp2_with fail
  go_ret
  exact KP.mk rfl HB9.out
set_option maxHeartbeats 8000000 in
theorem lChecks8 (M : Array Value) (hsz : M.size = 36) (x0 : Int) (x1 : Int) (x2 : Int) (x3 : Int) (x4 : Int) (x5 : Int) (x6 : Int) (x7 : Int)  (hM0 : M[0]? = some (.int .i64 8)) (w : World) (cv : Nat) (sv : Int)
    (hsm : ∀ W, Calls Tryz.prog 9 #[.agg M] W (KP (.bool true) W)) (hof : ∀ W, Calls Tryz.prog 11 #[.agg M] W (KP (.iface 63 (.agg #[.int .i64 x0, .int .i64 x1, .int .i64 x2, .int .i64 x3, .int .i64 x4, .int .i64 x5, .int .i64 x6, .int .i64 x7])) W))
    (h12 : ∀ W, Below w.heap.size w W → Calls Tryz.prog 12 #[.iface 63 (.agg #[.int .i64 x0, .int .i64 x1, .int .i64 x2, .int .i64 x3, .int .i64 x4, .int .i64 x5, .int .i64 x6, .int .i64 x7])] W (KP (.int .i64 cv) W)) (h13 : ∀ W, Below w.heap.size w W → Calls Tryz.prog 13 #[.agg M] W (KP (.int .i64 cv) W))
    (h14 : ∀ W, Calls Tryz.prog 14 #[.iface 63 (.agg #[.int .i64 x0, .int .i64 x1, .int .i64 x2, .int .i64 x3, .int .i64 x4, .int .i64 x5, .int .i64 x6, .int .i64 x7])] W (KP (.int .i64 sv) W)) (h15 : ∀ W, Calls Tryz.prog 15 #[.agg M] W (KP (.int .i64 sv) W)) : Calls Tryz.prog 3 #[.agg M] w (KP (.bool true) w) := by
  have HOF : Hid (∀ W, Calls Tryz.prog 11 #[.agg M] W (KP (.iface 63 (.agg #[.int .i64 x0, .int .i64 x1, .int .i64 x2, .int .i64 x3, .int .i64 x4, .int .i64 x5, .int .i64 x6, .int .i64 x7])) W)) := hof
  have H12 : Hid (∀ W, Below w.heap.size w W → Calls Tryz.prog 12 #[.iface 63 (.agg #[.int .i64 x0, .int .i64 x1, .int .i64 x2, .int .i64 x3, .int .i64 x4, .int .i64 x5, .int .i64 x6, .int .i64 x7])] W (KP (.int .i64 cv) W)) := h12
  have H13 : Hid (∀ W, Below w.heap.size w W → Calls Tryz.prog 13 #[.agg M] W (KP (.int .i64 cv) W)) := h13
  have H14 : Hid (∀ W, Calls Tryz.prog 14 #[.iface 63 (.agg #[.int .i64 x0, .int .i64 x1, .int .i64 x2, .int .i64 x3, .int .i64 x4, .int .i64 x5, .int .i64 x6, .int .i64 x7])] W (KP (.int .i64 sv) W)) := h14
  have H15 : Hid (∀ W, Calls Tryz.prog 15 #[.agg M] W (KP (.int .i64 sv) W)) := h15
  have HSM : Hid (∀ W, Calls Tryz.prog 9 #[.agg M] W (KP (.bool true) W)) := hsm
  have HM0 : Hid (∀ W, Bx W w.heap.size M 35 → W.cell? ⟨w.heap.size, 0, none⟩ = some (.int .i64 8)) := fun W h => (h.cell 0).trans hM0
  have HX0 : Hid (Bx (w.alloc (.cells M 35)) w.heap.size M 35) := Bx.new _ _ _
  have HB0 : Hid (Below w.heap.size w (w.alloc (.cells M 35))) := below_a w _
  have HLD : Hid (∀ W, Bx W w.heap.size M 35 → (Instr.loadAt 35 (.pointer (some ⟨w.heap.size, 0, none⟩))).run Tryz.prog W = .ok (.agg M) W) := fun W h => hloadAt W w.heap.size M hsz h
  clear hof h12 h13 h14 h15 hsm hM0
  go_enter Tryz.func3, Tryz.ntmps3
  go_upto_region 1 with fail
  generalize hw1 : w.alloc (.cells M 35) = w1 at *
  have HX : Hid (Bx w1 w.heap.size M 35) := HX0.out
  have HB : Hid (Below w.heap.size w w1) := HB0.out
  clear HX0 HB0 hw1
  go_wp2_with (guard_target =~ wpList _ _ _ (⟨_, Op.load 35 _, _, _, _, _⟩ :: _) _ _; refine wl_load _ rfl 35 _ rfl _ rfl _ (HLD.out _ HX.out) ?_; go_simp)
  refine (HSM.out _).mono ?_
  rintro e w2 ⟨rfl, hb2⟩
  have HX2 : Hid (Bx w2 w.heap.size M 35) := HX.out.keep hb2.out
  have HB2 : Hid (Below w.heap.size w w2) := bt HB.out hb2.out
  clear hb2 HX HB HSM
  go_wp2_with (guard_target =~ wpList _ _ _ (⟨_, Op.load 35 _, _, _, _, _⟩ :: _) _ _; refine wl_load _ rfl 35 _ rfl _ rfl _ (HLD.out _ HX2.out) ?_; go_simp)
  refine (HOF.out _).mono ?_
  rintro e w3 ⟨rfl, hb3⟩
  have HX3 : Hid (Bx w3 w.heap.size M 35) := HX2.out.keep hb3.out
  have HB3 : Hid (Below w.heap.size w w3) := bt HB2.out hb3.out
  clear hb3 HX2 HB2 HOF
  go_wp2_with fail
  refine wp_region_held (S := fun W => Bx W w.heap.size M 35 ∧ Below w.heap.size w W) (by kernel_rfl) ?_
  change wpAnyH _ _ _ _ _ 12 #[false, false, false, false, false, false, false, false, false, false, false, false] _ _
  have hS : Bx w3.drew w.heap.size M 35 ∧ Below w.heap.size w w3.drew := ⟨HX3.out, bdrw HB3.out 1⟩
  clear HX3 HB3
  refine takeH (fuel := 11) (i := 0) (v := .iface 63 (.agg #[.int .i64 x0, .int .i64 x1, .int .i64 x2, .int .i64 x3, .int .i64 x4, .int .i64 x5, .int .i64 x6, .int .i64 x7])) rfl (by kernel_rfl) (by kernel_rfl) (by kernel_rfl) (fun _ _ _ h => h) (Or.inl ⟨rfl, fun _ _ => rfl⟩) hS ?_
  simp only [Act.put, List.setIfInBounds_toArray, List.set_cons_zero, List.set_cons_succ]
  refine takeH (fuel := 10) (i := 2) (v := .agg M) rfl (by kernel_rfl) (by kernel_rfl) (by kernel_rfl) (fun _ _ _ h => h) (Or.inl ⟨rfl, fun W hW => ex_load _ _ _ _ rfl _ _ rfl (HLD.out W hW.1)⟩) hS ?_
  simp only [Act.put, List.setIfInBounds_toArray, List.set_cons_zero, List.set_cons_succ]
  refine consH (fuel := 9) (i := 1) rfl (by kernel_rfl) (fun K hK => ?_)
  rw [if_pos (by rfl)]
  go_simp
  refine (H12.out _ hS.2).mono ?_
  rintro e w4 ⟨rfl, hb4⟩
  refine hK.out _ _ ⟨hS.1.keep hb4.out, bt hS.2 hb4.out⟩ (fun hS4 => ?_)
  clear hK
  try simp only [Act.put, List.setIfInBounds_toArray, List.set_cons_zero, List.set_cons_succ]
  refine consH (fuel := 8) (i := 3) rfl (by kernel_rfl) (fun K hK => ?_)
  rw [if_pos (by rfl)]
  go_simp
  refine (H13.out _ hS4.2).mono ?_
  rintro e w5 ⟨rfl, hb5⟩
  refine hK.out _ _ ⟨hS4.1.keep hb5.out, bt hS4.2 hb5.out⟩ (fun hS5 => ?_)
  clear hK
  try simp only [Act.put, List.setIfInBounds_toArray, List.set_cons_zero, List.set_cons_succ]
  refine takeH (fuel := 7) (i := 4) (v := .bool false) rfl (by kernel_rfl) (by kernel_rfl) (by kernel_rfl) (fun _ _ _ h => h) (Or.inl ⟨rfl, fun W hW => by go_simp⟩) hS5 ?_
  simp only [Act.put, List.setIfInBounds_toArray, List.set_cons_zero, List.set_cons_succ]
  refine takeH (fuel := 6) (i := 5) (v := .bool false) rfl (by kernel_rfl) (by kernel_rfl) (by kernel_rfl) (fun _ _ _ h => h) (Or.inl ⟨rfl, fun _ _ => rfl⟩) hS5 ?_
  simp only [Act.put, List.setIfInBounds_toArray, List.set_cons_zero, List.set_cons_succ]
  refine takeH (fuel := 5) (i := 6) (v := .iface 63 (.agg #[.int .i64 x0, .int .i64 x1, .int .i64 x2, .int .i64 x3, .int .i64 x4, .int .i64 x5, .int .i64 x6, .int .i64 x7])) rfl (by kernel_rfl) (by kernel_rfl) (by kernel_rfl) (fun _ _ _ h => h) (Or.inl ⟨rfl, fun _ _ => rfl⟩) hS5 ?_
  simp only [Act.put, List.setIfInBounds_toArray, List.set_cons_zero, List.set_cons_succ]
  refine takeH (fuel := 4) (i := 8) (v := .agg M) rfl (by kernel_rfl) (by kernel_rfl) (by kernel_rfl) (fun _ _ _ h => h) (Or.inl ⟨rfl, fun W hW => ex_load _ _ _ _ rfl _ _ rfl (HLD.out W hW.1)⟩) hS5 ?_
  simp only [Act.put, List.setIfInBounds_toArray, List.set_cons_zero, List.set_cons_succ]
  refine consH (fuel := 3) (i := 7) rfl (by kernel_rfl) (fun K hK => ?_)
  rw [if_pos (by rfl)]
  go_simp
  refine (H14.out _).mono ?_
  rintro e w6 ⟨rfl, hb6⟩
  refine hK.out _ _ ⟨hS5.1.keep hb6.out, bt hS5.2 hb6.out⟩ (fun hS6 => ?_)
  clear hK
  try simp only [Act.put, List.setIfInBounds_toArray, List.set_cons_zero, List.set_cons_succ]
  refine consH (fuel := 2) (i := 9) rfl (by kernel_rfl) (fun K hK => ?_)
  rw [if_pos (by rfl)]
  go_simp
  refine (H15.out _).mono ?_
  rintro e w7 ⟨rfl, hb7⟩
  refine hK.out _ _ ⟨hS6.1.keep hb7.out, bt hS6.2 hb7.out⟩ (fun hS7 => ?_)
  clear hK
  try simp only [Act.put, List.setIfInBounds_toArray, List.set_cons_zero, List.set_cons_succ]
  refine takeH (fuel := 1) (i := 10) (v := .bool false) rfl (by kernel_rfl) (by kernel_rfl) (by kernel_rfl) (fun _ _ _ h => h) (Or.inl ⟨rfl, fun W hW => by go_simp⟩) hS7 ?_
  simp only [Act.put, List.setIfInBounds_toArray, List.set_cons_zero, List.set_cons_succ]
  refine takeH (fuel := 0) (i := 11) (v := .bool false) rfl (by kernel_rfl) (by kernel_rfl) (by kernel_rfl) (fun _ _ _ h => h) (Or.inl ⟨rfl, fun _ _ => rfl⟩) hS7 ?_
  simp only [Act.put, List.setIfInBounds_toArray, List.set_cons_zero, List.set_cons_succ]
  refine wpAnyH_done (by kernel_rfl) ?_ _
  have HX7 : Hid (Bx w7 w.heap.size M 35) := hS7.1
  have HB7 : Hid (Below w.heap.size w w7) := hS7.2
  clear hS hS4 hS5 hS6 hS7 hb4 hb5 hb6 hb7 H12 H13 H14 H15
  go_wp2_with fail
  refine wp_region_held (S := fun W => Bx W w.heap.size M 35 ∧ Below w.heap.size w W) (by kernel_rfl) ?_
  change wpAnyH _ _ _ _ _ 23 #[false, false, false, false, false, false, false, false, false, false, false, false, false, false, false, false, false, false, false, false, false, false, false] _ _
  have hS : Bx w7.drew w.heap.size M 35 ∧ Below w.heap.size w w7.drew := ⟨HX7.out, bdrw HB7.out 1⟩
  clear HX7 HB7
  refine takeH (fuel := 22) (i := 0) (v := .pointer (some ⟨w.heap.size, 0, none⟩)) rfl (by kernel_rfl) (by kernel_rfl) (by kernel_rfl) (fun _ _ _ h => h) (Or.inl ⟨rfl, fun W hW => by go_simp⟩) hS ?_
  simp only [Act.put, List.setIfInBounds_toArray, List.set_cons_zero, List.set_cons_succ]
  refine takeH (fuel := 21) (i := 1) (v := .int .i64 8) rfl (by kernel_rfl) (by kernel_rfl) (by kernel_rfl) (fun _ _ _ h => h) (Or.inl ⟨rfl, fun W hW => by have c0 := HM0.out W hW.1; go_simp⟩) hS ?_
  simp only [Act.put, List.setIfInBounds_toArray, List.set_cons_zero, List.set_cons_succ]
  refine takeH (fuel := 20) (i := 2) (v := .bool false) rfl (by kernel_rfl) (by kernel_rfl) (by kernel_rfl) (fun _ _ _ h => h) (Or.inl ⟨rfl, fun W hW => by go_simp⟩) hS ?_
  simp only [Act.put, List.setIfInBounds_toArray, List.set_cons_zero, List.set_cons_succ]
  refine takeH (fuel := 19) (i := 3) (v := .bool false) rfl (by kernel_rfl) (by kernel_rfl) (by kernel_rfl) (fun _ _ _ h => h) (Or.inl ⟨rfl, fun _ _ => rfl⟩) hS ?_
  simp only [Act.put, List.setIfInBounds_toArray, List.set_cons_zero, List.set_cons_succ]
  refine takeH (fuel := 18) (i := 4) (v := .pointer (some ⟨w.heap.size, 0, none⟩)) rfl (by kernel_rfl) (by kernel_rfl) (by kernel_rfl) (fun _ _ _ h => h) (Or.inl ⟨rfl, fun W hW => by go_simp⟩) hS ?_
  simp only [Act.put, List.setIfInBounds_toArray, List.set_cons_zero, List.set_cons_succ]
  refine takeH (fuel := 17) (i := 5) (v := .int .i64 8) rfl (by kernel_rfl) (by kernel_rfl) (by kernel_rfl) (fun _ _ _ h => h) (Or.inl ⟨rfl, fun W hW => by have c0 := HM0.out W hW.1; go_simp⟩) hS ?_
  simp only [Act.put, List.setIfInBounds_toArray, List.set_cons_zero, List.set_cons_succ]
  refine takeH (fuel := 16) (i := 6) (v := .bool false) rfl (by kernel_rfl) (by kernel_rfl) (by kernel_rfl) (fun _ _ _ h => h) (Or.inl ⟨rfl, fun W hW => by go_simp⟩) hS ?_
  simp only [Act.put, List.setIfInBounds_toArray, List.set_cons_zero, List.set_cons_succ]
  refine takeH (fuel := 15) (i := 7) (v := .bool false) rfl (by kernel_rfl) (by kernel_rfl) (by kernel_rfl) (fun _ _ _ h => h) (Or.inl ⟨rfl, fun _ _ => rfl⟩) hS ?_
  simp only [Act.put, List.setIfInBounds_toArray, List.set_cons_zero, List.set_cons_succ]
  refine takeH (fuel := 14) (i := 8) (v := .bool false) rfl (by kernel_rfl) (by kernel_rfl) (by kernel_rfl) (fun _ _ _ h => h) (Or.inl ⟨rfl, fun _ _ => rfl⟩) hS ?_
  simp only [Act.put, List.setIfInBounds_toArray, List.set_cons_zero, List.set_cons_succ]
  refine takeH (fuel := 13) (i := 9) (v := .iface 63 (.agg #[.int .i64 x0, .int .i64 x1, .int .i64 x2, .int .i64 x3, .int .i64 x4, .int .i64 x5, .int .i64 x6, .int .i64 x7])) rfl (by kernel_rfl) (by kernel_rfl) (by kernel_rfl) (fun _ _ _ h => h) (Or.inl ⟨rfl, fun _ _ => rfl⟩) hS ?_
  simp only [Act.put, List.setIfInBounds_toArray, List.set_cons_zero, List.set_cons_succ]
  refine takeH (fuel := 12) (i := 10) (v := .bool true) rfl (by kernel_rfl) (by kernel_rfl) (by kernel_rfl) (fun _ _ _ h => h) (Or.inl ⟨rfl, fun W hW => by go_simp⟩) hS ?_
  simp only [Act.put, List.setIfInBounds_toArray, List.set_cons_zero, List.set_cons_succ]
  refine takeH (fuel := 11) (i := 11) (v := .bool true) rfl (by kernel_rfl) (by kernel_rfl) (by kernel_rfl) (fun _ _ _ h => h) (Or.inl ⟨rfl, fun _ _ => rfl⟩) hS ?_
  simp only [Act.put, List.setIfInBounds_toArray, List.set_cons_zero, List.set_cons_succ]
  refine takeH (fuel := 10) (i := 12) (v := .iface 63 (.agg #[.int .i64 x0, .int .i64 x1, .int .i64 x2, .int .i64 x3, .int .i64 x4, .int .i64 x5, .int .i64 x6, .int .i64 x7])) rfl (by kernel_rfl) (by kernel_rfl) (by kernel_rfl) (fun _ _ _ h => h) (Or.inl ⟨rfl, fun _ _ => rfl⟩) hS ?_
  simp only [Act.put, List.setIfInBounds_toArray, List.set_cons_zero, List.set_cons_succ]
  refine takeH (fuel := 9) (i := 14) (v := .pointer (some ⟨w.heap.size, 0, none⟩)) rfl (by kernel_rfl) (by kernel_rfl) (by kernel_rfl) (fun _ _ _ h => h) (Or.inl ⟨rfl, fun W hW => by go_simp⟩) hS ?_
  simp only [Act.put, List.setIfInBounds_toArray, List.set_cons_zero, List.set_cons_succ]
  refine takeH (fuel := 8) (i := 15) (v := .int .i64 8) rfl (by kernel_rfl) (by kernel_rfl) (by kernel_rfl) (fun _ _ _ h => h) (Or.inl ⟨rfl, fun W hW => by have c0 := HM0.out W hW.1; go_simp⟩) hS ?_
  simp only [Act.put, List.setIfInBounds_toArray, List.set_cons_zero, List.set_cons_succ]
  refine consH (fuel := 7) (i := 13) rfl (by kernel_rfl) (fun K hK => ?_)
  rw [if_pos (by rfl)]
  go_simp
  refine (kind8 x0 x1 x2 x3 x4 x5 x6 x7 _).mono ?_
  rintro e w8 ⟨rfl, hb8⟩
  refine hK.out _ _ ⟨hS.1.keep hb8.out, bt hS.2 hb8.out⟩ (fun hS8 => ?_)
  clear hK
  try simp only [Act.put, List.setIfInBounds_toArray, List.set_cons_zero, List.set_cons_succ]
  refine takeH (fuel := 6) (i := 16) (v := .bool true) rfl (by kernel_rfl) (by kernel_rfl) (by kernel_rfl) (fun _ _ _ h => h) (Or.inl ⟨rfl, fun W hW => by go_simp⟩) hS8 ?_
  simp only [Act.put, List.setIfInBounds_toArray, List.set_cons_zero, List.set_cons_succ]
  refine takeH (fuel := 5) (i := 17) (v := .bool true) rfl (by kernel_rfl) (by kernel_rfl) (by kernel_rfl) (fun _ _ _ h => h) (Or.inl ⟨rfl, fun _ _ => rfl⟩) hS8 ?_
  simp only [Act.put, List.setIfInBounds_toArray, List.set_cons_zero, List.set_cons_succ]
  refine takeH (fuel := 4) (i := 18) (v := .bool true) rfl (by kernel_rfl) (by kernel_rfl) (by kernel_rfl) (fun _ _ _ h => h) (Or.inl ⟨rfl, fun _ _ => rfl⟩) hS8 ?_
  simp only [Act.put, List.setIfInBounds_toArray, List.set_cons_zero, List.set_cons_succ]
  refine takeH (fuel := 3) (i := 19) (v := .bool true) rfl (by kernel_rfl) (by kernel_rfl) (by kernel_rfl) (fun _ _ _ h => h) (Or.inl ⟨rfl, fun _ _ => rfl⟩) hS8 ?_
  simp only [Act.put, List.setIfInBounds_toArray, List.set_cons_zero, List.set_cons_succ]
  refine consH (fuel := 2) (i := 20) rfl (by kernel_rfl) (fun K hK => ?_)
  rw [if_pos (by rfl)]
  go_simp
  refine (awake _).mono ?_
  rintro e w9 ⟨rfl, hb9⟩
  refine hK.out _ _ ⟨hS8.1.keep hb9.out, bt hS8.2 hb9.out⟩ (fun hS9 => ?_)
  clear hK
  try simp only [Act.put, List.setIfInBounds_toArray, List.set_cons_zero, List.set_cons_succ]
  refine takeH (fuel := 1) (i := 21) (v := .bool true) rfl (by kernel_rfl) (by kernel_rfl) (by kernel_rfl) (fun _ _ _ h => h) (Or.inl ⟨rfl, fun _ _ => rfl⟩) hS9 ?_
  simp only [Act.put, List.setIfInBounds_toArray, List.set_cons_zero, List.set_cons_succ]
  refine takeH (fuel := 0) (i := 22) (v := .bool true) rfl (by kernel_rfl) (by kernel_rfl) (by kernel_rfl) (fun _ _ _ h => h) (Or.inl ⟨rfl, fun _ _ => rfl⟩) hS9 ?_
  simp only [Act.put, List.setIfInBounds_toArray, List.set_cons_zero, List.set_cons_succ]
  refine wpAnyH_done (by kernel_rfl) ?_ _
  have HB9 : Hid (Below w.heap.size w w9) := hS9.2
  clear hS hS8 hS9
  go_wp2_with fail
  go_ret
  exact KP.mk rfl HB9.out
set_option maxHeartbeats 8000000 in
theorem lChecks9 (M : Array Value) (hsz : M.size = 36) (x0 : Int) (x1 : Int)  (hM0 : M[0]? = some (.int .i64 9)) (w : World) (cv : Nat) (sv : Int)
    (hsm : ∀ W, Calls Tryz.prog 9 #[.agg M] W (KP (.bool true) W)) (hof : ∀ W, Calls Tryz.prog 11 #[.agg M] W (KP (.iface 88 (.agg #[.int .i64 x0, .int .i64 x1])) W))
    (h12 : ∀ W, Below w.heap.size w W → Calls Tryz.prog 12 #[.iface 88 (.agg #[.int .i64 x0, .int .i64 x1])] W (KP (.int .i64 cv) W)) (h13 : ∀ W, Below w.heap.size w W → Calls Tryz.prog 13 #[.agg M] W (KP (.int .i64 cv) W))
    (h14 : ∀ W, Calls Tryz.prog 14 #[.iface 88 (.agg #[.int .i64 x0, .int .i64 x1])] W (KP (.int .i64 sv) W)) (h15 : ∀ W, Calls Tryz.prog 15 #[.agg M] W (KP (.int .i64 sv) W)) : Calls Tryz.prog 3 #[.agg M] w (KP (.bool true) w) := by
  have HOF : Hid (∀ W, Calls Tryz.prog 11 #[.agg M] W (KP (.iface 88 (.agg #[.int .i64 x0, .int .i64 x1])) W)) := hof
  have H12 : Hid (∀ W, Below w.heap.size w W → Calls Tryz.prog 12 #[.iface 88 (.agg #[.int .i64 x0, .int .i64 x1])] W (KP (.int .i64 cv) W)) := h12
  have H13 : Hid (∀ W, Below w.heap.size w W → Calls Tryz.prog 13 #[.agg M] W (KP (.int .i64 cv) W)) := h13
  have H14 : Hid (∀ W, Calls Tryz.prog 14 #[.iface 88 (.agg #[.int .i64 x0, .int .i64 x1])] W (KP (.int .i64 sv) W)) := h14
  have H15 : Hid (∀ W, Calls Tryz.prog 15 #[.agg M] W (KP (.int .i64 sv) W)) := h15
  have HSM : Hid (∀ W, Calls Tryz.prog 9 #[.agg M] W (KP (.bool true) W)) := hsm
  have HM0 : Hid (∀ W, Bx W w.heap.size M 35 → W.cell? ⟨w.heap.size, 0, none⟩ = some (.int .i64 9)) := fun W h => (h.cell 0).trans hM0
  have HX0 : Hid (Bx (w.alloc (.cells M 35)) w.heap.size M 35) := Bx.new _ _ _
  have HB0 : Hid (Below w.heap.size w (w.alloc (.cells M 35))) := below_a w _
  have HLD : Hid (∀ W, Bx W w.heap.size M 35 → (Instr.loadAt 35 (.pointer (some ⟨w.heap.size, 0, none⟩))).run Tryz.prog W = .ok (.agg M) W) := fun W h => hloadAt W w.heap.size M hsz h
  clear hof h12 h13 h14 h15 hsm hM0
  go_enter Tryz.func3, Tryz.ntmps3
  go_upto_region 1 with fail
  generalize hw1 : w.alloc (.cells M 35) = w1 at *
  have HX : Hid (Bx w1 w.heap.size M 35) := HX0.out
  have HB : Hid (Below w.heap.size w w1) := HB0.out
  clear HX0 HB0 hw1
  go_wp2_with (guard_target =~ wpList _ _ _ (⟨_, Op.load 35 _, _, _, _, _⟩ :: _) _ _; refine wl_load _ rfl 35 _ rfl _ rfl _ (HLD.out _ HX.out) ?_; go_simp)
  refine (HSM.out _).mono ?_
  rintro e w2 ⟨rfl, hb2⟩
  have HX2 : Hid (Bx w2 w.heap.size M 35) := HX.out.keep hb2.out
  have HB2 : Hid (Below w.heap.size w w2) := bt HB.out hb2.out
  clear hb2 HX HB HSM
  go_wp2_with (guard_target =~ wpList _ _ _ (⟨_, Op.load 35 _, _, _, _, _⟩ :: _) _ _; refine wl_load _ rfl 35 _ rfl _ rfl _ (HLD.out _ HX2.out) ?_; go_simp)
  refine (HOF.out _).mono ?_
  rintro e w3 ⟨rfl, hb3⟩
  have HX3 : Hid (Bx w3 w.heap.size M 35) := HX2.out.keep hb3.out
  have HB3 : Hid (Below w.heap.size w w3) := bt HB2.out hb3.out
  clear hb3 HX2 HB2 HOF
  go_wp2_with fail
  refine wp_region_held (S := fun W => Bx W w.heap.size M 35 ∧ Below w.heap.size w W) (by kernel_rfl) ?_
  change wpAnyH _ _ _ _ _ 12 #[false, false, false, false, false, false, false, false, false, false, false, false] _ _
  have hS : Bx w3.drew w.heap.size M 35 ∧ Below w.heap.size w w3.drew := ⟨HX3.out, bdrw HB3.out 1⟩
  clear HX3 HB3
  refine takeH (fuel := 11) (i := 0) (v := .iface 88 (.agg #[.int .i64 x0, .int .i64 x1])) rfl (by kernel_rfl) (by kernel_rfl) (by kernel_rfl) (fun _ _ _ h => h) (Or.inl ⟨rfl, fun _ _ => rfl⟩) hS ?_
  simp only [Act.put, List.setIfInBounds_toArray, List.set_cons_zero, List.set_cons_succ]
  refine takeH (fuel := 10) (i := 2) (v := .agg M) rfl (by kernel_rfl) (by kernel_rfl) (by kernel_rfl) (fun _ _ _ h => h) (Or.inl ⟨rfl, fun W hW => ex_load _ _ _ _ rfl _ _ rfl (HLD.out W hW.1)⟩) hS ?_
  simp only [Act.put, List.setIfInBounds_toArray, List.set_cons_zero, List.set_cons_succ]
  refine consH (fuel := 9) (i := 1) rfl (by kernel_rfl) (fun K hK => ?_)
  rw [if_pos (by rfl)]
  go_simp
  refine (H12.out _ hS.2).mono ?_
  rintro e w4 ⟨rfl, hb4⟩
  refine hK.out _ _ ⟨hS.1.keep hb4.out, bt hS.2 hb4.out⟩ (fun hS4 => ?_)
  clear hK
  try simp only [Act.put, List.setIfInBounds_toArray, List.set_cons_zero, List.set_cons_succ]
  refine consH (fuel := 8) (i := 3) rfl (by kernel_rfl) (fun K hK => ?_)
  rw [if_pos (by rfl)]
  go_simp
  refine (H13.out _ hS4.2).mono ?_
  rintro e w5 ⟨rfl, hb5⟩
  refine hK.out _ _ ⟨hS4.1.keep hb5.out, bt hS4.2 hb5.out⟩ (fun hS5 => ?_)
  clear hK
  try simp only [Act.put, List.setIfInBounds_toArray, List.set_cons_zero, List.set_cons_succ]
  refine takeH (fuel := 7) (i := 4) (v := .bool false) rfl (by kernel_rfl) (by kernel_rfl) (by kernel_rfl) (fun _ _ _ h => h) (Or.inl ⟨rfl, fun W hW => by go_simp⟩) hS5 ?_
  simp only [Act.put, List.setIfInBounds_toArray, List.set_cons_zero, List.set_cons_succ]
  refine takeH (fuel := 6) (i := 5) (v := .bool false) rfl (by kernel_rfl) (by kernel_rfl) (by kernel_rfl) (fun _ _ _ h => h) (Or.inl ⟨rfl, fun _ _ => rfl⟩) hS5 ?_
  simp only [Act.put, List.setIfInBounds_toArray, List.set_cons_zero, List.set_cons_succ]
  refine takeH (fuel := 5) (i := 6) (v := .iface 88 (.agg #[.int .i64 x0, .int .i64 x1])) rfl (by kernel_rfl) (by kernel_rfl) (by kernel_rfl) (fun _ _ _ h => h) (Or.inl ⟨rfl, fun _ _ => rfl⟩) hS5 ?_
  simp only [Act.put, List.setIfInBounds_toArray, List.set_cons_zero, List.set_cons_succ]
  refine takeH (fuel := 4) (i := 8) (v := .agg M) rfl (by kernel_rfl) (by kernel_rfl) (by kernel_rfl) (fun _ _ _ h => h) (Or.inl ⟨rfl, fun W hW => ex_load _ _ _ _ rfl _ _ rfl (HLD.out W hW.1)⟩) hS5 ?_
  simp only [Act.put, List.setIfInBounds_toArray, List.set_cons_zero, List.set_cons_succ]
  refine consH (fuel := 3) (i := 7) rfl (by kernel_rfl) (fun K hK => ?_)
  rw [if_pos (by rfl)]
  go_simp
  refine (H14.out _).mono ?_
  rintro e w6 ⟨rfl, hb6⟩
  refine hK.out _ _ ⟨hS5.1.keep hb6.out, bt hS5.2 hb6.out⟩ (fun hS6 => ?_)
  clear hK
  try simp only [Act.put, List.setIfInBounds_toArray, List.set_cons_zero, List.set_cons_succ]
  refine consH (fuel := 2) (i := 9) rfl (by kernel_rfl) (fun K hK => ?_)
  rw [if_pos (by rfl)]
  go_simp
  refine (H15.out _).mono ?_
  rintro e w7 ⟨rfl, hb7⟩
  refine hK.out _ _ ⟨hS6.1.keep hb7.out, bt hS6.2 hb7.out⟩ (fun hS7 => ?_)
  clear hK
  try simp only [Act.put, List.setIfInBounds_toArray, List.set_cons_zero, List.set_cons_succ]
  refine takeH (fuel := 1) (i := 10) (v := .bool false) rfl (by kernel_rfl) (by kernel_rfl) (by kernel_rfl) (fun _ _ _ h => h) (Or.inl ⟨rfl, fun W hW => by go_simp⟩) hS7 ?_
  simp only [Act.put, List.setIfInBounds_toArray, List.set_cons_zero, List.set_cons_succ]
  refine takeH (fuel := 0) (i := 11) (v := .bool false) rfl (by kernel_rfl) (by kernel_rfl) (by kernel_rfl) (fun _ _ _ h => h) (Or.inl ⟨rfl, fun _ _ => rfl⟩) hS7 ?_
  simp only [Act.put, List.setIfInBounds_toArray, List.set_cons_zero, List.set_cons_succ]
  refine wpAnyH_done (by kernel_rfl) ?_ _
  have HX7 : Hid (Bx w7 w.heap.size M 35) := hS7.1
  have HB7 : Hid (Below w.heap.size w w7) := hS7.2
  clear hS hS4 hS5 hS6 hS7 hb4 hb5 hb6 hb7 H12 H13 H14 H15
  go_wp2_with fail
  refine wp_region_held (S := fun W => Bx W w.heap.size M 35 ∧ Below w.heap.size w W) (by kernel_rfl) ?_
  change wpAnyH _ _ _ _ _ 23 #[false, false, false, false, false, false, false, false, false, false, false, false, false, false, false, false, false, false, false, false, false, false, false] _ _
  have hS : Bx w7.drew w.heap.size M 35 ∧ Below w.heap.size w w7.drew := ⟨HX7.out, bdrw HB7.out 1⟩
  clear HX7 HB7
  refine takeH (fuel := 22) (i := 0) (v := .pointer (some ⟨w.heap.size, 0, none⟩)) rfl (by kernel_rfl) (by kernel_rfl) (by kernel_rfl) (fun _ _ _ h => h) (Or.inl ⟨rfl, fun W hW => by go_simp⟩) hS ?_
  simp only [Act.put, List.setIfInBounds_toArray, List.set_cons_zero, List.set_cons_succ]
  refine takeH (fuel := 21) (i := 1) (v := .int .i64 9) rfl (by kernel_rfl) (by kernel_rfl) (by kernel_rfl) (fun _ _ _ h => h) (Or.inl ⟨rfl, fun W hW => by have c0 := HM0.out W hW.1; go_simp⟩) hS ?_
  simp only [Act.put, List.setIfInBounds_toArray, List.set_cons_zero, List.set_cons_succ]
  refine takeH (fuel := 20) (i := 2) (v := .bool false) rfl (by kernel_rfl) (by kernel_rfl) (by kernel_rfl) (fun _ _ _ h => h) (Or.inl ⟨rfl, fun W hW => by go_simp⟩) hS ?_
  simp only [Act.put, List.setIfInBounds_toArray, List.set_cons_zero, List.set_cons_succ]
  refine takeH (fuel := 19) (i := 3) (v := .bool false) rfl (by kernel_rfl) (by kernel_rfl) (by kernel_rfl) (fun _ _ _ h => h) (Or.inl ⟨rfl, fun _ _ => rfl⟩) hS ?_
  simp only [Act.put, List.setIfInBounds_toArray, List.set_cons_zero, List.set_cons_succ]
  refine takeH (fuel := 18) (i := 4) (v := .pointer (some ⟨w.heap.size, 0, none⟩)) rfl (by kernel_rfl) (by kernel_rfl) (by kernel_rfl) (fun _ _ _ h => h) (Or.inl ⟨rfl, fun W hW => by go_simp⟩) hS ?_
  simp only [Act.put, List.setIfInBounds_toArray, List.set_cons_zero, List.set_cons_succ]
  refine takeH (fuel := 17) (i := 5) (v := .int .i64 9) rfl (by kernel_rfl) (by kernel_rfl) (by kernel_rfl) (fun _ _ _ h => h) (Or.inl ⟨rfl, fun W hW => by have c0 := HM0.out W hW.1; go_simp⟩) hS ?_
  simp only [Act.put, List.setIfInBounds_toArray, List.set_cons_zero, List.set_cons_succ]
  refine takeH (fuel := 16) (i := 6) (v := .bool false) rfl (by kernel_rfl) (by kernel_rfl) (by kernel_rfl) (fun _ _ _ h => h) (Or.inl ⟨rfl, fun W hW => by go_simp⟩) hS ?_
  simp only [Act.put, List.setIfInBounds_toArray, List.set_cons_zero, List.set_cons_succ]
  refine takeH (fuel := 15) (i := 7) (v := .bool false) rfl (by kernel_rfl) (by kernel_rfl) (by kernel_rfl) (fun _ _ _ h => h) (Or.inl ⟨rfl, fun _ _ => rfl⟩) hS ?_
  simp only [Act.put, List.setIfInBounds_toArray, List.set_cons_zero, List.set_cons_succ]
  refine takeH (fuel := 14) (i := 8) (v := .bool false) rfl (by kernel_rfl) (by kernel_rfl) (by kernel_rfl) (fun _ _ _ h => h) (Or.inl ⟨rfl, fun _ _ => rfl⟩) hS ?_
  simp only [Act.put, List.setIfInBounds_toArray, List.set_cons_zero, List.set_cons_succ]
  refine takeH (fuel := 13) (i := 9) (v := .iface 88 (.agg #[.int .i64 x0, .int .i64 x1])) rfl (by kernel_rfl) (by kernel_rfl) (by kernel_rfl) (fun _ _ _ h => h) (Or.inl ⟨rfl, fun _ _ => rfl⟩) hS ?_
  simp only [Act.put, List.setIfInBounds_toArray, List.set_cons_zero, List.set_cons_succ]
  refine takeH (fuel := 12) (i := 10) (v := .bool true) rfl (by kernel_rfl) (by kernel_rfl) (by kernel_rfl) (fun _ _ _ h => h) (Or.inl ⟨rfl, fun W hW => by go_simp⟩) hS ?_
  simp only [Act.put, List.setIfInBounds_toArray, List.set_cons_zero, List.set_cons_succ]
  refine takeH (fuel := 11) (i := 11) (v := .bool true) rfl (by kernel_rfl) (by kernel_rfl) (by kernel_rfl) (fun _ _ _ h => h) (Or.inl ⟨rfl, fun _ _ => rfl⟩) hS ?_
  simp only [Act.put, List.setIfInBounds_toArray, List.set_cons_zero, List.set_cons_succ]
  refine takeH (fuel := 10) (i := 12) (v := .iface 88 (.agg #[.int .i64 x0, .int .i64 x1])) rfl (by kernel_rfl) (by kernel_rfl) (by kernel_rfl) (fun _ _ _ h => h) (Or.inl ⟨rfl, fun _ _ => rfl⟩) hS ?_
  simp only [Act.put, List.setIfInBounds_toArray, List.set_cons_zero, List.set_cons_succ]
  refine takeH (fuel := 9) (i := 14) (v := .pointer (some ⟨w.heap.size, 0, none⟩)) rfl (by kernel_rfl) (by kernel_rfl) (by kernel_rfl) (fun _ _ _ h => h) (Or.inl ⟨rfl, fun W hW => by go_simp⟩) hS ?_
  simp only [Act.put, List.setIfInBounds_toArray, List.set_cons_zero, List.set_cons_succ]
  refine takeH (fuel := 8) (i := 15) (v := .int .i64 9) rfl (by kernel_rfl) (by kernel_rfl) (by kernel_rfl) (fun _ _ _ h => h) (Or.inl ⟨rfl, fun W hW => by have c0 := HM0.out W hW.1; go_simp⟩) hS ?_
  simp only [Act.put, List.setIfInBounds_toArray, List.set_cons_zero, List.set_cons_succ]
  refine consH (fuel := 7) (i := 13) rfl (by kernel_rfl) (fun K hK => ?_)
  rw [if_pos (by rfl)]
  go_simp
  refine (kind9 x0 x1 _).mono ?_
  rintro e w8 ⟨rfl, hb8⟩
  refine hK.out _ _ ⟨hS.1.keep hb8.out, bt hS.2 hb8.out⟩ (fun hS8 => ?_)
  clear hK
  try simp only [Act.put, List.setIfInBounds_toArray, List.set_cons_zero, List.set_cons_succ]
  refine takeH (fuel := 6) (i := 16) (v := .bool true) rfl (by kernel_rfl) (by kernel_rfl) (by kernel_rfl) (fun _ _ _ h => h) (Or.inl ⟨rfl, fun W hW => by go_simp⟩) hS8 ?_
  simp only [Act.put, List.setIfInBounds_toArray, List.set_cons_zero, List.set_cons_succ]
  refine takeH (fuel := 5) (i := 17) (v := .bool true) rfl (by kernel_rfl) (by kernel_rfl) (by kernel_rfl) (fun _ _ _ h => h) (Or.inl ⟨rfl, fun _ _ => rfl⟩) hS8 ?_
  simp only [Act.put, List.setIfInBounds_toArray, List.set_cons_zero, List.set_cons_succ]
  refine takeH (fuel := 4) (i := 18) (v := .bool true) rfl (by kernel_rfl) (by kernel_rfl) (by kernel_rfl) (fun _ _ _ h => h) (Or.inl ⟨rfl, fun _ _ => rfl⟩) hS8 ?_
  simp only [Act.put, List.setIfInBounds_toArray, List.set_cons_zero, List.set_cons_succ]
  refine takeH (fuel := 3) (i := 19) (v := .bool true) rfl (by kernel_rfl) (by kernel_rfl) (by kernel_rfl) (fun _ _ _ h => h) (Or.inl ⟨rfl, fun _ _ => rfl⟩) hS8 ?_
  simp only [Act.put, List.setIfInBounds_toArray, List.set_cons_zero, List.set_cons_succ]
  refine consH (fuel := 2) (i := 20) rfl (by kernel_rfl) (fun K hK => ?_)
  rw [if_pos (by rfl)]
  go_simp
  refine (awake _).mono ?_
  rintro e w9 ⟨rfl, hb9⟩
  refine hK.out _ _ ⟨hS8.1.keep hb9.out, bt hS8.2 hb9.out⟩ (fun hS9 => ?_)
  clear hK
  try simp only [Act.put, List.setIfInBounds_toArray, List.set_cons_zero, List.set_cons_succ]
  refine takeH (fuel := 1) (i := 21) (v := .bool true) rfl (by kernel_rfl) (by kernel_rfl) (by kernel_rfl) (fun _ _ _ h => h) (Or.inl ⟨rfl, fun _ _ => rfl⟩) hS9 ?_
  simp only [Act.put, List.setIfInBounds_toArray, List.set_cons_zero, List.set_cons_succ]
  refine takeH (fuel := 0) (i := 22) (v := .bool true) rfl (by kernel_rfl) (by kernel_rfl) (by kernel_rfl) (fun _ _ _ h => h) (Or.inl ⟨rfl, fun _ _ => rfl⟩) hS9 ?_
  simp only [Act.put, List.setIfInBounds_toArray, List.set_cons_zero, List.set_cons_succ]
  refine wpAnyH_done (by kernel_rfl) ?_ _
  have HB9 : Hid (Below w.heap.size w w9) := hS9.2
  clear hS hS8 hS9
  go_wp2_with fail
  go_ret
  exact KP.mk rfl HB9.out
set_option maxHeartbeats 8000000 in
theorem lChecks10 (M : Array Value) (hsz : M.size = 36) (x0 : Int) (x1 : Int) (x2 : Int)  (hM0 : M[0]? = some (.int .i64 10)) (w : World) (cv : Nat) (sv : Int)
    (hsm : ∀ W, Calls Tryz.prog 9 #[.agg M] W (KP (.bool true) W)) (hof : ∀ W, Calls Tryz.prog 11 #[.agg M] W (KP (.iface 90 (.agg #[.int .i64 x0, .int .i64 x1, .int .i64 x2])) W))
    (h12 : ∀ W, Below w.heap.size w W → Calls Tryz.prog 12 #[.iface 90 (.agg #[.int .i64 x0, .int .i64 x1, .int .i64 x2])] W (KP (.int .i64 cv) W)) (h13 : ∀ W, Below w.heap.size w W → Calls Tryz.prog 13 #[.agg M] W (KP (.int .i64 cv) W))
    (h14 : ∀ W, Calls Tryz.prog 14 #[.iface 90 (.agg #[.int .i64 x0, .int .i64 x1, .int .i64 x2])] W (KP (.int .i64 sv) W)) (h15 : ∀ W, Calls Tryz.prog 15 #[.agg M] W (KP (.int .i64 sv) W)) : Calls Tryz.prog 3 #[.agg M] w (KP (.bool true) w) := by
  have HOF : Hid (∀ W, Calls Tryz.prog 11 #[.agg M] W (KP (.iface 90 (.agg #[.int .i64 x0, .int .i64 x1, .int .i64 x2])) W)) := hof
  have H12 : Hid (∀ W, Below w.heap.size w W → Calls Tryz.prog 12 #[.iface 90 (.agg #[.int .i64 x0, .int .i64 x1, .int .i64 x2])] W (KP (.int .i64 cv) W)) := h12
  have H13 : Hid (∀ W, Below w.heap.size w W → Calls Tryz.prog 13 #[.agg M] W (KP (.int .i64 cv) W)) := h13
  have H14 : Hid (∀ W, Calls Tryz.prog 14 #[.iface 90 (.agg #[.int .i64 x0, .int .i64 x1, .int .i64 x2])] W (KP (.int .i64 sv) W)) := h14
  have H15 : Hid (∀ W, Calls Tryz.prog 15 #[.agg M] W (KP (.int .i64 sv) W)) := h15
  have HSM : Hid (∀ W, Calls Tryz.prog 9 #[.agg M] W (KP (.bool true) W)) := hsm
  have HM0 : Hid (∀ W, Bx W w.heap.size M 35 → W.cell? ⟨w.heap.size, 0, none⟩ = some (.int .i64 10)) := fun W h => (h.cell 0).trans hM0
  have HX0 : Hid (Bx (w.alloc (.cells M 35)) w.heap.size M 35) := Bx.new _ _ _
  have HB0 : Hid (Below w.heap.size w (w.alloc (.cells M 35))) := below_a w _
  have HLD : Hid (∀ W, Bx W w.heap.size M 35 → (Instr.loadAt 35 (.pointer (some ⟨w.heap.size, 0, none⟩))).run Tryz.prog W = .ok (.agg M) W) := fun W h => hloadAt W w.heap.size M hsz h
  clear hof h12 h13 h14 h15 hsm hM0
  go_enter Tryz.func3, Tryz.ntmps3
  go_upto_region 1 with fail
  generalize hw1 : w.alloc (.cells M 35) = w1 at *
  have HX : Hid (Bx w1 w.heap.size M 35) := HX0.out
  have HB : Hid (Below w.heap.size w w1) := HB0.out
  clear HX0 HB0 hw1
  go_wp2_with (guard_target =~ wpList _ _ _ (⟨_, Op.load 35 _, _, _, _, _⟩ :: _) _ _; refine wl_load _ rfl 35 _ rfl _ rfl _ (HLD.out _ HX.out) ?_; go_simp)
  refine (HSM.out _).mono ?_
  rintro e w2 ⟨rfl, hb2⟩
  have HX2 : Hid (Bx w2 w.heap.size M 35) := HX.out.keep hb2.out
  have HB2 : Hid (Below w.heap.size w w2) := bt HB.out hb2.out
  clear hb2 HX HB HSM
  go_wp2_with (guard_target =~ wpList _ _ _ (⟨_, Op.load 35 _, _, _, _, _⟩ :: _) _ _; refine wl_load _ rfl 35 _ rfl _ rfl _ (HLD.out _ HX2.out) ?_; go_simp)
  refine (HOF.out _).mono ?_
  rintro e w3 ⟨rfl, hb3⟩
  have HX3 : Hid (Bx w3 w.heap.size M 35) := HX2.out.keep hb3.out
  have HB3 : Hid (Below w.heap.size w w3) := bt HB2.out hb3.out
  clear hb3 HX2 HB2 HOF
  go_wp2_with fail
  refine wp_region_held (S := fun W => Bx W w.heap.size M 35 ∧ Below w.heap.size w W) (by kernel_rfl) ?_
  change wpAnyH _ _ _ _ _ 12 #[false, false, false, false, false, false, false, false, false, false, false, false] _ _
  have hS : Bx w3.drew w.heap.size M 35 ∧ Below w.heap.size w w3.drew := ⟨HX3.out, bdrw HB3.out 1⟩
  clear HX3 HB3
  refine takeH (fuel := 11) (i := 0) (v := .iface 90 (.agg #[.int .i64 x0, .int .i64 x1, .int .i64 x2])) rfl (by kernel_rfl) (by kernel_rfl) (by kernel_rfl) (fun _ _ _ h => h) (Or.inl ⟨rfl, fun _ _ => rfl⟩) hS ?_
  simp only [Act.put, List.setIfInBounds_toArray, List.set_cons_zero, List.set_cons_succ]
  refine takeH (fuel := 10) (i := 2) (v := .agg M) rfl (by kernel_rfl) (by kernel_rfl) (by kernel_rfl) (fun _ _ _ h => h) (Or.inl ⟨rfl, fun W hW => ex_load _ _ _ _ rfl _ _ rfl (HLD.out W hW.1)⟩) hS ?_
  simp only [Act.put, List.setIfInBounds_toArray, List.set_cons_zero, List.set_cons_succ]
  refine consH (fuel := 9) (i := 1) rfl (by kernel_rfl) (fun K hK => ?_)
  rw [if_pos (by rfl)]
  go_simp
  refine (H12.out _ hS.2).mono ?_
  rintro e w4 ⟨rfl, hb4⟩
  refine hK.out _ _ ⟨hS.1.keep hb4.out, bt hS.2 hb4.out⟩ (fun hS4 => ?_)
  clear hK
  try simp only [Act.put, List.setIfInBounds_toArray, List.set_cons_zero, List.set_cons_succ]
  refine consH (fuel := 8) (i := 3) rfl (by kernel_rfl) (fun K hK => ?_)
  rw [if_pos (by rfl)]
  go_simp
  refine (H13.out _ hS4.2).mono ?_
  rintro e w5 ⟨rfl, hb5⟩
  refine hK.out _ _ ⟨hS4.1.keep hb5.out, bt hS4.2 hb5.out⟩ (fun hS5 => ?_)
  clear hK
  try simp only [Act.put, List.setIfInBounds_toArray, List.set_cons_zero, List.set_cons_succ]
  refine takeH (fuel := 7) (i := 4) (v := .bool false) rfl (by kernel_rfl) (by kernel_rfl) (by kernel_rfl) (fun _ _ _ h => h) (Or.inl ⟨rfl, fun W hW => by go_simp⟩) hS5 ?_
  simp only [Act.put, List.setIfInBounds_toArray, List.set_cons_zero, List.set_cons_succ]
  refine takeH (fuel := 6) (i := 5) (v := .bool false) rfl (by kernel_rfl) (by kernel_rfl) (by kernel_rfl) (fun _ _ _ h => h) (Or.inl ⟨rfl, fun _ _ => rfl⟩) hS5 ?_
  simp only [Act.put, List.setIfInBounds_toArray, List.set_cons_zero, List.set_cons_succ]
  refine takeH (fuel := 5) (i := 6) (v := .iface 90 (.agg #[.int .i64 x0, .int .i64 x1, .int .i64 x2])) rfl (by kernel_rfl) (by kernel_rfl) (by kernel_rfl) (fun _ _ _ h => h) (Or.inl ⟨rfl, fun _ _ => rfl⟩) hS5 ?_
  simp only [Act.put, List.setIfInBounds_toArray, List.set_cons_zero, List.set_cons_succ]
  refine takeH (fuel := 4) (i := 8) (v := .agg M) rfl (by kernel_rfl) (by kernel_rfl) (by kernel_rfl) (fun _ _ _ h => h) (Or.inl ⟨rfl, fun W hW => ex_load _ _ _ _ rfl _ _ rfl (HLD.out W hW.1)⟩) hS5 ?_
  simp only [Act.put, List.setIfInBounds_toArray, List.set_cons_zero, List.set_cons_succ]
  refine consH (fuel := 3) (i := 7) rfl (by kernel_rfl) (fun K hK => ?_)
  rw [if_pos (by rfl)]
  go_simp
  refine (H14.out _).mono ?_
  rintro e w6 ⟨rfl, hb6⟩
  refine hK.out _ _ ⟨hS5.1.keep hb6.out, bt hS5.2 hb6.out⟩ (fun hS6 => ?_)
  clear hK
  try simp only [Act.put, List.setIfInBounds_toArray, List.set_cons_zero, List.set_cons_succ]
  refine consH (fuel := 2) (i := 9) rfl (by kernel_rfl) (fun K hK => ?_)
  rw [if_pos (by rfl)]
  go_simp
  refine (H15.out _).mono ?_
  rintro e w7 ⟨rfl, hb7⟩
  refine hK.out _ _ ⟨hS6.1.keep hb7.out, bt hS6.2 hb7.out⟩ (fun hS7 => ?_)
  clear hK
  try simp only [Act.put, List.setIfInBounds_toArray, List.set_cons_zero, List.set_cons_succ]
  refine takeH (fuel := 1) (i := 10) (v := .bool false) rfl (by kernel_rfl) (by kernel_rfl) (by kernel_rfl) (fun _ _ _ h => h) (Or.inl ⟨rfl, fun W hW => by go_simp⟩) hS7 ?_
  simp only [Act.put, List.setIfInBounds_toArray, List.set_cons_zero, List.set_cons_succ]
  refine takeH (fuel := 0) (i := 11) (v := .bool false) rfl (by kernel_rfl) (by kernel_rfl) (by kernel_rfl) (fun _ _ _ h => h) (Or.inl ⟨rfl, fun _ _ => rfl⟩) hS7 ?_
  simp only [Act.put, List.setIfInBounds_toArray, List.set_cons_zero, List.set_cons_succ]
  refine wpAnyH_done (by kernel_rfl) ?_ _
  have HX7 : Hid (Bx w7 w.heap.size M 35) := hS7.1
  have HB7 : Hid (Below w.heap.size w w7) := hS7.2
  clear hS hS4 hS5 hS6 hS7 hb4 hb5 hb6 hb7 H12 H13 H14 H15
  go_wp2_with fail
  refine wp_region_held (S := fun W => Bx W w.heap.size M 35 ∧ Below w.heap.size w W) (by kernel_rfl) ?_
  change wpAnyH _ _ _ _ _ 23 #[false, false, false, false, false, false, false, false, false, false, false, false, false, false, false, false, false, false, false, false, false, false, false] _ _
  have hS : Bx w7.drew w.heap.size M 35 ∧ Below w.heap.size w w7.drew := ⟨HX7.out, bdrw HB7.out 1⟩
  clear HX7 HB7
  refine takeH (fuel := 22) (i := 0) (v := .pointer (some ⟨w.heap.size, 0, none⟩)) rfl (by kernel_rfl) (by kernel_rfl) (by kernel_rfl) (fun _ _ _ h => h) (Or.inl ⟨rfl, fun W hW => by go_simp⟩) hS ?_
  simp only [Act.put, List.setIfInBounds_toArray, List.set_cons_zero, List.set_cons_succ]
  refine takeH (fuel := 21) (i := 1) (v := .int .i64 10) rfl (by kernel_rfl) (by kernel_rfl) (by kernel_rfl) (fun _ _ _ h => h) (Or.inl ⟨rfl, fun W hW => by have c0 := HM0.out W hW.1; go_simp⟩) hS ?_
  simp only [Act.put, List.setIfInBounds_toArray, List.set_cons_zero, List.set_cons_succ]
  refine takeH (fuel := 20) (i := 2) (v := .bool false) rfl (by kernel_rfl) (by kernel_rfl) (by kernel_rfl) (fun _ _ _ h => h) (Or.inl ⟨rfl, fun W hW => by go_simp⟩) hS ?_
  simp only [Act.put, List.setIfInBounds_toArray, List.set_cons_zero, List.set_cons_succ]
  refine takeH (fuel := 19) (i := 3) (v := .bool false) rfl (by kernel_rfl) (by kernel_rfl) (by kernel_rfl) (fun _ _ _ h => h) (Or.inl ⟨rfl, fun _ _ => rfl⟩) hS ?_
  simp only [Act.put, List.setIfInBounds_toArray, List.set_cons_zero, List.set_cons_succ]
  refine takeH (fuel := 18) (i := 4) (v := .pointer (some ⟨w.heap.size, 0, none⟩)) rfl (by kernel_rfl) (by kernel_rfl) (by kernel_rfl) (fun _ _ _ h => h) (Or.inl ⟨rfl, fun W hW => by go_simp⟩) hS ?_
  simp only [Act.put, List.setIfInBounds_toArray, List.set_cons_zero, List.set_cons_succ]
  refine takeH (fuel := 17) (i := 5) (v := .int .i64 10) rfl (by kernel_rfl) (by kernel_rfl) (by kernel_rfl) (fun _ _ _ h => h) (Or.inl ⟨rfl, fun W hW => by have c0 := HM0.out W hW.1; go_simp⟩) hS ?_
  simp only [Act.put, List.setIfInBounds_toArray, List.set_cons_zero, List.set_cons_succ]
  refine takeH (fuel := 16) (i := 6) (v := .bool false) rfl (by kernel_rfl) (by kernel_rfl) (by kernel_rfl) (fun _ _ _ h => h) (Or.inl ⟨rfl, fun W hW => by go_simp⟩) hS ?_
  simp only [Act.put, List.setIfInBounds_toArray, List.set_cons_zero, List.set_cons_succ]
  refine takeH (fuel := 15) (i := 7) (v := .bool false) rfl (by kernel_rfl) (by kernel_rfl) (by kernel_rfl) (fun _ _ _ h => h) (Or.inl ⟨rfl, fun _ _ => rfl⟩) hS ?_
  simp only [Act.put, List.setIfInBounds_toArray, List.set_cons_zero, List.set_cons_succ]
  refine takeH (fuel := 14) (i := 8) (v := .bool false) rfl (by kernel_rfl) (by kernel_rfl) (by kernel_rfl) (fun _ _ _ h => h) (Or.inl ⟨rfl, fun _ _ => rfl⟩) hS ?_
  simp only [Act.put, List.setIfInBounds_toArray, List.set_cons_zero, List.set_cons_succ]
  refine takeH (fuel := 13) (i := 9) (v := .iface 90 (.agg #[.int .i64 x0, .int .i64 x1, .int .i64 x2])) rfl (by kernel_rfl) (by kernel_rfl) (by kernel_rfl) (fun _ _ _ h => h) (Or.inl ⟨rfl, fun _ _ => rfl⟩) hS ?_
  simp only [Act.put, List.setIfInBounds_toArray, List.set_cons_zero, List.set_cons_succ]
  refine takeH (fuel := 12) (i := 10) (v := .bool true) rfl (by kernel_rfl) (by kernel_rfl) (by kernel_rfl) (fun _ _ _ h => h) (Or.inl ⟨rfl, fun W hW => by go_simp⟩) hS ?_
  simp only [Act.put, List.setIfInBounds_toArray, List.set_cons_zero, List.set_cons_succ]
  refine takeH (fuel := 11) (i := 11) (v := .bool true) rfl (by kernel_rfl) (by kernel_rfl) (by kernel_rfl) (fun _ _ _ h => h) (Or.inl ⟨rfl, fun _ _ => rfl⟩) hS ?_
  simp only [Act.put, List.setIfInBounds_toArray, List.set_cons_zero, List.set_cons_succ]
  refine takeH (fuel := 10) (i := 12) (v := .iface 90 (.agg #[.int .i64 x0, .int .i64 x1, .int .i64 x2])) rfl (by kernel_rfl) (by kernel_rfl) (by kernel_rfl) (fun _ _ _ h => h) (Or.inl ⟨rfl, fun _ _ => rfl⟩) hS ?_
  simp only [Act.put, List.setIfInBounds_toArray, List.set_cons_zero, List.set_cons_succ]
  refine takeH (fuel := 9) (i := 14) (v := .pointer (some ⟨w.heap.size, 0, none⟩)) rfl (by kernel_rfl) (by kernel_rfl) (by kernel_rfl) (fun _ _ _ h => h) (Or.inl ⟨rfl, fun W hW => by go_simp⟩) hS ?_
  simp only [Act.put, List.setIfInBounds_toArray, List.set_cons_zero, List.set_cons_succ]
  refine takeH (fuel := 8) (i := 15) (v := .int .i64 10) rfl (by kernel_rfl) (by kernel_rfl) (by kernel_rfl) (fun _ _ _ h => h) (Or.inl ⟨rfl, fun W hW => by have c0 := HM0.out W hW.1; go_simp⟩) hS ?_
  simp only [Act.put, List.setIfInBounds_toArray, List.set_cons_zero, List.set_cons_succ]
  refine consH (fuel := 7) (i := 13) rfl (by kernel_rfl) (fun K hK => ?_)
  rw [if_pos (by rfl)]
  go_simp
  refine (kind10 x0 x1 x2 _).mono ?_
  rintro e w8 ⟨rfl, hb8⟩
  refine hK.out _ _ ⟨hS.1.keep hb8.out, bt hS.2 hb8.out⟩ (fun hS8 => ?_)
  clear hK
  try simp only [Act.put, List.setIfInBounds_toArray, List.set_cons_zero, List.set_cons_succ]
  refine takeH (fuel := 6) (i := 16) (v := .bool true) rfl (by kernel_rfl) (by kernel_rfl) (by kernel_rfl) (fun _ _ _ h => h) (Or.inl ⟨rfl, fun W hW => by go_simp⟩) hS8 ?_
  simp only [Act.put, List.setIfInBounds_toArray, List.set_cons_zero, List.set_cons_succ]
  refine takeH (fuel := 5) (i := 17) (v := .bool true) rfl (by kernel_rfl) (by kernel_rfl) (by kernel_rfl) (fun _ _ _ h => h) (Or.inl ⟨rfl, fun _ _ => rfl⟩) hS8 ?_
  simp only [Act.put, List.setIfInBounds_toArray, List.set_cons_zero, List.set_cons_succ]
  refine takeH (fuel := 4) (i := 18) (v := .bool true) rfl (by kernel_rfl) (by kernel_rfl) (by kernel_rfl) (fun _ _ _ h => h) (Or.inl ⟨rfl, fun _ _ => rfl⟩) hS8 ?_
  simp only [Act.put, List.setIfInBounds_toArray, List.set_cons_zero, List.set_cons_succ]
  refine takeH (fuel := 3) (i := 19) (v := .bool true) rfl (by kernel_rfl) (by kernel_rfl) (by kernel_rfl) (fun _ _ _ h => h) (Or.inl ⟨rfl, fun _ _ => rfl⟩) hS8 ?_
  simp only [Act.put, List.setIfInBounds_toArray, List.set_cons_zero, List.set_cons_succ]
  refine consH (fuel := 2) (i := 20) rfl (by kernel_rfl) (fun K hK => ?_)
  rw [if_pos (by rfl)]
  go_simp
  refine (awake _).mono ?_
  rintro e w9 ⟨rfl, hb9⟩
  refine hK.out _ _ ⟨hS8.1.keep hb9.out, bt hS8.2 hb9.out⟩ (fun hS9 => ?_)
  clear hK
  try simp only [Act.put, List.setIfInBounds_toArray, List.set_cons_zero, List.set_cons_succ]
  refine takeH (fuel := 1) (i := 21) (v := .bool true) rfl (by kernel_rfl) (by kernel_rfl) (by kernel_rfl) (fun _ _ _ h => h) (Or.inl ⟨rfl, fun _ _ => rfl⟩) hS9 ?_
  simp only [Act.put, List.setIfInBounds_toArray, List.set_cons_zero, List.set_cons_succ]
  refine takeH (fuel := 0) (i := 22) (v := .bool true) rfl (by kernel_rfl) (by kernel_rfl) (by kernel_rfl) (fun _ _ _ h => h) (Or.inl ⟨rfl, fun _ _ => rfl⟩) hS9 ?_
  simp only [Act.put, List.setIfInBounds_toArray, List.set_cons_zero, List.set_cons_succ]
  refine wpAnyH_done (by kernel_rfl) ?_ _
  have HB9 : Hid (Below w.heap.size w w9) := hS9.2
  clear hS hS8 hS9
  go_wp2_with fail
  go_ret
  exact KP.mk rfl HB9.out
set_option maxHeartbeats 8000000 in
theorem lChecks11 (M : Array Value) (hsz : M.size = 36) (x0 : Int) (x1 : Int) (x2 : ByteArray) (x3 : Int) (x4a : Option Addr) (x4n x4c : Nat)  (hM0 : M[0]? = some (.int .i64 11)) (w : World) (cv : Nat) (sv : Int)
    (hsm : ∀ W, Calls Tryz.prog 9 #[.agg M] W (KP (.bool true) W)) (hof : ∀ W, Calls Tryz.prog 11 #[.agg M] W (KP (.iface 67 (.agg #[.int .i64 x0, .int .i64 x1, .string x2, .int .i64 x3, .slice x4a x4n x4c])) W))
    (h12 : ∀ W, Below w.heap.size w W → Calls Tryz.prog 12 #[.iface 67 (.agg #[.int .i64 x0, .int .i64 x1, .string x2, .int .i64 x3, .slice x4a x4n x4c])] W (KP (.int .i64 cv) W)) (h13 : ∀ W, Below w.heap.size w W → Calls Tryz.prog 13 #[.agg M] W (KP (.int .i64 cv) W))
    (h14 : ∀ W, Calls Tryz.prog 14 #[.iface 67 (.agg #[.int .i64 x0, .int .i64 x1, .string x2, .int .i64 x3, .slice x4a x4n x4c])] W (KP (.int .i64 sv) W)) (h15 : ∀ W, Calls Tryz.prog 15 #[.agg M] W (KP (.int .i64 sv) W)) : Calls Tryz.prog 3 #[.agg M] w (KP (.bool true) w) := by
  have HOF : Hid (∀ W, Calls Tryz.prog 11 #[.agg M] W (KP (.iface 67 (.agg #[.int .i64 x0, .int .i64 x1, .string x2, .int .i64 x3, .slice x4a x4n x4c])) W)) := hof
  have H12 : Hid (∀ W, Below w.heap.size w W → Calls Tryz.prog 12 #[.iface 67 (.agg #[.int .i64 x0, .int .i64 x1, .string x2, .int .i64 x3, .slice x4a x4n x4c])] W (KP (.int .i64 cv) W)) := h12
  have H13 : Hid (∀ W, Below w.heap.size w W → Calls Tryz.prog 13 #[.agg M] W (KP (.int .i64 cv) W)) := h13
  have H14 : Hid (∀ W, Calls Tryz.prog 14 #[.iface 67 (.agg #[.int .i64 x0, .int .i64 x1, .string x2, .int .i64 x3, .slice x4a x4n x4c])] W (KP (.int .i64 sv) W)) := h14
  have H15 : Hid (∀ W, Calls Tryz.prog 15 #[.agg M] W (KP (.int .i64 sv) W)) := h15
  have HSM : Hid (∀ W, Calls Tryz.prog 9 #[.agg M] W (KP (.bool true) W)) := hsm
  have HM0 : Hid (∀ W, Bx W w.heap.size M 35 → W.cell? ⟨w.heap.size, 0, none⟩ = some (.int .i64 11)) := fun W h => (h.cell 0).trans hM0
  have HX0 : Hid (Bx (w.alloc (.cells M 35)) w.heap.size M 35) := Bx.new _ _ _
  have HB0 : Hid (Below w.heap.size w (w.alloc (.cells M 35))) := below_a w _
  have HLD : Hid (∀ W, Bx W w.heap.size M 35 → (Instr.loadAt 35 (.pointer (some ⟨w.heap.size, 0, none⟩))).run Tryz.prog W = .ok (.agg M) W) := fun W h => hloadAt W w.heap.size M hsz h
  clear hof h12 h13 h14 h15 hsm hM0
  go_enter Tryz.func3, Tryz.ntmps3
  go_upto_region 1 with fail
  generalize hw1 : w.alloc (.cells M 35) = w1 at *
  have HX : Hid (Bx w1 w.heap.size M 35) := HX0.out
  have HB : Hid (Below w.heap.size w w1) := HB0.out
  clear HX0 HB0 hw1
  go_wp2_with (guard_target =~ wpList _ _ _ (⟨_, Op.load 35 _, _, _, _, _⟩ :: _) _ _; refine wl_load _ rfl 35 _ rfl _ rfl _ (HLD.out _ HX.out) ?_; go_simp)
  refine (HSM.out _).mono ?_
  rintro e w2 ⟨rfl, hb2⟩
  have HX2 : Hid (Bx w2 w.heap.size M 35) := HX.out.keep hb2.out
  have HB2 : Hid (Below w.heap.size w w2) := bt HB.out hb2.out
  clear hb2 HX HB HSM
  go_wp2_with (guard_target =~ wpList _ _ _ (⟨_, Op.load 35 _, _, _, _, _⟩ :: _) _ _; refine wl_load _ rfl 35 _ rfl _ rfl _ (HLD.out _ HX2.out) ?_; go_simp)
  refine (HOF.out _).mono ?_
  rintro e w3 ⟨rfl, hb3⟩
  have HX3 : Hid (Bx w3 w.heap.size M 35) := HX2.out.keep hb3.out
  have HB3 : Hid (Below w.heap.size w w3) := bt HB2.out hb3.out
  clear hb3 HX2 HB2 HOF
  go_wp2_with fail
  refine wp_region_held (S := fun W => Bx W w.heap.size M 35 ∧ Below w.heap.size w W) (by kernel_rfl) ?_
  change wpAnyH _ _ _ _ _ 12 #[false, false, false, false, false, false, false, false, false, false, false, false] _ _
  have hS : Bx w3.drew w.heap.size M 35 ∧ Below w.heap.size w w3.drew := ⟨HX3.out, bdrw HB3.out 1⟩
  clear HX3 HB3
  refine takeH (fuel := 11) (i := 0) (v := .iface 67 (.agg #[.int .i64 x0, .int .i64 x1, .string x2, .int .i64 x3, .slice x4a x4n x4c])) rfl (by kernel_rfl) (by kernel_rfl) (by kernel_rfl) (fun _ _ _ h => h) (Or.inl ⟨rfl, fun _ _ => rfl⟩) hS ?_
  simp only [Act.put, List.setIfInBounds_toArray, List.set_cons_zero, List.set_cons_succ]
  refine takeH (fuel := 10) (i := 2) (v := .agg M) rfl (by kernel_rfl) (by kernel_rfl) (by kernel_rfl) (fun _ _ _ h => h) (Or.inl ⟨rfl, fun W hW => ex_load _ _ _ _ rfl _ _ rfl (HLD.out W hW.1)⟩) hS ?_
  simp only [Act.put, List.setIfInBounds_toArray, List.set_cons_zero, List.set_cons_succ]
  refine consH (fuel := 9) (i := 1) rfl (by kernel_rfl) (fun K hK => ?_)
  rw [if_pos (by rfl)]
  go_simp
  refine (H12.out _ hS.2).mono ?_
  rintro e w4 ⟨rfl, hb4⟩
  refine hK.out _ _ ⟨hS.1.keep hb4.out, bt hS.2 hb4.out⟩ (fun hS4 => ?_)
  clear hK
  try simp only [Act.put, List.setIfInBounds_toArray, List.set_cons_zero, List.set_cons_succ]
  refine consH (fuel := 8) (i := 3) rfl (by kernel_rfl) (fun K hK => ?_)
  rw [if_pos (by rfl)]
  go_simp
  refine (H13.out _ hS4.2).mono ?_
  rintro e w5 ⟨rfl, hb5⟩
  refine hK.out _ _ ⟨hS4.1.keep hb5.out, bt hS4.2 hb5.out⟩ (fun hS5 => ?_)
  clear hK
  try simp only [Act.put, List.setIfInBounds_toArray, List.set_cons_zero, List.set_cons_succ]
  refine takeH (fuel := 7) (i := 4) (v := .bool false) rfl (by kernel_rfl) (by kernel_rfl) (by kernel_rfl) (fun _ _ _ h => h) (Or.inl ⟨rfl, fun W hW => by go_simp⟩) hS5 ?_
  simp only [Act.put, List.setIfInBounds_toArray, List.set_cons_zero, List.set_cons_succ]
  refine takeH (fuel := 6) (i := 5) (v := .bool false) rfl (by kernel_rfl) (by kernel_rfl) (by kernel_rfl) (fun _ _ _ h => h) (Or.inl ⟨rfl, fun _ _ => rfl⟩) hS5 ?_
  simp only [Act.put, List.setIfInBounds_toArray, List.set_cons_zero, List.set_cons_succ]
  refine takeH (fuel := 5) (i := 6) (v := .iface 67 (.agg #[.int .i64 x0, .int .i64 x1, .string x2, .int .i64 x3, .slice x4a x4n x4c])) rfl (by kernel_rfl) (by kernel_rfl) (by kernel_rfl) (fun _ _ _ h => h) (Or.inl ⟨rfl, fun _ _ => rfl⟩) hS5 ?_
  simp only [Act.put, List.setIfInBounds_toArray, List.set_cons_zero, List.set_cons_succ]
  refine takeH (fuel := 4) (i := 8) (v := .agg M) rfl (by kernel_rfl) (by kernel_rfl) (by kernel_rfl) (fun _ _ _ h => h) (Or.inl ⟨rfl, fun W hW => ex_load _ _ _ _ rfl _ _ rfl (HLD.out W hW.1)⟩) hS5 ?_
  simp only [Act.put, List.setIfInBounds_toArray, List.set_cons_zero, List.set_cons_succ]
  refine consH (fuel := 3) (i := 7) rfl (by kernel_rfl) (fun K hK => ?_)
  rw [if_pos (by rfl)]
  go_simp
  refine (H14.out _).mono ?_
  rintro e w6 ⟨rfl, hb6⟩
  refine hK.out _ _ ⟨hS5.1.keep hb6.out, bt hS5.2 hb6.out⟩ (fun hS6 => ?_)
  clear hK
  try simp only [Act.put, List.setIfInBounds_toArray, List.set_cons_zero, List.set_cons_succ]
  refine consH (fuel := 2) (i := 9) rfl (by kernel_rfl) (fun K hK => ?_)
  rw [if_pos (by rfl)]
  go_simp
  refine (H15.out _).mono ?_
  rintro e w7 ⟨rfl, hb7⟩
  refine hK.out _ _ ⟨hS6.1.keep hb7.out, bt hS6.2 hb7.out⟩ (fun hS7 => ?_)
  clear hK
  try simp only [Act.put, List.setIfInBounds_toArray, List.set_cons_zero, List.set_cons_succ]
  refine takeH (fuel := 1) (i := 10) (v := .bool false) rfl (by kernel_rfl) (by kernel_rfl) (by kernel_rfl) (fun _ _ _ h => h) (Or.inl ⟨rfl, fun W hW => by go_simp⟩) hS7 ?_
  simp only [Act.put, List.setIfInBounds_toArray, List.set_cons_zero, List.set_cons_succ]
  refine takeH (fuel := 0) (i := 11) (v := .bool false) rfl (by kernel_rfl) (by kernel_rfl) (by kernel_rfl) (fun _ _ _ h => h) (Or.inl ⟨rfl, fun _ _ => rfl⟩) hS7 ?_
  simp only [Act.put, List.setIfInBounds_toArray, List.set_cons_zero, List.set_cons_succ]
  refine wpAnyH_done (by kernel_rfl) ?_ _
  have HX7 : Hid (Bx w7 w.heap.size M 35) := hS7.1
  have HB7 : Hid (Below w.heap.size w w7) := hS7.2
  clear hS hS4 hS5 hS6 hS7 hb4 hb5 hb6 hb7 H12 H13 H14 H15
  go_wp2_with fail
  refine wp_region_held (S := fun W => Bx W w.heap.size M 35 ∧ Below w.heap.size w W) (by kernel_rfl) ?_
  change wpAnyH _ _ _ _ _ 23 #[false, false, false, false, false, false, false, false, false, false, false, false, false, false, false, false, false, false, false, false, false, false, false] _ _
  have hS : Bx w7.drew w.heap.size M 35 ∧ Below w.heap.size w w7.drew := ⟨HX7.out, bdrw HB7.out 1⟩
  clear HX7 HB7
  refine takeH (fuel := 22) (i := 0) (v := .pointer (some ⟨w.heap.size, 0, none⟩)) rfl (by kernel_rfl) (by kernel_rfl) (by kernel_rfl) (fun _ _ _ h => h) (Or.inl ⟨rfl, fun W hW => by go_simp⟩) hS ?_
  simp only [Act.put, List.setIfInBounds_toArray, List.set_cons_zero, List.set_cons_succ]
  refine takeH (fuel := 21) (i := 1) (v := .int .i64 11) rfl (by kernel_rfl) (by kernel_rfl) (by kernel_rfl) (fun _ _ _ h => h) (Or.inl ⟨rfl, fun W hW => by have c0 := HM0.out W hW.1; go_simp⟩) hS ?_
  simp only [Act.put, List.setIfInBounds_toArray, List.set_cons_zero, List.set_cons_succ]
  refine takeH (fuel := 20) (i := 2) (v := .bool false) rfl (by kernel_rfl) (by kernel_rfl) (by kernel_rfl) (fun _ _ _ h => h) (Or.inl ⟨rfl, fun W hW => by go_simp⟩) hS ?_
  simp only [Act.put, List.setIfInBounds_toArray, List.set_cons_zero, List.set_cons_succ]
  refine takeH (fuel := 19) (i := 3) (v := .bool false) rfl (by kernel_rfl) (by kernel_rfl) (by kernel_rfl) (fun _ _ _ h => h) (Or.inl ⟨rfl, fun _ _ => rfl⟩) hS ?_
  simp only [Act.put, List.setIfInBounds_toArray, List.set_cons_zero, List.set_cons_succ]
  refine takeH (fuel := 18) (i := 4) (v := .pointer (some ⟨w.heap.size, 0, none⟩)) rfl (by kernel_rfl) (by kernel_rfl) (by kernel_rfl) (fun _ _ _ h => h) (Or.inl ⟨rfl, fun W hW => by go_simp⟩) hS ?_
  simp only [Act.put, List.setIfInBounds_toArray, List.set_cons_zero, List.set_cons_succ]
  refine takeH (fuel := 17) (i := 5) (v := .int .i64 11) rfl (by kernel_rfl) (by kernel_rfl) (by kernel_rfl) (fun _ _ _ h => h) (Or.inl ⟨rfl, fun W hW => by have c0 := HM0.out W hW.1; go_simp⟩) hS ?_
  simp only [Act.put, List.setIfInBounds_toArray, List.set_cons_zero, List.set_cons_succ]
  refine takeH (fuel := 16) (i := 6) (v := .bool false) rfl (by kernel_rfl) (by kernel_rfl) (by kernel_rfl) (fun _ _ _ h => h) (Or.inl ⟨rfl, fun W hW => by go_simp⟩) hS ?_
  simp only [Act.put, List.setIfInBounds_toArray, List.set_cons_zero, List.set_cons_succ]
  refine takeH (fuel := 15) (i := 7) (v := .bool false) rfl (by kernel_rfl) (by kernel_rfl) (by kernel_rfl) (fun _ _ _ h => h) (Or.inl ⟨rfl, fun _ _ => rfl⟩) hS ?_
  simp only [Act.put, List.setIfInBounds_toArray, List.set_cons_zero, List.set_cons_succ]
  refine takeH (fuel := 14) (i := 8) (v := .bool false) rfl (by kernel_rfl) (by kernel_rfl) (by kernel_rfl) (fun _ _ _ h => h) (Or.inl ⟨rfl, fun _ _ => rfl⟩) hS ?_
  simp only [Act.put, List.setIfInBounds_toArray, List.set_cons_zero, List.set_cons_succ]
  refine takeH (fuel := 13) (i := 9) (v := .iface 67 (.agg #[.int .i64 x0, .int .i64 x1, .string x2, .int .i64 x3, .slice x4a x4n x4c])) rfl (by kernel_rfl) (by kernel_rfl) (by kernel_rfl) (fun _ _ _ h => h) (Or.inl ⟨rfl, fun _ _ => rfl⟩) hS ?_
  simp only [Act.put, List.setIfInBounds_toArray, List.set_cons_zero, List.set_cons_succ]
  refine takeH (fuel := 12) (i := 10) (v := .bool true) rfl (by kernel_rfl) (by kernel_rfl) (by kernel_rfl) (fun _ _ _ h => h) (Or.inl ⟨rfl, fun W hW => by go_simp⟩) hS ?_
  simp only [Act.put, List.setIfInBounds_toArray, List.set_cons_zero, List.set_cons_succ]
  refine takeH (fuel := 11) (i := 11) (v := .bool true) rfl (by kernel_rfl) (by kernel_rfl) (by kernel_rfl) (fun _ _ _ h => h) (Or.inl ⟨rfl, fun _ _ => rfl⟩) hS ?_
  simp only [Act.put, List.setIfInBounds_toArray, List.set_cons_zero, List.set_cons_succ]
  refine takeH (fuel := 10) (i := 12) (v := .iface 67 (.agg #[.int .i64 x0, .int .i64 x1, .string x2, .int .i64 x3, .slice x4a x4n x4c])) rfl (by kernel_rfl) (by kernel_rfl) (by kernel_rfl) (fun _ _ _ h => h) (Or.inl ⟨rfl, fun _ _ => rfl⟩) hS ?_
  simp only [Act.put, List.setIfInBounds_toArray, List.set_cons_zero, List.set_cons_succ]
  refine takeH (fuel := 9) (i := 14) (v := .pointer (some ⟨w.heap.size, 0, none⟩)) rfl (by kernel_rfl) (by kernel_rfl) (by kernel_rfl) (fun _ _ _ h => h) (Or.inl ⟨rfl, fun W hW => by go_simp⟩) hS ?_
  simp only [Act.put, List.setIfInBounds_toArray, List.set_cons_zero, List.set_cons_succ]
  refine takeH (fuel := 8) (i := 15) (v := .int .i64 11) rfl (by kernel_rfl) (by kernel_rfl) (by kernel_rfl) (fun _ _ _ h => h) (Or.inl ⟨rfl, fun W hW => by have c0 := HM0.out W hW.1; go_simp⟩) hS ?_
  simp only [Act.put, List.setIfInBounds_toArray, List.set_cons_zero, List.set_cons_succ]
  refine consH (fuel := 7) (i := 13) rfl (by kernel_rfl) (fun K hK => ?_)
  rw [if_pos (by rfl)]
  go_simp
  refine (kind11 x0 x1 x2 x3 x4a x4n x4c _).mono ?_
  rintro e w8 ⟨rfl, hb8⟩
  refine hK.out _ _ ⟨hS.1.keep hb8.out, bt hS.2 hb8.out⟩ (fun hS8 => ?_)
  clear hK
  try simp only [Act.put, List.setIfInBounds_toArray, List.set_cons_zero, List.set_cons_succ]
  refine takeH (fuel := 6) (i := 16) (v := .bool true) rfl (by kernel_rfl) (by kernel_rfl) (by kernel_rfl) (fun _ _ _ h => h) (Or.inl ⟨rfl, fun W hW => by go_simp⟩) hS8 ?_
  simp only [Act.put, List.setIfInBounds_toArray, List.set_cons_zero, List.set_cons_succ]
  refine takeH (fuel := 5) (i := 17) (v := .bool true) rfl (by kernel_rfl) (by kernel_rfl) (by kernel_rfl) (fun _ _ _ h => h) (Or.inl ⟨rfl, fun _ _ => rfl⟩) hS8 ?_
  simp only [Act.put, List.setIfInBounds_toArray, List.set_cons_zero, List.set_cons_succ]
  refine takeH (fuel := 4) (i := 18) (v := .bool true) rfl (by kernel_rfl) (by kernel_rfl) (by kernel_rfl) (fun _ _ _ h => h) (Or.inl ⟨rfl, fun _ _ => rfl⟩) hS8 ?_
  simp only [Act.put, List.setIfInBounds_toArray, List.set_cons_zero, List.set_cons_succ]
  refine takeH (fuel := 3) (i := 19) (v := .bool true) rfl (by kernel_rfl) (by kernel_rfl) (by kernel_rfl) (fun _ _ _ h => h) (Or.inl ⟨rfl, fun _ _ => rfl⟩) hS8 ?_
  simp only [Act.put, List.setIfInBounds_toArray, List.set_cons_zero, List.set_cons_succ]
  refine consH (fuel := 2) (i := 20) rfl (by kernel_rfl) (fun K hK => ?_)
  rw [if_pos (by rfl)]
  go_simp
  refine (awake _).mono ?_
  rintro e w9 ⟨rfl, hb9⟩
  refine hK.out _ _ ⟨hS8.1.keep hb9.out, bt hS8.2 hb9.out⟩ (fun hS9 => ?_)
  clear hK
  try simp only [Act.put, List.setIfInBounds_toArray, List.set_cons_zero, List.set_cons_succ]
  refine takeH (fuel := 1) (i := 21) (v := .bool true) rfl (by kernel_rfl) (by kernel_rfl) (by kernel_rfl) (fun _ _ _ h => h) (Or.inl ⟨rfl, fun _ _ => rfl⟩) hS9 ?_
  simp only [Act.put, List.setIfInBounds_toArray, List.set_cons_zero, List.set_cons_succ]
  refine takeH (fuel := 0) (i := 22) (v := .bool true) rfl (by kernel_rfl) (by kernel_rfl) (by kernel_rfl) (fun _ _ _ h => h) (Or.inl ⟨rfl, fun _ _ => rfl⟩) hS9 ?_
  simp only [Act.put, List.setIfInBounds_toArray, List.set_cons_zero, List.set_cons_succ]
  refine wpAnyH_done (by kernel_rfl) ?_ _
  have HB9 : Hid (Below w.heap.size w w9) := hS9.2
  clear hS hS8 hS9
  go_wp2_with fail
  go_ret
  exact KP.mk rfl HB9.out
set_option maxHeartbeats 8000000 in
theorem lChecks12 (M : Array Value) (hsz : M.size = 36) (x0 : Int) (x1 : Int) (x2 : Bool)  (hM0 : M[0]? = some (.int .i64 12)) (w : World) (cv : Nat) (sv : Int)
    (hsm : ∀ W, Calls Tryz.prog 9 #[.agg M] W (KP (.bool true) W)) (hof : ∀ W, Calls Tryz.prog 11 #[.agg M] W (KP (.iface 92 (.agg #[.int .i64 x0, .int .i64 x1, .bool x2])) W))
    (h12 : ∀ W, Below w.heap.size w W → Calls Tryz.prog 12 #[.iface 92 (.agg #[.int .i64 x0, .int .i64 x1, .bool x2])] W (KP (.int .i64 cv) W)) (h13 : ∀ W, Below w.heap.size w W → Calls Tryz.prog 13 #[.agg M] W (KP (.int .i64 cv) W))
    (h14 : ∀ W, Calls Tryz.prog 14 #[.iface 92 (.agg #[.int .i64 x0, .int .i64 x1, .bool x2])] W (KP (.int .i64 sv) W)) (h15 : ∀ W, Calls Tryz.prog 15 #[.agg M] W (KP (.int .i64 sv) W)) : Calls Tryz.prog 3 #[.agg M] w (KP (.bool true) w) := by
  have HOF : Hid (∀ W, Calls Tryz.prog 11 #[.agg M] W (KP (.iface 92 (.agg #[.int .i64 x0, .int .i64 x1, .bool x2])) W)) := hof
  have H12 : Hid (∀ W, Below w.heap.size w W → Calls Tryz.prog 12 #[.iface 92 (.agg #[.int .i64 x0, .int .i64 x1, .bool x2])] W (KP (.int .i64 cv) W)) := h12
  have H13 : Hid (∀ W, Below w.heap.size w W → Calls Tryz.prog 13 #[.agg M] W (KP (.int .i64 cv) W)) := h13
  have H14 : Hid (∀ W, Calls Tryz.prog 14 #[.iface 92 (.agg #[.int .i64 x0, .int .i64 x1, .bool x2])] W (KP (.int .i64 sv) W)) := h14
  have H15 : Hid (∀ W, Calls Tryz.prog 15 #[.agg M] W (KP (.int .i64 sv) W)) := h15
  have HSM : Hid (∀ W, Calls Tryz.prog 9 #[.agg M] W (KP (.bool true) W)) := hsm
  have HM0 : Hid (∀ W, Bx W w.heap.size M 35 → W.cell? ⟨w.heap.size, 0, none⟩ = some (.int .i64 12)) := fun W h => (h.cell 0).trans hM0
  have HX0 : Hid (Bx (w.alloc (.cells M 35)) w.heap.size M 35) := Bx.new _ _ _
  have HB0 : Hid (Below w.heap.size w (w.alloc (.cells M 35))) := below_a w _
  have HLD : Hid (∀ W, Bx W w.heap.size M 35 → (Instr.loadAt 35 (.pointer (some ⟨w.heap.size, 0, none⟩))).run Tryz.prog W = .ok (.agg M) W) := fun W h => hloadAt W w.heap.size M hsz h
  clear hof h12 h13 h14 h15 hsm hM0
  go_enter Tryz.func3, Tryz.ntmps3
  go_upto_region 1 with fail
  generalize hw1 : w.alloc (.cells M 35) = w1 at *
  have HX : Hid (Bx w1 w.heap.size M 35) := HX0.out
  have HB : Hid (Below w.heap.size w w1) := HB0.out
  clear HX0 HB0 hw1
  go_wp2_with (guard_target =~ wpList _ _ _ (⟨_, Op.load 35 _, _, _, _, _⟩ :: _) _ _; refine wl_load _ rfl 35 _ rfl _ rfl _ (HLD.out _ HX.out) ?_; go_simp)
  refine (HSM.out _).mono ?_
  rintro e w2 ⟨rfl, hb2⟩
  have HX2 : Hid (Bx w2 w.heap.size M 35) := HX.out.keep hb2.out
  have HB2 : Hid (Below w.heap.size w w2) := bt HB.out hb2.out
  clear hb2 HX HB HSM
  go_wp2_with (guard_target =~ wpList _ _ _ (⟨_, Op.load 35 _, _, _, _, _⟩ :: _) _ _; refine wl_load _ rfl 35 _ rfl _ rfl _ (HLD.out _ HX2.out) ?_; go_simp)
  refine (HOF.out _).mono ?_
  rintro e w3 ⟨rfl, hb3⟩
  have HX3 : Hid (Bx w3 w.heap.size M 35) := HX2.out.keep hb3.out
  have HB3 : Hid (Below w.heap.size w w3) := bt HB2.out hb3.out
  clear hb3 HX2 HB2 HOF
  go_wp2_with fail
  refine wp_region_held (S := fun W => Bx W w.heap.size M 35 ∧ Below w.heap.size w W) (by kernel_rfl) ?_
  change wpAnyH _ _ _ _ _ 12 #[false, false, false, false, false, false, false, false, false, false, false, false] _ _
  have hS : Bx w3.drew w.heap.size M 35 ∧ Below w.heap.size w w3.drew := ⟨HX3.out, bdrw HB3.out 1⟩
  clear HX3 HB3
  refine takeH (fuel := 11) (i := 0) (v := .iface 92 (.agg #[.int .i64 x0, .int .i64 x1, .bool x2])) rfl (by kernel_rfl) (by kernel_rfl) (by kernel_rfl) (fun _ _ _ h => h) (Or.inl ⟨rfl, fun _ _ => rfl⟩) hS ?_
  simp only [Act.put, List.setIfInBounds_toArray, List.set_cons_zero, List.set_cons_succ]
  refine takeH (fuel := 10) (i := 2) (v := .agg M) rfl (by kernel_rfl) (by kernel_rfl) (by kernel_rfl) (fun _ _ _ h => h) (Or.inl ⟨rfl, fun W hW => ex_load _ _ _ _ rfl _ _ rfl (HLD.out W hW.1)⟩) hS ?_
  simp only [Act.put, List.setIfInBounds_toArray, List.set_cons_zero, List.set_cons_succ]
  refine consH (fuel := 9) (i := 1) rfl (by kernel_rfl) (fun K hK => ?_)
  rw [if_pos (by rfl)]
  go_simp
  refine (H12.out _ hS.2).mono ?_
  rintro e w4 ⟨rfl, hb4⟩
  refine hK.out _ _ ⟨hS.1.keep hb4.out, bt hS.2 hb4.out⟩ (fun hS4 => ?_)
  clear hK
  try simp only [Act.put, List.setIfInBounds_toArray, List.set_cons_zero, List.set_cons_succ]
  refine consH (fuel := 8) (i := 3) rfl (by kernel_rfl) (fun K hK => ?_)
  rw [if_pos (by rfl)]
  go_simp
  refine (H13.out _ hS4.2).mono ?_
  rintro e w5 ⟨rfl, hb5⟩
  refine hK.out _ _ ⟨hS4.1.keep hb5.out, bt hS4.2 hb5.out⟩ (fun hS5 => ?_)
  clear hK
  try simp only [Act.put, List.setIfInBounds_toArray, List.set_cons_zero, List.set_cons_succ]
  refine takeH (fuel := 7) (i := 4) (v := .bool false) rfl (by kernel_rfl) (by kernel_rfl) (by kernel_rfl) (fun _ _ _ h => h) (Or.inl ⟨rfl, fun W hW => by go_simp⟩) hS5 ?_
  simp only [Act.put, List.setIfInBounds_toArray, List.set_cons_zero, List.set_cons_succ]
  refine takeH (fuel := 6) (i := 5) (v := .bool false) rfl (by kernel_rfl) (by kernel_rfl) (by kernel_rfl) (fun _ _ _ h => h) (Or.inl ⟨rfl, fun _ _ => rfl⟩) hS5 ?_
  simp only [Act.put, List.setIfInBounds_toArray, List.set_cons_zero, List.set_cons_succ]
  refine takeH (fuel := 5) (i := 6) (v := .iface 92 (.agg #[.int .i64 x0, .int .i64 x1, .bool x2])) rfl (by kernel_rfl) (by kernel_rfl) (by kernel_rfl) (fun _ _ _ h => h) (Or.inl ⟨rfl, fun _ _ => rfl⟩) hS5 ?_
  simp only [Act.put, List.setIfInBounds_toArray, List.set_cons_zero, List.set_cons_succ]
  refine takeH (fuel := 4) (i := 8) (v := .agg M) rfl (by kernel_rfl) (by kernel_rfl) (by kernel_rfl) (fun _ _ _ h => h) (Or.inl ⟨rfl, fun W hW => ex_load _ _ _ _ rfl _ _ rfl (HLD.out W hW.1)⟩) hS5 ?_
  simp only [Act.put, List.setIfInBounds_toArray, List.set_cons_zero, List.set_cons_succ]
  refine consH (fuel := 3) (i := 7) rfl (by kernel_rfl) (fun K hK => ?_)
  rw [if_pos (by rfl)]
  go_simp
  refine (H14.out _).mono ?_
  rintro e w6 ⟨rfl, hb6⟩
  refine hK.out _ _ ⟨hS5.1.keep hb6.out, bt hS5.2 hb6.out⟩ (fun hS6 => ?_)
  clear hK
  try simp only [Act.put, List.setIfInBounds_toArray, List.set_cons_zero, List.set_cons_succ]
  refine consH (fuel := 2) (i := 9) rfl (by kernel_rfl) (fun K hK => ?_)
  rw [if_pos (by rfl)]
  go_simp
  refine (H15.out _).mono ?_
  rintro e w7 ⟨rfl, hb7⟩
  refine hK.out _ _ ⟨hS6.1.keep hb7.out, bt hS6.2 hb7.out⟩ (fun hS7 => ?_)
  clear hK
  try simp only [Act.put, List.setIfInBounds_toArray, List.set_cons_zero, List.set_cons_succ]
  refine takeH (fuel := 1) (i := 10) (v := .bool false) rfl (by kernel_rfl) (by kernel_rfl) (by kernel_rfl) (fun _ _ _ h => h) (Or.inl ⟨rfl, fun W hW => by go_simp⟩) hS7 ?_
  simp only [Act.put, List.setIfInBounds_toArray, List.set_cons_zero, List.set_cons_succ]
  refine takeH (fuel := 0) (i := 11) (v := .bool false) rfl (by kernel_rfl) (by kernel_rfl) (by kernel_rfl) (fun _ _ _ h => h) (Or.inl ⟨rfl, fun _ _ => rfl⟩) hS7 ?_
  simp only [Act.put, List.setIfInBounds_toArray, List.set_cons_zero, List.set_cons_succ]
  refine wpAnyH_done (by kernel_rfl) ?_ _
  have HX7 : Hid (Bx w7 w.heap.size M 35) := hS7.1
  have HB7 : Hid (Below w.heap.size w w7) := hS7.2
  clear hS hS4 hS5 hS6 hS7 hb4 hb5 hb6 hb7 H12 H13 H14 H15
  go_wp2_with fail
  refine wp_region_held (S := fun W => Bx W w.heap.size M 35 ∧ Below w.heap.size w W) (by kernel_rfl) ?_
  change wpAnyH _ _ _ _ _ 23 #[false, false, false, false, false, false, false, false, false, false, false, false, false, false, false, false, false, false, false, false, false, false, false] _ _
  have hS : Bx w7.drew w.heap.size M 35 ∧ Below w.heap.size w w7.drew := ⟨HX7.out, bdrw HB7.out 1⟩
  clear HX7 HB7
  refine takeH (fuel := 22) (i := 0) (v := .pointer (some ⟨w.heap.size, 0, none⟩)) rfl (by kernel_rfl) (by kernel_rfl) (by kernel_rfl) (fun _ _ _ h => h) (Or.inl ⟨rfl, fun W hW => by go_simp⟩) hS ?_
  simp only [Act.put, List.setIfInBounds_toArray, List.set_cons_zero, List.set_cons_succ]
  refine takeH (fuel := 21) (i := 1) (v := .int .i64 12) rfl (by kernel_rfl) (by kernel_rfl) (by kernel_rfl) (fun _ _ _ h => h) (Or.inl ⟨rfl, fun W hW => by have c0 := HM0.out W hW.1; go_simp⟩) hS ?_
  simp only [Act.put, List.setIfInBounds_toArray, List.set_cons_zero, List.set_cons_succ]
  refine takeH (fuel := 20) (i := 2) (v := .bool false) rfl (by kernel_rfl) (by kernel_rfl) (by kernel_rfl) (fun _ _ _ h => h) (Or.inl ⟨rfl, fun W hW => by go_simp⟩) hS ?_
  simp only [Act.put, List.setIfInBounds_toArray, List.set_cons_zero, List.set_cons_succ]
  refine takeH (fuel := 19) (i := 3) (v := .bool false) rfl (by kernel_rfl) (by kernel_rfl) (by kernel_rfl) (fun _ _ _ h => h) (Or.inl ⟨rfl, fun _ _ => rfl⟩) hS ?_
  simp only [Act.put, List.setIfInBounds_toArray, List.set_cons_zero, List.set_cons_succ]
  refine takeH (fuel := 18) (i := 4) (v := .pointer (some ⟨w.heap.size, 0, none⟩)) rfl (by kernel_rfl) (by kernel_rfl) (by kernel_rfl) (fun _ _ _ h => h) (Or.inl ⟨rfl, fun W hW => by go_simp⟩) hS ?_
  simp only [Act.put, List.setIfInBounds_toArray, List.set_cons_zero, List.set_cons_succ]
  refine takeH (fuel := 17) (i := 5) (v := .int .i64 12) rfl (by kernel_rfl) (by kernel_rfl) (by kernel_rfl) (fun _ _ _ h => h) (Or.inl ⟨rfl, fun W hW => by have c0 := HM0.out W hW.1; go_simp⟩) hS ?_
  simp only [Act.put, List.setIfInBounds_toArray, List.set_cons_zero, List.set_cons_succ]
  refine takeH (fuel := 16) (i := 6) (v := .bool false) rfl (by kernel_rfl) (by kernel_rfl) (by kernel_rfl) (fun _ _ _ h => h) (Or.inl ⟨rfl, fun W hW => by go_simp⟩) hS ?_
  simp only [Act.put, List.setIfInBounds_toArray, List.set_cons_zero, List.set_cons_succ]
  refine takeH (fuel := 15) (i := 7) (v := .bool false) rfl (by kernel_rfl) (by kernel_rfl) (by kernel_rfl) (fun _ _ _ h => h) (Or.inl ⟨rfl, fun _ _ => rfl⟩) hS ?_
  simp only [Act.put, List.setIfInBounds_toArray, List.set_cons_zero, List.set_cons_succ]
  refine takeH (fuel := 14) (i := 8) (v := .bool false) rfl (by kernel_rfl) (by kernel_rfl) (by kernel_rfl) (fun _ _ _ h => h) (Or.inl ⟨rfl, fun _ _ => rfl⟩) hS ?_
  simp only [Act.put, List.setIfInBounds_toArray, List.set_cons_zero, List.set_cons_succ]
  refine takeH (fuel := 13) (i := 9) (v := .iface 92 (.agg #[.int .i64 x0, .int .i64 x1, .bool x2])) rfl (by kernel_rfl) (by kernel_rfl) (by kernel_rfl) (fun _ _ _ h => h) (Or.inl ⟨rfl, fun _ _ => rfl⟩) hS ?_
  simp only [Act.put, List.setIfInBounds_toArray, List.set_cons_zero, List.set_cons_succ]
  refine takeH (fuel := 12) (i := 10) (v := .bool true) rfl (by kernel_rfl) (by kernel_rfl) (by kernel_rfl) (fun _ _ _ h => h) (Or.inl ⟨rfl, fun W hW => by go_simp⟩) hS ?_
  simp only [Act.put, List.setIfInBounds_toArray, List.set_cons_zero, List.set_cons_succ]
  refine takeH (fuel := 11) (i := 11) (v := .bool true) rfl (by kernel_rfl) (by kernel_rfl) (by kernel_rfl) (fun _ _ _ h => h) (Or.inl ⟨rfl, fun _ _ => rfl⟩) hS ?_
  simp only [Act.put, List.setIfInBounds_toArray, List.set_cons_zero, List.set_cons_succ]
  refine takeH (fuel := 10) (i := 12) (v := .iface 92 (.agg #[.int .i64 x0, .int .i64 x1, .bool x2])) rfl (by kernel_rfl) (by kernel_rfl) (by kernel_rfl) (fun _ _ _ h => h) (Or.inl ⟨rfl, fun _ _ => rfl⟩) hS ?_
  simp only [Act.put, List.setIfInBounds_toArray, List.set_cons_zero, List.set_cons_succ]
  refine takeH (fuel := 9) (i := 14) (v := .pointer (some ⟨w.heap.size, 0, none⟩)) rfl (by kernel_rfl) (by kernel_rfl) (by kernel_rfl) (fun _ _ _ h => h) (Or.inl ⟨rfl, fun W hW => by go_simp⟩) hS ?_
  simp only [Act.put, List.setIfInBounds_toArray, List.set_cons_zero, List.set_cons_succ]
  refine takeH (fuel := 8) (i := 15) (v := .int .i64 12) rfl (by kernel_rfl) (by kernel_rfl) (by kernel_rfl) (fun _ _ _ h => h) (Or.inl ⟨rfl, fun W hW => by have c0 := HM0.out W hW.1; go_simp⟩) hS ?_
  simp only [Act.put, List.setIfInBounds_toArray, List.set_cons_zero, List.set_cons_succ]
  refine consH (fuel := 7) (i := 13) rfl (by kernel_rfl) (fun K hK => ?_)
  rw [if_pos (by rfl)]
  go_simp
  refine (kind12 x0 x1 x2 _).mono ?_
  rintro e w8 ⟨rfl, hb8⟩
  refine hK.out _ _ ⟨hS.1.keep hb8.out, bt hS.2 hb8.out⟩ (fun hS8 => ?_)
  clear hK
  try simp only [Act.put, List.setIfInBounds_toArray, List.set_cons_zero, List.set_cons_succ]
  refine takeH (fuel := 6) (i := 16) (v := .bool true) rfl (by kernel_rfl) (by kernel_rfl) (by kernel_rfl) (fun _ _ _ h => h) (Or.inl ⟨rfl, fun W hW => by go_simp⟩) hS8 ?_
  simp only [Act.put, List.setIfInBounds_toArray, List.set_cons_zero, List.set_cons_succ]
  refine takeH (fuel := 5) (i := 17) (v := .bool true) rfl (by kernel_rfl) (by kernel_rfl) (by kernel_rfl) (fun _ _ _ h => h) (Or.inl ⟨rfl, fun _ _ => rfl⟩) hS8 ?_
  simp only [Act.put, List.setIfInBounds_toArray, List.set_cons_zero, List.set_cons_succ]
  refine takeH (fuel := 4) (i := 18) (v := .bool true) rfl (by kernel_rfl) (by kernel_rfl) (by kernel_rfl) (fun _ _ _ h => h) (Or.inl ⟨rfl, fun _ _ => rfl⟩) hS8 ?_
  simp only [Act.put, List.setIfInBounds_toArray, List.set_cons_zero, List.set_cons_succ]
  refine takeH (fuel := 3) (i := 19) (v := .bool true) rfl (by kernel_rfl) (by kernel_rfl) (by kernel_rfl) (fun _ _ _ h => h) (Or.inl ⟨rfl, fun _ _ => rfl⟩) hS8 ?_
  simp only [Act.put, List.setIfInBounds_toArray, List.set_cons_zero, List.set_cons_succ]
  refine consH (fuel := 2) (i := 20) rfl (by kernel_rfl) (fun K hK => ?_)
  rw [if_pos (by rfl)]
  go_simp
  refine (awake _).mono ?_
  rintro e w9 ⟨rfl, hb9⟩
  refine hK.out _ _ ⟨hS8.1.keep hb9.out, bt hS8.2 hb9.out⟩ (fun hS9 => ?_)
  clear hK
  try simp only [Act.put, List.setIfInBounds_toArray, List.set_cons_zero, List.set_cons_succ]
  refine takeH (fuel := 1) (i := 21) (v := .bool true) rfl (by kernel_rfl) (by kernel_rfl) (by kernel_rfl) (fun _ _ _ h => h) (Or.inl ⟨rfl, fun _ _ => rfl⟩) hS9 ?_
  simp only [Act.put, List.setIfInBounds_toArray, List.set_cons_zero, List.set_cons_succ]
  refine takeH (fuel := 0) (i := 22) (v := .bool true) rfl (by kernel_rfl) (by kernel_rfl) (by kernel_rfl) (fun _ _ _ h => h) (Or.inl ⟨rfl, fun _ _ => rfl⟩) hS9 ?_
  simp only [Act.put, List.setIfInBounds_toArray, List.set_cons_zero, List.set_cons_succ]
  refine wpAnyH_done (by kernel_rfl) ?_ _
  have HB9 : Hid (Below w.heap.size w w9) := hS9.2
  clear hS hS8 hS9
  go_wp2_with fail
  go_ret
  exact KP.mk rfl HB9.out
set_option maxHeartbeats 8000000 in
theorem lChecks13 (M : Array Value) (hsz : M.size = 36) (x0 : Int)  (hM0 : M[0]? = some (.int .i64 13)) (w : World) (cv : Nat) (sv : Int)
    (hsm : ∀ W, Calls Tryz.prog 9 #[.agg M] W (KP (.bool true) W)) (hof : ∀ W, Calls Tryz.prog 11 #[.agg M] W (KP (.iface 94 (.agg #[.int .i64 x0])) W))
    (h12 : ∀ W, Below w.heap.size w W → Calls Tryz.prog 12 #[.iface 94 (.agg #[.int .i64 x0])] W (KP (.int .i64 cv) W)) (h13 : ∀ W, Below w.heap.size w W → Calls Tryz.prog 13 #[.agg M] W (KP (.int .i64 cv) W))
    (h14 : ∀ W, Calls Tryz.prog 14 #[.iface 94 (.agg #[.int .i64 x0])] W (KP (.int .i64 sv) W)) (h15 : ∀ W, Calls Tryz.prog 15 #[.agg M] W (KP (.int .i64 sv) W)) : Calls Tryz.prog 3 #[.agg M] w (KP (.bool true) w) := by
  have HOF : Hid (∀ W, Calls Tryz.prog 11 #[.agg M] W (KP (.iface 94 (.agg #[.int .i64 x0])) W)) := hof
  have H12 : Hid (∀ W, Below w.heap.size w W → Calls Tryz.prog 12 #[.iface 94 (.agg #[.int .i64 x0])] W (KP (.int .i64 cv) W)) := h12
  have H13 : Hid (∀ W, Below w.heap.size w W → Calls Tryz.prog 13 #[.agg M] W (KP (.int .i64 cv) W)) := h13
  have H14 : Hid (∀ W, Calls Tryz.prog 14 #[.iface 94 (.agg #[.int .i64 x0])] W (KP (.int .i64 sv) W)) := h14
  have H15 : Hid (∀ W, Calls Tryz.prog 15 #[.agg M] W (KP (.int .i64 sv) W)) := h15
  have HSM : Hid (∀ W, Calls Tryz.prog 9 #[.agg M] W (KP (.bool true) W)) := hsm
  have HM0 : Hid (∀ W, Bx W w.heap.size M 35 → W.cell? ⟨w.heap.size, 0, none⟩ = some (.int .i64 13)) := fun W h => (h.cell 0).trans hM0
  have HX0 : Hid (Bx (w.alloc (.cells M 35)) w.heap.size M 35) := Bx.new _ _ _
  have HB0 : Hid (Below w.heap.size w (w.alloc (.cells M 35))) := below_a w _
  have HLD : Hid (∀ W, Bx W w.heap.size M 35 → (Instr.loadAt 35 (.pointer (some ⟨w.heap.size, 0, none⟩))).run Tryz.prog W = .ok (.agg M) W) := fun W h => hloadAt W w.heap.size M hsz h
  clear hof h12 h13 h14 h15 hsm hM0
  go_enter Tryz.func3, Tryz.ntmps3
  go_upto_region 1 with fail
  generalize hw1 : w.alloc (.cells M 35) = w1 at *
  have HX : Hid (Bx w1 w.heap.size M 35) := HX0.out
  have HB : Hid (Below w.heap.size w w1) := HB0.out
  clear HX0 HB0 hw1
  go_wp2_with (guard_target =~ wpList _ _ _ (⟨_, Op.load 35 _, _, _, _, _⟩ :: _) _ _; refine wl_load _ rfl 35 _ rfl _ rfl _ (HLD.out _ HX.out) ?_; go_simp)
  refine (HSM.out _).mono ?_
  rintro e w2 ⟨rfl, hb2⟩
  have HX2 : Hid (Bx w2 w.heap.size M 35) := HX.out.keep hb2.out
  have HB2 : Hid (Below w.heap.size w w2) := bt HB.out hb2.out
  clear hb2 HX HB HSM
  go_wp2_with (guard_target =~ wpList _ _ _ (⟨_, Op.load 35 _, _, _, _, _⟩ :: _) _ _; refine wl_load _ rfl 35 _ rfl _ rfl _ (HLD.out _ HX2.out) ?_; go_simp)
  refine (HOF.out _).mono ?_
  rintro e w3 ⟨rfl, hb3⟩
  have HX3 : Hid (Bx w3 w.heap.size M 35) := HX2.out.keep hb3.out
  have HB3 : Hid (Below w.heap.size w w3) := bt HB2.out hb3.out
  clear hb3 HX2 HB2 HOF
  go_wp2_with fail
  refine wp_region_held (S := fun W => Bx W w.heap.size M 35 ∧ Below w.heap.size w W) (by kernel_rfl) ?_
  change wpAnyH _ _ _ _ _ 12 #[false, false, false, false, false, false, false, false, false, false, false, false] _ _
  have hS : Bx w3.drew w.heap.size M 35 ∧ Below w.heap.size w w3.drew := ⟨HX3.out, bdrw HB3.out 1⟩
  clear HX3 HB3
  refine takeH (fuel := 11) (i := 0) (v := .iface 94 (.agg #[.int .i64 x0])) rfl (by kernel_rfl) (by kernel_rfl) (by kernel_rfl) (fun _ _ _ h => h) (Or.inl ⟨rfl, fun _ _ => rfl⟩) hS ?_
  simp only [Act.put, List.setIfInBounds_toArray, List.set_cons_zero, List.set_cons_succ]
  refine takeH (fuel := 10) (i := 2) (v := .agg M) rfl (by kernel_rfl) (by kernel_rfl) (by kernel_rfl) (fun _ _ _ h => h) (Or.inl ⟨rfl, fun W hW => ex_load _ _ _ _ rfl _ _ rfl (HLD.out W hW.1)⟩) hS ?_
  simp only [Act.put, List.setIfInBounds_toArray, List.set_cons_zero, List.set_cons_succ]
  refine consH (fuel := 9) (i := 1) rfl (by kernel_rfl) (fun K hK => ?_)
  rw [if_pos (by rfl)]
  go_simp
  refine (H12.out _ hS.2).mono ?_
  rintro e w4 ⟨rfl, hb4⟩
  refine hK.out _ _ ⟨hS.1.keep hb4.out, bt hS.2 hb4.out⟩ (fun hS4 => ?_)
  clear hK
  try simp only [Act.put, List.setIfInBounds_toArray, List.set_cons_zero, List.set_cons_succ]
  refine consH (fuel := 8) (i := 3) rfl (by kernel_rfl) (fun K hK => ?_)
  rw [if_pos (by rfl)]
  go_simp
  refine (H13.out _ hS4.2).mono ?_
  rintro e w5 ⟨rfl, hb5⟩
  refine hK.out _ _ ⟨hS4.1.keep hb5.out, bt hS4.2 hb5.out⟩ (fun hS5 => ?_)
  clear hK
  try simp only [Act.put, List.setIfInBounds_toArray, List.set_cons_zero, List.set_cons_succ]
  refine takeH (fuel := 7) (i := 4) (v := .bool false) rfl (by kernel_rfl) (by kernel_rfl) (by kernel_rfl) (fun _ _ _ h => h) (Or.inl ⟨rfl, fun W hW => by go_simp⟩) hS5 ?_
  simp only [Act.put, List.setIfInBounds_toArray, List.set_cons_zero, List.set_cons_succ]
  refine takeH (fuel := 6) (i := 5) (v := .bool false) rfl (by kernel_rfl) (by kernel_rfl) (by kernel_rfl) (fun _ _ _ h => h) (Or.inl ⟨rfl, fun _ _ => rfl⟩) hS5 ?_
  simp only [Act.put, List.setIfInBounds_toArray, List.set_cons_zero, List.set_cons_succ]
  refine takeH (fuel := 5) (i := 6) (v := .iface 94 (.agg #[.int .i64 x0])) rfl (by kernel_rfl) (by kernel_rfl) (by kernel_rfl) (fun _ _ _ h => h) (Or.inl ⟨rfl, fun _ _ => rfl⟩) hS5 ?_
  simp only [Act.put, List.setIfInBounds_toArray, List.set_cons_zero, List.set_cons_succ]
  refine takeH (fuel := 4) (i := 8) (v := .agg M) rfl (by kernel_rfl) (by kernel_rfl) (by kernel_rfl) (fun _ _ _ h => h) (Or.inl ⟨rfl, fun W hW => ex_load _ _ _ _ rfl _ _ rfl (HLD.out W hW.1)⟩) hS5 ?_
  simp only [Act.put, List.setIfInBounds_toArray, List.set_cons_zero, List.set_cons_succ]
  refine consH (fuel := 3) (i := 7) rfl (by kernel_rfl) (fun K hK => ?_)
  rw [if_pos (by rfl)]
  go_simp
  refine (H14.out _).mono ?_
  rintro e w6 ⟨rfl, hb6⟩
  refine hK.out _ _ ⟨hS5.1.keep hb6.out, bt hS5.2 hb6.out⟩ (fun hS6 => ?_)
  clear hK
  try simp only [Act.put, List.setIfInBounds_toArray, List.set_cons_zero, List.set_cons_succ]
  refine consH (fuel := 2) (i := 9) rfl (by kernel_rfl) (fun K hK => ?_)
  rw [if_pos (by rfl)]
  go_simp
  refine (H15.out _).mono ?_
  rintro e w7 ⟨rfl, hb7⟩
  refine hK.out _ _ ⟨hS6.1.keep hb7.out, bt hS6.2 hb7.out⟩ (fun hS7 => ?_)
  clear hK
  try simp only [Act.put, List.setIfInBounds_toArray, List.set_cons_zero, List.set_cons_succ]
  refine takeH (fuel := 1) (i := 10) (v := .bool false) rfl (by kernel_rfl) (by kernel_rfl) (by kernel_rfl) (fun _ _ _ h => h) (Or.inl ⟨rfl, fun W hW => by go_simp⟩) hS7 ?_
  simp only [Act.put, List.setIfInBounds_toArray, List.set_cons_zero, List.set_cons_succ]
  refine takeH (fuel := 0) (i := 11) (v := .bool false) rfl (by kernel_rfl) (by kernel_rfl) (by kernel_rfl) (fun _ _ _ h => h) (Or.inl ⟨rfl, fun _ _ => rfl⟩) hS7 ?_
  simp only [Act.put, List.setIfInBounds_toArray, List.set_cons_zero, List.set_cons_succ]
  refine wpAnyH_done (by kernel_rfl) ?_ _
  have HX7 : Hid (Bx w7 w.heap.size M 35) := hS7.1
  have HB7 : Hid (Below w.heap.size w w7) := hS7.2
  clear hS hS4 hS5 hS6 hS7 hb4 hb5 hb6 hb7 H12 H13 H14 H15
  go_wp2_with fail
  refine wp_region_held (S := fun W => Bx W w.heap.size M 35 ∧ Below w.heap.size w W) (by kernel_rfl) ?_
  change wpAnyH _ _ _ _ _ 23 #[false, false, false, false, false, false, false, false, false, false, false, false, false, false, false, false, false, false, false, false, false, false, false] _ _
  have hS : Bx w7.drew w.heap.size M 35 ∧ Below w.heap.size w w7.drew := ⟨HX7.out, bdrw HB7.out 1⟩
  clear HX7 HB7
  refine takeH (fuel := 22) (i := 0) (v := .pointer (some ⟨w.heap.size, 0, none⟩)) rfl (by kernel_rfl) (by kernel_rfl) (by kernel_rfl) (fun _ _ _ h => h) (Or.inl ⟨rfl, fun W hW => by go_simp⟩) hS ?_
  simp only [Act.put, List.setIfInBounds_toArray, List.set_cons_zero, List.set_cons_succ]
  refine takeH (fuel := 21) (i := 1) (v := .int .i64 13) rfl (by kernel_rfl) (by kernel_rfl) (by kernel_rfl) (fun _ _ _ h => h) (Or.inl ⟨rfl, fun W hW => by have c0 := HM0.out W hW.1; go_simp⟩) hS ?_
  simp only [Act.put, List.setIfInBounds_toArray, List.set_cons_zero, List.set_cons_succ]
  refine takeH (fuel := 20) (i := 2) (v := .bool false) rfl (by kernel_rfl) (by kernel_rfl) (by kernel_rfl) (fun _ _ _ h => h) (Or.inl ⟨rfl, fun W hW => by go_simp⟩) hS ?_
  simp only [Act.put, List.setIfInBounds_toArray, List.set_cons_zero, List.set_cons_succ]
  refine takeH (fuel := 19) (i := 3) (v := .bool false) rfl (by kernel_rfl) (by kernel_rfl) (by kernel_rfl) (fun _ _ _ h => h) (Or.inl ⟨rfl, fun _ _ => rfl⟩) hS ?_
  simp only [Act.put, List.setIfInBounds_toArray, List.set_cons_zero, List.set_cons_succ]
  refine takeH (fuel := 18) (i := 4) (v := .pointer (some ⟨w.heap.size, 0, none⟩)) rfl (by kernel_rfl) (by kernel_rfl) (by kernel_rfl) (fun _ _ _ h => h) (Or.inl ⟨rfl, fun W hW => by go_simp⟩) hS ?_
  simp only [Act.put, List.setIfInBounds_toArray, List.set_cons_zero, List.set_cons_succ]
  refine takeH (fuel := 17) (i := 5) (v := .int .i64 13) rfl (by kernel_rfl) (by kernel_rfl) (by kernel_rfl) (fun _ _ _ h => h) (Or.inl ⟨rfl, fun W hW => by have c0 := HM0.out W hW.1; go_simp⟩) hS ?_
  simp only [Act.put, List.setIfInBounds_toArray, List.set_cons_zero, List.set_cons_succ]
  refine takeH (fuel := 16) (i := 6) (v := .bool false) rfl (by kernel_rfl) (by kernel_rfl) (by kernel_rfl) (fun _ _ _ h => h) (Or.inl ⟨rfl, fun W hW => by go_simp⟩) hS ?_
  simp only [Act.put, List.setIfInBounds_toArray, List.set_cons_zero, List.set_cons_succ]
  refine takeH (fuel := 15) (i := 7) (v := .bool false) rfl (by kernel_rfl) (by kernel_rfl) (by kernel_rfl) (fun _ _ _ h => h) (Or.inl ⟨rfl, fun _ _ => rfl⟩) hS ?_
  simp only [Act.put, List.setIfInBounds_toArray, List.set_cons_zero, List.set_cons_succ]
  refine takeH (fuel := 14) (i := 8) (v := .bool false) rfl (by kernel_rfl) (by kernel_rfl) (by kernel_rfl) (fun _ _ _ h => h) (Or.inl ⟨rfl, fun _ _ => rfl⟩) hS ?_
  simp only [Act.put, List.setIfInBounds_toArray, List.set_cons_zero, List.set_cons_succ]
  refine takeH (fuel := 13) (i := 9) (v := .iface 94 (.agg #[.int .i64 x0])) rfl (by kernel_rfl) (by kernel_rfl) (by kernel_rfl) (fun _ _ _ h => h) (Or.inl ⟨rfl, fun _ _ => rfl⟩) hS ?_
  simp only [Act.put, List.setIfInBounds_toArray, List.set_cons_zero, List.set_cons_succ]
  refine takeH (fuel := 12) (i := 10) (v := .bool true) rfl (by kernel_rfl) (by kernel_rfl) (by kernel_rfl) (fun _ _ _ h => h) (Or.inl ⟨rfl, fun W hW => by go_simp⟩) hS ?_
  simp only [Act.put, List.setIfInBounds_toArray, List.set_cons_zero, List.set_cons_succ]
  refine takeH (fuel := 11) (i := 11) (v := .bool true) rfl (by kernel_rfl) (by kernel_rfl) (by kernel_rfl) (fun _ _ _ h => h) (Or.inl ⟨rfl, fun _ _ => rfl⟩) hS ?_
  simp only [Act.put, List.setIfInBounds_toArray, List.set_cons_zero, List.set_cons_succ]
  refine takeH (fuel := 10) (i := 12) (v := .iface 94 (.agg #[.int .i64 x0])) rfl (by kernel_rfl) (by kernel_rfl) (by kernel_rfl) (fun _ _ _ h => h) (Or.inl ⟨rfl, fun _ _ => rfl⟩) hS ?_
  simp only [Act.put, List.setIfInBounds_toArray, List.set_cons_zero, List.set_cons_succ]
  refine takeH (fuel := 9) (i := 14) (v := .pointer (some ⟨w.heap.size, 0, none⟩)) rfl (by kernel_rfl) (by kernel_rfl) (by kernel_rfl) (fun _ _ _ h => h) (Or.inl ⟨rfl, fun W hW => by go_simp⟩) hS ?_
  simp only [Act.put, List.setIfInBounds_toArray, List.set_cons_zero, List.set_cons_succ]
  refine takeH (fuel := 8) (i := 15) (v := .int .i64 13) rfl (by kernel_rfl) (by kernel_rfl) (by kernel_rfl) (fun _ _ _ h => h) (Or.inl ⟨rfl, fun W hW => by have c0 := HM0.out W hW.1; go_simp⟩) hS ?_
  simp only [Act.put, List.setIfInBounds_toArray, List.set_cons_zero, List.set_cons_succ]
  refine consH (fuel := 7) (i := 13) rfl (by kernel_rfl) (fun K hK => ?_)
  rw [if_pos (by rfl)]
  go_simp
  refine (kind13 x0 _).mono ?_
  rintro e w8 ⟨rfl, hb8⟩
  refine hK.out _ _ ⟨hS.1.keep hb8.out, bt hS.2 hb8.out⟩ (fun hS8 => ?_)
  clear hK
  try simp only [Act.put, List.setIfInBounds_toArray, List.set_cons_zero, List.set_cons_succ]
  refine takeH (fuel := 6) (i := 16) (v := .bool true) rfl (by kernel_rfl) (by kernel_rfl) (by kernel_rfl) (fun _ _ _ h => h) (Or.inl ⟨rfl, fun W hW => by go_simp⟩) hS8 ?_
  simp only [Act.put, List.setIfInBounds_toArray, List.set_cons_zero, List.set_cons_succ]
  refine takeH (fuel := 5) (i := 17) (v := .bool true) rfl (by kernel_rfl) (by kernel_rfl) (by kernel_rfl) (fun _ _ _ h => h) (Or.inl ⟨rfl, fun _ _ => rfl⟩) hS8 ?_
  simp only [Act.put, List.setIfInBounds_toArray, List.set_cons_zero, List.set_cons_succ]
  refine takeH (fuel := 4) (i := 18) (v := .bool true) rfl (by kernel_rfl) (by kernel_rfl) (by kernel_rfl) (fun _ _ _ h => h) (Or.inl ⟨rfl, fun _ _ => rfl⟩) hS8 ?_
  simp only [Act.put, List.setIfInBounds_toArray, List.set_cons_zero, List.set_cons_succ]
  refine takeH (fuel := 3) (i := 19) (v := .bool true) rfl (by kernel_rfl) (by kernel_rfl) (by kernel_rfl) (fun _ _ _ h => h) (Or.inl ⟨rfl, fun _ _ => rfl⟩) hS8 ?_
  simp only [Act.put, List.setIfInBounds_toArray, List.set_cons_zero, List.set_cons_succ]
  refine consH (fuel := 2) (i := 20) rfl (by kernel_rfl) (fun K hK => ?_)
  rw [if_pos (by rfl)]
  go_simp
  refine (awake _).mono ?_
  rintro e w9 ⟨rfl, hb9⟩
  refine hK.out _ _ ⟨hS8.1.keep hb9.out, bt hS8.2 hb9.out⟩ (fun hS9 => ?_)
  clear hK
  try simp only [Act.put, List.setIfInBounds_toArray, List.set_cons_zero, List.set_cons_succ]
  refine takeH (fuel := 1) (i := 21) (v := .bool true) rfl (by kernel_rfl) (by kernel_rfl) (by kernel_rfl) (fun _ _ _ h => h) (Or.inl ⟨rfl, fun _ _ => rfl⟩) hS9 ?_
  simp only [Act.put, List.setIfInBounds_toArray, List.set_cons_zero, List.set_cons_succ]
  refine takeH (fuel := 0) (i := 22) (v := .bool true) rfl (by kernel_rfl) (by kernel_rfl) (by kernel_rfl) (fun _ _ _ h => h) (Or.inl ⟨rfl, fun _ _ => rfl⟩) hS9 ?_
  simp only [Act.put, List.setIfInBounds_toArray, List.set_cons_zero, List.set_cons_succ]
  refine wpAnyH_done (by kernel_rfl) ?_ _
  have HB9 : Hid (Below w.heap.size w w9) := hS9.2
  clear hS hS8 hS9
  go_wp2_with fail
  go_ret
  exact KP.mk rfl HB9.out
set_option maxHeartbeats 8000000 in
theorem lChecks14 (M : Array Value) (hsz : M.size = 36) (x0 : Int) (x1 : Int)  (hM0 : M[0]? = some (.int .i64 14)) (w : World) (cv : Nat) (sv : Int)
    (hsm : ∀ W, Calls Tryz.prog 9 #[.agg M] W (KP (.bool true) W)) (hof : ∀ W, Calls Tryz.prog 11 #[.agg M] W (KP (.iface 96 (.agg #[.int .i64 x0, .int .i64 x1])) W))
    (h12 : ∀ W, Below w.heap.size w W → Calls Tryz.prog 12 #[.iface 96 (.agg #[.int .i64 x0, .int .i64 x1])] W (KP (.int .i64 cv) W)) (h13 : ∀ W, Below w.heap.size w W → Calls Tryz.prog 13 #[.agg M] W (KP (.int .i64 cv) W))
    (h14 : ∀ W, Calls Tryz.prog 14 #[.iface 96 (.agg #[.int .i64 x0, .int .i64 x1])] W (KP (.int .i64 sv) W)) (h15 : ∀ W, Calls Tryz.prog 15 #[.agg M] W (KP (.int .i64 sv) W)) : Calls Tryz.prog 3 #[.agg M] w (KP (.bool true) w) := by
  have HOF : Hid (∀ W, Calls Tryz.prog 11 #[.agg M] W (KP (.iface 96 (.agg #[.int .i64 x0, .int .i64 x1])) W)) := hof
  have H12 : Hid (∀ W, Below w.heap.size w W → Calls Tryz.prog 12 #[.iface 96 (.agg #[.int .i64 x0, .int .i64 x1])] W (KP (.int .i64 cv) W)) := h12
  have H13 : Hid (∀ W, Below w.heap.size w W → Calls Tryz.prog 13 #[.agg M] W (KP (.int .i64 cv) W)) := h13
  have H14 : Hid (∀ W, Calls Tryz.prog 14 #[.iface 96 (.agg #[.int .i64 x0, .int .i64 x1])] W (KP (.int .i64 sv) W)) := h14
  have H15 : Hid (∀ W, Calls Tryz.prog 15 #[.agg M] W (KP (.int .i64 sv) W)) := h15
  have HSM : Hid (∀ W, Calls Tryz.prog 9 #[.agg M] W (KP (.bool true) W)) := hsm
  have HM0 : Hid (∀ W, Bx W w.heap.size M 35 → W.cell? ⟨w.heap.size, 0, none⟩ = some (.int .i64 14)) := fun W h => (h.cell 0).trans hM0
  have HX0 : Hid (Bx (w.alloc (.cells M 35)) w.heap.size M 35) := Bx.new _ _ _
  have HB0 : Hid (Below w.heap.size w (w.alloc (.cells M 35))) := below_a w _
  have HLD : Hid (∀ W, Bx W w.heap.size M 35 → (Instr.loadAt 35 (.pointer (some ⟨w.heap.size, 0, none⟩))).run Tryz.prog W = .ok (.agg M) W) := fun W h => hloadAt W w.heap.size M hsz h
  clear hof h12 h13 h14 h15 hsm hM0
  go_enter Tryz.func3, Tryz.ntmps3
  go_upto_region 1 with fail
  generalize hw1 : w.alloc (.cells M 35) = w1 at *
  have HX : Hid (Bx w1 w.heap.size M 35) := HX0.out
  have HB : Hid (Below w.heap.size w w1) := HB0.out
  clear HX0 HB0 hw1
  go_wp2_with (guard_target =~ wpList _ _ _ (⟨_, Op.load 35 _, _, _, _, _⟩ :: _) _ _; refine wl_load _ rfl 35 _ rfl _ rfl _ (HLD.out _ HX.out) ?_; go_simp)
  refine (HSM.out _).mono ?_
  rintro e w2 ⟨rfl, hb2⟩
  have HX2 : Hid (Bx w2 w.heap.size M 35) := HX.out.keep hb2.out
  have HB2 : Hid (Below w.heap.size w w2) := bt HB.out hb2.out
  clear hb2 HX HB HSM
  go_wp2_with (guard_target =~ wpList _ _ _ (⟨_, Op.load 35 _, _, _, _, _⟩ :: _) _ _; refine wl_load _ rfl 35 _ rfl _ rfl _ (HLD.out _ HX2.out) ?_; go_simp)
  refine (HOF.out _).mono ?_
  rintro e w3 ⟨rfl, hb3⟩
  have HX3 : Hid (Bx w3 w.heap.size M 35) := HX2.out.keep hb3.out
  have HB3 : Hid (Below w.heap.size w w3) := bt HB2.out hb3.out
  clear hb3 HX2 HB2 HOF
  go_wp2_with fail
  refine wp_region_held (S := fun W => Bx W w.heap.size M 35 ∧ Below w.heap.size w W) (by kernel_rfl) ?_
  change wpAnyH _ _ _ _ _ 12 #[false, false, false, false, false, false, false, false, false, false, false, false] _ _
  have hS : Bx w3.drew w.heap.size M 35 ∧ Below w.heap.size w w3.drew := ⟨HX3.out, bdrw HB3.out 1⟩
  clear HX3 HB3
  refine takeH (fuel := 11) (i := 0) (v := .iface 96 (.agg #[.int .i64 x0, .int .i64 x1])) rfl (by kernel_rfl) (by kernel_rfl) (by kernel_rfl) (fun _ _ _ h => h) (Or.inl ⟨rfl, fun _ _ => rfl⟩) hS ?_
  simp only [Act.put, List.setIfInBounds_toArray, List.set_cons_zero, List.set_cons_succ]
  refine takeH (fuel := 10) (i := 2) (v := .agg M) rfl (by kernel_rfl) (by kernel_rfl) (by kernel_rfl) (fun _ _ _ h => h) (Or.inl ⟨rfl, fun W hW => ex_load _ _ _ _ rfl _ _ rfl (HLD.out W hW.1)⟩) hS ?_
  simp only [Act.put, List.setIfInBounds_toArray, List.set_cons_zero, List.set_cons_succ]
  refine consH (fuel := 9) (i := 1) rfl (by kernel_rfl) (fun K hK => ?_)
  rw [if_pos (by rfl)]
  go_simp
  refine (H12.out _ hS.2).mono ?_
  rintro e w4 ⟨rfl, hb4⟩
  refine hK.out _ _ ⟨hS.1.keep hb4.out, bt hS.2 hb4.out⟩ (fun hS4 => ?_)
  clear hK
  try simp only [Act.put, List.setIfInBounds_toArray, List.set_cons_zero, List.set_cons_succ]
  refine consH (fuel := 8) (i := 3) rfl (by kernel_rfl) (fun K hK => ?_)
  rw [if_pos (by rfl)]
  go_simp
  refine (H13.out _ hS4.2).mono ?_
  rintro e w5 ⟨rfl, hb5⟩
  refine hK.out _ _ ⟨hS4.1.keep hb5.out, bt hS4.2 hb5.out⟩ (fun hS5 => ?_)
  clear hK
  try simp only [Act.put, List.setIfInBounds_toArray, List.set_cons_zero, List.set_cons_succ]
  refine takeH (fuel := 7) (i := 4) (v := .bool false) rfl (by kernel_rfl) (by kernel_rfl) (by kernel_rfl) (fun _ _ _ h => h) (Or.inl ⟨rfl, fun W hW => by go_simp⟩) hS5 ?_
  simp only [Act.put, List.setIfInBounds_toArray, List.set_cons_zero, List.set_cons_succ]
  refine takeH (fuel := 6) (i := 5) (v := .bool false) rfl (by kernel_rfl) (by kernel_rfl) (by kernel_rfl) (fun _ _ _ h => h) (Or.inl ⟨rfl, fun _ _ => rfl⟩) hS5 ?_
  simp only [Act.put, List.setIfInBounds_toArray, List.set_cons_zero, List.set_cons_succ]
  refine takeH (fuel := 5) (i := 6) (v := .iface 96 (.agg #[.int .i64 x0, .int .i64 x1])) rfl (by kernel_rfl) (by kernel_rfl) (by kernel_rfl) (fun _ _ _ h => h) (Or.inl ⟨rfl, fun _ _ => rfl⟩) hS5 ?_
  simp only [Act.put, List.setIfInBounds_toArray, List.set_cons_zero, List.set_cons_succ]
  refine takeH (fuel := 4) (i := 8) (v := .agg M) rfl (by kernel_rfl) (by kernel_rfl) (by kernel_rfl) (fun _ _ _ h => h) (Or.inl ⟨rfl, fun W hW => ex_load _ _ _ _ rfl _ _ rfl (HLD.out W hW.1)⟩) hS5 ?_
  simp only [Act.put, List.setIfInBounds_toArray, List.set_cons_zero, List.set_cons_succ]
  refine consH (fuel := 3) (i := 7) rfl (by kernel_rfl) (fun K hK => ?_)
  rw [if_pos (by rfl)]
  go_simp
  refine (H14.out _).mono ?_
  rintro e w6 ⟨rfl, hb6⟩
  refine hK.out _ _ ⟨hS5.1.keep hb6.out, bt hS5.2 hb6.out⟩ (fun hS6 => ?_)
  clear hK
  try simp only [Act.put, List.setIfInBounds_toArray, List.set_cons_zero, List.set_cons_succ]
  refine consH (fuel := 2) (i := 9) rfl (by kernel_rfl) (fun K hK => ?_)
  rw [if_pos (by rfl)]
  go_simp
  refine (H15.out _).mono ?_
  rintro e w7 ⟨rfl, hb7⟩
  refine hK.out _ _ ⟨hS6.1.keep hb7.out, bt hS6.2 hb7.out⟩ (fun hS7 => ?_)
  clear hK
  try simp only [Act.put, List.setIfInBounds_toArray, List.set_cons_zero, List.set_cons_succ]
  refine takeH (fuel := 1) (i := 10) (v := .bool false) rfl (by kernel_rfl) (by kernel_rfl) (by kernel_rfl) (fun _ _ _ h => h) (Or.inl ⟨rfl, fun W hW => by go_simp⟩) hS7 ?_
  simp only [Act.put, List.setIfInBounds_toArray, List.set_cons_zero, List.set_cons_succ]
  refine takeH (fuel := 0) (i := 11) (v := .bool false) rfl (by kernel_rfl) (by kernel_rfl) (by kernel_rfl) (fun _ _ _ h => h) (Or.inl ⟨rfl, fun _ _ => rfl⟩) hS7 ?_
  simp only [Act.put, List.setIfInBounds_toArray, List.set_cons_zero, List.set_cons_succ]
  refine wpAnyH_done (by kernel_rfl) ?_ _
  have HX7 : Hid (Bx w7 w.heap.size M 35) := hS7.1
  have HB7 : Hid (Below w.heap.size w w7) := hS7.2
  clear hS hS4 hS5 hS6 hS7 hb4 hb5 hb6 hb7 H12 H13 H14 H15
  go_wp2_with fail
  refine wp_region_held (S := fun W => Bx W w.heap.size M 35 ∧ Below w.heap.size w W) (by kernel_rfl) ?_
  change wpAnyH _ _ _ _ _ 23 #[false, false, false, false, false, false, false, false, false, false, false, false, false, false, false, false, false, false, false, false, false, false, false] _ _
  have hS : Bx w7.drew w.heap.size M 35 ∧ Below w.heap.size w w7.drew := ⟨HX7.out, bdrw HB7.out 1⟩
  clear HX7 HB7
  refine takeH (fuel := 22) (i := 0) (v := .pointer (some ⟨w.heap.size, 0, none⟩)) rfl (by kernel_rfl) (by kernel_rfl) (by kernel_rfl) (fun _ _ _ h => h) (Or.inl ⟨rfl, fun W hW => by go_simp⟩) hS ?_
  simp only [Act.put, List.setIfInBounds_toArray, List.set_cons_zero, List.set_cons_succ]
  refine takeH (fuel := 21) (i := 1) (v := .int .i64 14) rfl (by kernel_rfl) (by kernel_rfl) (by kernel_rfl) (fun _ _ _ h => h) (Or.inl ⟨rfl, fun W hW => by have c0 := HM0.out W hW.1; go_simp⟩) hS ?_
  simp only [Act.put, List.setIfInBounds_toArray, List.set_cons_zero, List.set_cons_succ]
  refine takeH (fuel := 20) (i := 2) (v := .bool false) rfl (by kernel_rfl) (by kernel_rfl) (by kernel_rfl) (fun _ _ _ h => h) (Or.inl ⟨rfl, fun W hW => by go_simp⟩) hS ?_
  simp only [Act.put, List.setIfInBounds_toArray, List.set_cons_zero, List.set_cons_succ]
  refine takeH (fuel := 19) (i := 3) (v := .bool false) rfl (by kernel_rfl) (by kernel_rfl) (by kernel_rfl) (fun _ _ _ h => h) (Or.inl ⟨rfl, fun _ _ => rfl⟩) hS ?_
  simp only [Act.put, List.setIfInBounds_toArray, List.set_cons_zero, List.set_cons_succ]
  refine takeH (fuel := 18) (i := 4) (v := .pointer (some ⟨w.heap.size, 0, none⟩)) rfl (by kernel_rfl) (by kernel_rfl) (by kernel_rfl) (fun _ _ _ h => h) (Or.inl ⟨rfl, fun W hW => by go_simp⟩) hS ?_
  simp only [Act.put, List.setIfInBounds_toArray, List.set_cons_zero, List.set_cons_succ]
  refine takeH (fuel := 17) (i := 5) (v := .int .i64 14) rfl (by kernel_rfl) (by kernel_rfl) (by kernel_rfl) (fun _ _ _ h => h) (Or.inl ⟨rfl, fun W hW => by have c0 := HM0.out W hW.1; go_simp⟩) hS ?_
  simp only [Act.put, List.setIfInBounds_toArray, List.set_cons_zero, List.set_cons_succ]
  refine takeH (fuel := 16) (i := 6) (v := .bool false) rfl (by kernel_rfl) (by kernel_rfl) (by kernel_rfl) (fun _ _ _ h => h) (Or.inl ⟨rfl, fun W hW => by go_simp⟩) hS ?_
  simp only [Act.put, List.setIfInBounds_toArray, List.set_cons_zero, List.set_cons_succ]
  refine takeH (fuel := 15) (i := 7) (v := .bool false) rfl (by kernel_rfl) (by kernel_rfl) (by kernel_rfl) (fun _ _ _ h => h) (Or.inl ⟨rfl, fun _ _ => rfl⟩) hS ?_
  simp only [Act.put, List.setIfInBounds_toArray, List.set_cons_zero, List.set_cons_succ]
  refine takeH (fuel := 14) (i := 8) (v := .bool false) rfl (by kernel_rfl) (by kernel_rfl) (by kernel_rfl) (fun _ _ _ h => h) (Or.inl ⟨rfl, fun _ _ => rfl⟩) hS ?_
  simp only [Act.put, List.setIfInBounds_toArray, List.set_cons_zero, List.set_cons_succ]
  refine takeH (fuel := 13) (i := 9) (v := .iface 96 (.agg #[.int .i64 x0, .int .i64 x1])) rfl (by kernel_rfl) (by kernel_rfl) (by kernel_rfl) (fun _ _ _ h => h) (Or.inl ⟨rfl, fun _ _ => rfl⟩) hS ?_
  simp only [Act.put, List.setIfInBounds_toArray, List.set_cons_zero, List.set_cons_succ]
  refine takeH (fuel := 12) (i := 10) (v := .bool true) rfl (by kernel_rfl) (by kernel_rfl) (by kernel_rfl) (fun _ _ _ h => h) (Or.inl ⟨rfl, fun W hW => by go_simp⟩) hS ?_
  simp only [Act.put, List.setIfInBounds_toArray, List.set_cons_zero, List.set_cons_succ]
  refine takeH (fuel := 11) (i := 11) (v := .bool true) rfl (by kernel_rfl) (by kernel_rfl) (by kernel_rfl) (fun _ _ _ h => h) (Or.inl ⟨rfl, fun _ _ => rfl⟩) hS ?_
  simp only [Act.put, List.setIfInBounds_toArray, List.set_cons_zero, List.set_cons_succ]
  refine takeH (fuel := 10) (i := 12) (v := .iface 96 (.agg #[.int .i64 x0, .int .i64 x1])) rfl (by kernel_rfl) (by kernel_rfl) (by kernel_rfl) (fun _ _ _ h => h) (Or.inl ⟨rfl, fun _ _ => rfl⟩) hS ?_
  simp only [Act.put, List.setIfInBounds_toArray, List.set_cons_zero, List.set_cons_succ]
  refine takeH (fuel := 9) (i := 14) (v := .pointer (some ⟨w.heap.size, 0, none⟩)) rfl (by kernel_rfl) (by kernel_rfl) (by kernel_rfl) (fun _ _ _ h => h) (Or.inl ⟨rfl, fun W hW => by go_simp⟩) hS ?_
  simp only [Act.put, List.setIfInBounds_toArray, List.set_cons_zero, List.set_cons_succ]
  refine takeH (fuel := 8) (i := 15) (v := .int .i64 14) rfl (by kernel_rfl) (by kernel_rfl) (by kernel_rfl) (fun _ _ _ h => h) (Or.inl ⟨rfl, fun W hW => by have c0 := HM0.out W hW.1; go_simp⟩) hS ?_
  simp only [Act.put, List.setIfInBounds_toArray, List.set_cons_zero, List.set_cons_succ]
  refine consH (fuel := 7) (i := 13) rfl (by kernel_rfl) (fun K hK => ?_)
  rw [if_pos (by rfl)]
  go_simp
  refine (kind14 x0 x1 _).mono ?_
  rintro e w8 ⟨rfl, hb8⟩
  refine hK.out _ _ ⟨hS.1.keep hb8.out, bt hS.2 hb8.out⟩ (fun hS8 => ?_)
  clear hK
  try simp only [Act.put, List.setIfInBounds_toArray, List.set_cons_zero, List.set_cons_succ]
  refine takeH (fuel := 6) (i := 16) (v := .bool true) rfl (by kernel_rfl) (by kernel_rfl) (by kernel_rfl) (fun _ _ _ h => h) (Or.inl ⟨rfl, fun W hW => by go_simp⟩) hS8 ?_
  simp only [Act.put, List.setIfInBounds_toArray, List.set_cons_zero, List.set_cons_succ]
  refine takeH (fuel := 5) (i := 17) (v := .bool true) rfl (by kernel_rfl) (by kernel_rfl) (by kernel_rfl) (fun _ _ _ h => h) (Or.inl ⟨rfl, fun _ _ => rfl⟩) hS8 ?_
  simp only [Act.put, List.setIfInBounds_toArray, List.set_cons_zero, List.set_cons_succ]
  refine takeH (fuel := 4) (i := 18) (v := .bool true) rfl (by kernel_rfl) (by kernel_rfl) (by kernel_rfl) (fun _ _ _ h => h) (Or.inl ⟨rfl, fun _ _ => rfl⟩) hS8 ?_
  simp only [Act.put, List.setIfInBounds_toArray, List.set_cons_zero, List.set_cons_succ]
  refine takeH (fuel := 3) (i := 19) (v := .bool true) rfl (by kernel_rfl) (by kernel_rfl) (by kernel_rfl) (fun _ _ _ h => h) (Or.inl ⟨rfl, fun _ _ => rfl⟩) hS8 ?_
  simp only [Act.put, List.setIfInBounds_toArray, List.set_cons_zero, List.set_cons_succ]
  refine consH (fuel := 2) (i := 20) rfl (by kernel_rfl) (fun K hK => ?_)
  rw [if_pos (by rfl)]
  go_simp
  refine (awake _).mono ?_
  rintro e w9 ⟨rfl, hb9⟩
  refine hK.out _ _ ⟨hS8.1.keep hb9.out, bt hS8.2 hb9.out⟩ (fun hS9 => ?_)
  clear hK
  try simp only [Act.put, List.setIfInBounds_toArray, List.set_cons_zero, List.set_cons_succ]
  refine takeH (fuel := 1) (i := 21) (v := .bool true) rfl (by kernel_rfl) (by kernel_rfl) (by kernel_rfl) (fun _ _ _ h => h) (Or.inl ⟨rfl, fun _ _ => rfl⟩) hS9 ?_
  simp only [Act.put, List.setIfInBounds_toArray, List.set_cons_zero, List.set_cons_succ]
  refine takeH (fuel := 0) (i := 22) (v := .bool true) rfl (by kernel_rfl) (by kernel_rfl) (by kernel_rfl) (fun _ _ _ h => h) (Or.inl ⟨rfl, fun _ _ => rfl⟩) hS9 ?_
  simp only [Act.put, List.setIfInBounds_toArray, List.set_cons_zero, List.set_cons_succ]
  refine wpAnyH_done (by kernel_rfl) ?_ _
  have HB9 : Hid (Below w.heap.size w w9) := hS9.2
  clear hS hS8 hS9
  go_wp2_with fail
  go_ret
  exact KP.mk rfl HB9.out
set_option maxHeartbeats 8000000 in
theorem lChecks15 (M : Array Value) (hsz : M.size = 36) (x0 : Int) (x1 : Int) (x2 : Int)  (hM0 : M[0]? = some (.int .i64 15)) (w : World) (cv : Nat) (sv : Int)
    (hsm : ∀ W, Calls Tryz.prog 9 #[.agg M] W (KP (.bool true) W)) (hof : ∀ W, Calls Tryz.prog 11 #[.agg M] W (KP (.iface 98 (.agg #[.int .i64 x0, .int .i64 x1, .int .i64 x2])) W))
    (h12 : ∀ W, Below w.heap.size w W → Calls Tryz.prog 12 #[.iface 98 (.agg #[.int .i64 x0, .int .i64 x1, .int .i64 x2])] W (KP (.int .i64 cv) W)) (h13 : ∀ W, Below w.heap.size w W → Calls Tryz.prog 13 #[.agg M] W (KP (.int .i64 cv) W))
    (h14 : ∀ W, Calls Tryz.prog 14 #[.iface 98 (.agg #[.int .i64 x0, .int .i64 x1, .int .i64 x2])] W (KP (.int .i64 sv) W)) (h15 : ∀ W, Calls Tryz.prog 15 #[.agg M] W (KP (.int .i64 sv) W)) : Calls Tryz.prog 3 #[.agg M] w (KP (.bool true) w) := by
  have HOF : Hid (∀ W, Calls Tryz.prog 11 #[.agg M] W (KP (.iface 98 (.agg #[.int .i64 x0, .int .i64 x1, .int .i64 x2])) W)) := hof
  have H12 : Hid (∀ W, Below w.heap.size w W → Calls Tryz.prog 12 #[.iface 98 (.agg #[.int .i64 x0, .int .i64 x1, .int .i64 x2])] W (KP (.int .i64 cv) W)) := h12
  have H13 : Hid (∀ W, Below w.heap.size w W → Calls Tryz.prog 13 #[.agg M] W (KP (.int .i64 cv) W)) := h13
  have H14 : Hid (∀ W, Calls Tryz.prog 14 #[.iface 98 (.agg #[.int .i64 x0, .int .i64 x1, .int .i64 x2])] W (KP (.int .i64 sv) W)) := h14
  have H15 : Hid (∀ W, Calls Tryz.prog 15 #[.agg M] W (KP (.int .i64 sv) W)) := h15
  have HSM : Hid (∀ W, Calls Tryz.prog 9 #[.agg M] W (KP (.bool true) W)) := hsm
  have HM0 : Hid (∀ W, Bx W w.heap.size M 35 → W.cell? ⟨w.heap.size, 0, none⟩ = some (.int .i64 15)) := fun W h => (h.cell 0).trans hM0
  have HX0 : Hid (Bx (w.alloc (.cells M 35)) w.heap.size M 35) := Bx.new _ _ _
  have HB0 : Hid (Below w.heap.size w (w.alloc (.cells M 35))) := below_a w _
  have HLD : Hid (∀ W, Bx W w.heap.size M 35 → (Instr.loadAt 35 (.pointer (some ⟨w.heap.size, 0, none⟩))).run Tryz.prog W = .ok (.agg M) W) := fun W h => hloadAt W w.heap.size M hsz h
  clear hof h12 h13 h14 h15 hsm hM0
  go_enter Tryz.func3, Tryz.ntmps3
  go_upto_region 1 with fail
  generalize hw1 : w.alloc (.cells M 35) = w1 at *
  have HX : Hid (Bx w1 w.heap.size M 35) := HX0.out
  have HB : Hid (Below w.heap.size w w1) := HB0.out
  clear HX0 HB0 hw1
  go_wp2_with (guard_target =~ wpList _ _ _ (⟨_, Op.load 35 _, _, _, _, _⟩ :: _) _ _; refine wl_load _ rfl 35 _ rfl _ rfl _ (HLD.out _ HX.out) ?_; go_simp)
  refine (HSM.out _).mono ?_
  rintro e w2 ⟨rfl, hb2⟩
  have HX2 : Hid (Bx w2 w.heap.size M 35) := HX.out.keep hb2.out
  have HB2 : Hid (Below w.heap.size w w2) := bt HB.out hb2.out
  clear hb2 HX HB HSM
  go_wp2_with (guard_target =~ wpList _ _ _ (⟨_, Op.load 35 _, _, _, _, _⟩ :: _) _ _; refine wl_load _ rfl 35 _ rfl _ rfl _ (HLD.out _ HX2.out) ?_; go_simp)
  refine (HOF.out _).mono ?_
  rintro e w3 ⟨rfl, hb3⟩
  have HX3 : Hid (Bx w3 w.heap.size M 35) := HX2.out.keep hb3.out
  have HB3 : Hid (Below w.heap.size w w3) := bt HB2.out hb3.out
  clear hb3 HX2 HB2 HOF
  go_wp2_with fail
  refine wp_region_held (S := fun W => Bx W w.heap.size M 35 ∧ Below w.heap.size w W) (by kernel_rfl) ?_
  change wpAnyH _ _ _ _ _ 12 #[false, false, false, false, false, false, false, false, false, false, false, false] _ _
  have hS : Bx w3.drew w.heap.size M 35 ∧ Below w.heap.size w w3.drew := ⟨HX3.out, bdrw HB3.out 1⟩
  clear HX3 HB3
  refine takeH (fuel := 11) (i := 0) (v := .iface 98 (.agg #[.int .i64 x0, .int .i64 x1, .int .i64 x2])) rfl (by kernel_rfl) (by kernel_rfl) (by kernel_rfl) (fun _ _ _ h => h) (Or.inl ⟨rfl, fun _ _ => rfl⟩) hS ?_
  simp only [Act.put, List.setIfInBounds_toArray, List.set_cons_zero, List.set_cons_succ]
  refine takeH (fuel := 10) (i := 2) (v := .agg M) rfl (by kernel_rfl) (by kernel_rfl) (by kernel_rfl) (fun _ _ _ h => h) (Or.inl ⟨rfl, fun W hW => ex_load _ _ _ _ rfl _ _ rfl (HLD.out W hW.1)⟩) hS ?_
  simp only [Act.put, List.setIfInBounds_toArray, List.set_cons_zero, List.set_cons_succ]
  refine consH (fuel := 9) (i := 1) rfl (by kernel_rfl) (fun K hK => ?_)
  rw [if_pos (by rfl)]
  go_simp
  refine (H12.out _ hS.2).mono ?_
  rintro e w4 ⟨rfl, hb4⟩
  refine hK.out _ _ ⟨hS.1.keep hb4.out, bt hS.2 hb4.out⟩ (fun hS4 => ?_)
  clear hK
  try simp only [Act.put, List.setIfInBounds_toArray, List.set_cons_zero, List.set_cons_succ]
  refine consH (fuel := 8) (i := 3) rfl (by kernel_rfl) (fun K hK => ?_)
  rw [if_pos (by rfl)]
  go_simp
  refine (H13.out _ hS4.2).mono ?_
  rintro e w5 ⟨rfl, hb5⟩
  refine hK.out _ _ ⟨hS4.1.keep hb5.out, bt hS4.2 hb5.out⟩ (fun hS5 => ?_)
  clear hK
  try simp only [Act.put, List.setIfInBounds_toArray, List.set_cons_zero, List.set_cons_succ]
  refine takeH (fuel := 7) (i := 4) (v := .bool false) rfl (by kernel_rfl) (by kernel_rfl) (by kernel_rfl) (fun _ _ _ h => h) (Or.inl ⟨rfl, fun W hW => by go_simp⟩) hS5 ?_
  simp only [Act.put, List.setIfInBounds_toArray, List.set_cons_zero, List.set_cons_succ]
  refine takeH (fuel := 6) (i := 5) (v := .bool false) rfl (by kernel_rfl) (by kernel_rfl) (by kernel_rfl) (fun _ _ _ h => h) (Or.inl ⟨rfl, fun _ _ => rfl⟩) hS5 ?_
  simp only [Act.put, List.setIfInBounds_toArray, List.set_cons_zero, List.set_cons_succ]
  refine takeH (fuel := 5) (i := 6) (v := .iface 98 (.agg #[.int .i64 x0, .int .i64 x1, .int .i64 x2])) rfl (by kernel_rfl) (by kernel_rfl) (by kernel_rfl) (fun _ _ _ h => h) (Or.inl ⟨rfl, fun _ _ => rfl⟩) hS5 ?_
  simp only [Act.put, List.setIfInBounds_toArray, List.set_cons_zero, List.set_cons_succ]
  refine takeH (fuel := 4) (i := 8) (v := .agg M) rfl (by kernel_rfl) (by kernel_rfl) (by kernel_rfl) (fun _ _ _ h => h) (Or.inl ⟨rfl, fun W hW => ex_load _ _ _ _ rfl _ _ rfl (HLD.out W hW.1)⟩) hS5 ?_
  simp only [Act.put, List.setIfInBounds_toArray, List.set_cons_zero, List.set_cons_succ]
  refine consH (fuel := 3) (i := 7) rfl (by kernel_rfl) (fun K hK => ?_)
  rw [if_pos (by rfl)]
  go_simp
  refine (H14.out _).mono ?_
  rintro e w6 ⟨rfl, hb6⟩
  refine hK.out _ _ ⟨hS5.1.keep hb6.out, bt hS5.2 hb6.out⟩ (fun hS6 => ?_)
  clear hK
  try simp only [Act.put, List.setIfInBounds_toArray, List.set_cons_zero, List.set_cons_succ]
  refine consH (fuel := 2) (i := 9) rfl (by kernel_rfl) (fun K hK => ?_)
  rw [if_pos (by rfl)]
  go_simp
  refine (H15.out _).mono ?_
  rintro e w7 ⟨rfl, hb7⟩
  refine hK.out _ _ ⟨hS6.1.keep hb7.out, bt hS6.2 hb7.out⟩ (fun hS7 => ?_)
  clear hK
  try simp only [Act.put, List.setIfInBounds_toArray, List.set_cons_zero, List.set_cons_succ]
  refine takeH (fuel := 1) (i := 10) (v := .bool false) rfl (by kernel_rfl) (by kernel_rfl) (by kernel_rfl) (fun _ _ _ h => h) (Or.inl ⟨rfl, fun W hW => by go_simp⟩) hS7 ?_
  simp only [Act.put, List.setIfInBounds_toArray, List.set_cons_zero, List.set_cons_succ]
  refine takeH (fuel := 0) (i := 11) (v := .bool false) rfl (by kernel_rfl) (by kernel_rfl) (by kernel_rfl) (fun _ _ _ h => h) (Or.inl ⟨rfl, fun _ _ => rfl⟩) hS7 ?_
  simp only [Act.put, List.setIfInBounds_toArray, List.set_cons_zero, List.set_cons_succ]
  refine wpAnyH_done (by kernel_rfl) ?_ _
  have HX7 : Hid (Bx w7 w.heap.size M 35) := hS7.1
  have HB7 : Hid (Below w.heap.size w w7) := hS7.2
  clear hS hS4 hS5 hS6 hS7 hb4 hb5 hb6 hb7 H12 H13 H14 H15
  go_wp2_with fail
  refine wp_region_held (S := fun W => Bx W w.heap.size M 35 ∧ Below w.heap.size w W) (by kernel_rfl) ?_
  change wpAnyH _ _ _ _ _ 23 #[false, false, false, false, false, false, false, false, false, false, false, false, false, false, false, false, false, false, false, false, false, false, false] _ _
  have hS : Bx w7.drew w.heap.size M 35 ∧ Below w.heap.size w w7.drew := ⟨HX7.out, bdrw HB7.out 1⟩
  clear HX7 HB7
  refine takeH (fuel := 22) (i := 0) (v := .pointer (some ⟨w.heap.size, 0, none⟩)) rfl (by kernel_rfl) (by kernel_rfl) (by kernel_rfl) (fun _ _ _ h => h) (Or.inl ⟨rfl, fun W hW => by go_simp⟩) hS ?_
  simp only [Act.put, List.setIfInBounds_toArray, List.set_cons_zero, List.set_cons_succ]
  refine takeH (fuel := 21) (i := 1) (v := .int .i64 15) rfl (by kernel_rfl) (by kernel_rfl) (by kernel_rfl) (fun _ _ _ h => h) (Or.inl ⟨rfl, fun W hW => by have c0 := HM0.out W hW.1; go_simp⟩) hS ?_
  simp only [Act.put, List.setIfInBounds_toArray, List.set_cons_zero, List.set_cons_succ]
  refine takeH (fuel := 20) (i := 2) (v := .bool false) rfl (by kernel_rfl) (by kernel_rfl) (by kernel_rfl) (fun _ _ _ h => h) (Or.inl ⟨rfl, fun W hW => by go_simp⟩) hS ?_
  simp only [Act.put, List.setIfInBounds_toArray, List.set_cons_zero, List.set_cons_succ]
  refine takeH (fuel := 19) (i := 3) (v := .bool false) rfl (by kernel_rfl) (by kernel_rfl) (by kernel_rfl) (fun _ _ _ h => h) (Or.inl ⟨rfl, fun _ _ => rfl⟩) hS ?_
  simp only [Act.put, List.setIfInBounds_toArray, List.set_cons_zero, List.set_cons_succ]
  refine takeH (fuel := 18) (i := 4) (v := .pointer (some ⟨w.heap.size, 0, none⟩)) rfl (by kernel_rfl) (by kernel_rfl) (by kernel_rfl) (fun _ _ _ h => h) (Or.inl ⟨rfl, fun W hW => by go_simp⟩) hS ?_
  simp only [Act.put, List.setIfInBounds_toArray, List.set_cons_zero, List.set_cons_succ]
  refine takeH (fuel := 17) (i := 5) (v := .int .i64 15) rfl (by kernel_rfl) (by kernel_rfl) (by kernel_rfl) (fun _ _ _ h => h) (Or.inl ⟨rfl, fun W hW => by have c0 := HM0.out W hW.1; go_simp⟩) hS ?_
  simp only [Act.put, List.setIfInBounds_toArray, List.set_cons_zero, List.set_cons_succ]
  refine takeH (fuel := 16) (i := 6) (v := .bool false) rfl (by kernel_rfl) (by kernel_rfl) (by kernel_rfl) (fun _ _ _ h => h) (Or.inl ⟨rfl, fun W hW => by go_simp⟩) hS ?_
  simp only [Act.put, List.setIfInBounds_toArray, List.set_cons_zero, List.set_cons_succ]
  refine takeH (fuel := 15) (i := 7) (v := .bool false) rfl (by kernel_rfl) (by kernel_rfl) (by kernel_rfl) (fun _ _ _ h => h) (Or.inl ⟨rfl, fun _ _ => rfl⟩) hS ?_
  simp only [Act.put, List.setIfInBounds_toArray, List.set_cons_zero, List.set_cons_succ]
  refine takeH (fuel := 14) (i := 8) (v := .bool false) rfl (by kernel_rfl) (by kernel_rfl) (by kernel_rfl) (fun _ _ _ h => h) (Or.inl ⟨rfl, fun _ _ => rfl⟩) hS ?_
  simp only [Act.put, List.setIfInBounds_toArray, List.set_cons_zero, List.set_cons_succ]
  refine takeH (fuel := 13) (i := 9) (v := .iface 98 (.agg #[.int .i64 x0, .int .i64 x1, .int .i64 x2])) rfl (by kernel_rfl) (by kernel_rfl) (by kernel_rfl) (fun _ _ _ h => h) (Or.inl ⟨rfl, fun _ _ => rfl⟩) hS ?_
  simp only [Act.put, List.setIfInBounds_toArray, List.set_cons_zero, List.set_cons_succ]
  refine takeH (fuel := 12) (i := 10) (v := .bool true) rfl (by kernel_rfl) (by kernel_rfl) (by kernel_rfl) (fun _ _ _ h => h) (Or.inl ⟨rfl, fun W hW => by go_simp⟩) hS ?_
  simp only [Act.put, List.setIfInBounds_toArray, List.set_cons_zero, List.set_cons_succ]
  refine takeH (fuel := 11) (i := 11) (v := .bool true) rfl (by kernel_rfl) (by kernel_rfl) (by kernel_rfl) (fun _ _ _ h => h) (Or.inl ⟨rfl, fun _ _ => rfl⟩) hS ?_
  simp only [Act.put, List.setIfInBounds_toArray, List.set_cons_zero, List.set_cons_succ]
  refine takeH (fuel := 10) (i := 12) (v := .iface 98 (.agg #[.int .i64 x0, .int .i64 x1, .int .i64 x2])) rfl (by kernel_rfl) (by kernel_rfl) (by kernel_rfl) (fun _ _ _ h => h) (Or.inl ⟨rfl, fun _ _ => rfl⟩) hS ?_
  simp only [Act.put, List.setIfInBounds_toArray, List.set_cons_zero, List.set_cons_succ]
  refine takeH (fuel := 9) (i := 14) (v := .pointer (some ⟨w.heap.size, 0, none⟩)) rfl (by kernel_rfl) (by kernel_rfl) (by kernel_rfl) (fun _ _ _ h => h) (Or.inl ⟨rfl, fun W hW => by go_simp⟩) hS ?_
  simp only [Act.put, List.setIfInBounds_toArray, List.set_cons_zero, List.set_cons_succ]
  refine takeH (fuel := 8) (i := 15) (v := .int .i64 15) rfl (by kernel_rfl) (by kernel_rfl) (by kernel_rfl) (fun _ _ _ h => h) (Or.inl ⟨rfl, fun W hW => by have c0 := HM0.out W hW.1; go_simp⟩) hS ?_
  simp only [Act.put, List.setIfInBounds_toArray, List.set_cons_zero, List.set_cons_succ]
  refine consH (fuel := 7) (i := 13) rfl (by kernel_rfl) (fun K hK => ?_)
  rw [if_pos (by rfl)]
  go_simp
  refine (kind15 x0 x1 x2 _).mono ?_
  rintro e w8 ⟨rfl, hb8⟩
  refine hK.out _ _ ⟨hS.1.keep hb8.out, bt hS.2 hb8.out⟩ (fun hS8 => ?_)
  clear hK
  try simp only [Act.put, List.setIfInBounds_toArray, List.set_cons_zero, List.set_cons_succ]
  refine takeH (fuel := 6) (i := 16) (v := .bool true) rfl (by kernel_rfl) (by kernel_rfl) (by kernel_rfl) (fun _ _ _ h => h) (Or.inl ⟨rfl, fun W hW => by go_simp⟩) hS8 ?_
  simp only [Act.put, List.setIfInBounds_toArray, List.set_cons_zero, List.set_cons_succ]
  refine takeH (fuel := 5) (i := 17) (v := .bool true) rfl (by kernel_rfl) (by kernel_rfl) (by kernel_rfl) (fun _ _ _ h => h) (Or.inl ⟨rfl, fun _ _ => rfl⟩) hS8 ?_
  simp only [Act.put, List.setIfInBounds_toArray, List.set_cons_zero, List.set_cons_succ]
  refine takeH (fuel := 4) (i := 18) (v := .bool true) rfl (by kernel_rfl) (by kernel_rfl) (by kernel_rfl) (fun _ _ _ h => h) (Or.inl ⟨rfl, fun _ _ => rfl⟩) hS8 ?_
  simp only [Act.put, List.setIfInBounds_toArray, List.set_cons_zero, List.set_cons_succ]
  refine takeH (fuel := 3) (i := 19) (v := .bool true) rfl (by kernel_rfl) (by kernel_rfl) (by kernel_rfl) (fun _ _ _ h => h) (Or.inl ⟨rfl, fun _ _ => rfl⟩) hS8 ?_
  simp only [Act.put, List.setIfInBounds_toArray, List.set_cons_zero, List.set_cons_succ]
  refine consH (fuel := 2) (i := 20) rfl (by kernel_rfl) (fun K hK => ?_)
  rw [if_pos (by rfl)]
  go_simp
  refine (awake _).mono ?_
  rintro e w9 ⟨rfl, hb9⟩
  refine hK.out _ _ ⟨hS8.1.keep hb9.out, bt hS8.2 hb9.out⟩ (fun hS9 => ?_)
  clear hK
  try simp only [Act.put, List.setIfInBounds_toArray, List.set_cons_zero, List.set_cons_succ]
  refine takeH (fuel := 1) (i := 21) (v := .bool true) rfl (by kernel_rfl) (by kernel_rfl) (by kernel_rfl) (fun _ _ _ h => h) (Or.inl ⟨rfl, fun _ _ => rfl⟩) hS9 ?_
  simp only [Act.put, List.setIfInBounds_toArray, List.set_cons_zero, List.set_cons_succ]
  refine takeH (fuel := 0) (i := 22) (v := .bool true) rfl (by kernel_rfl) (by kernel_rfl) (by kernel_rfl) (fun _ _ _ h => h) (Or.inl ⟨rfl, fun _ _ => rfl⟩) hS9 ?_
  simp only [Act.put, List.setIfInBounds_toArray, List.set_cons_zero, List.set_cons_succ]
  refine wpAnyH_done (by kernel_rfl) ?_ _
  have HB9 : Hid (Below w.heap.size w w9) := hS9.2
  clear hS hS8 hS9
  go_wp2_with fail
  go_ret
  exact KP.mk rfl HB9.out
end Go.Proofs.YtdmlgheajblcdaaGreat
