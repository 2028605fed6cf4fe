/- MsgBaskets: for every input the law returns true, and what was handed in reads as it did. No condition beyond the row's own. -/
import Derived.Test.YtdmlgheajblcdaaGreatK28
import Derived.Test.YtdmlgheajblcdaaGreatK15
import Derived.Test.YtdmlgheajblcdaaGreatRows
import Derived.WalkKit
import Derived.ProofKit
import Derived.OpenShut
import Derived.ChangeOld
import Derived.Below
import Derived.SizedLaws
import Derived.ChangeMaps5
import Derived.Lib.SmallJoins
namespace Go.Proofs.YtdmlgheajblcdaaGreat.msgBaskets
open Go.ChangeShapes Go.WideShapes Go.ChangeAt Go.RowKit Go.ChangeMaps
set_option linter.unusedVariables false

theorem own : ownKnob Tryz.prog.godebug = none := by kernel_rfl
theorem laidOut : laidOutB Tryz.prog = true := by kernel_rfl
theorem bytes9 : Tryz.prog.bytesOf 9 = 16 := by kernel_rfl

/-- the walk -/
theorem walk (m0 : Bk) (ca0 ba0 : Option Addr) (cc0 bc0 : Nat) (w : World) (t0 : Cts w.heap.size w ca0 m0.cuts ∧ Ins w.heap.size w ba0 m0.bar) (z0 : m0.cur.length ≤ 140737488351232 ∧ m0.cuts.length ≤ 9223372036854775807 ∧ m0.bar.length ≤ 9223372036854775807) :
    Calls Tryz.prog 4 #[.agg #[.int .i64 m0.id, .int .i64 m0.ver, .string ⟨m0.cur.toArray⟩, .int .i64 m0.rat, .int .i64 m0.least, .int .i64 m0.most, .slice ca0 m0.cuts.length cc0, .int .i64 m0.iss, .int .i64 m0.ass, .slice ba0 m0.bar.length bc0]] w fun e w' => e = .returned (.bool true) ∧ Below w.heap.size w w' := by
  exact lBaskets m0 ca0 ba0 cc0 bc0 w t0.1 t0.2 z0.2.1 z0.2.2

set_option maxRecDepth 100000 in
theorem lifted (os : Os) (started : os.Started) (H : Type) (enc : TypeId × Value → H) :
    ReturnsInHanded {} Tryz.checked os 4 .any (Rows.msgBasketsSpec.pre6 enc Tryz.prog Tryz.f4 Rows.msgBasketsRow.domain false) (Rows.msgBasketsSpec.post enc Tryz.prog Tryz.f4 false true false false) := by
  refine returnsInHanded_of_change_sized (C := Tryz.checked) own started (by kernel_rfl) Tryz.func4
    (ChangeSpec.witness6 (enc := enc) (C := Tryz.checked) false ⟨#[], #[.agg #[.int .i64 0, .int .i64 0, .string ⟨#[]⟩, .int .i64 0, .int .i64 0, .int .i64 0, .slice none 0 0, .int .i64 0, .int .i64 0, .slice none 0 0]], []⟩ 8 (by kernel_rfl) (by kernel_rfl) (by kernel_rfl) (by kernel_rfl)) ?_
  intro W base args ds gs before hval0 hW _ hsz0 _
  have hsz : (DataW.weightsEach Tryz.prog (Tryz.f4.params.toList ++ Rows.msgBasketsSpec.plain.varTypes Tryz.prog) (ds ++ gs)).all (· ≤ reachBytes) = true := hsz0
  clear hsz0
  have hval : ∀ (j : Nat) t v, Tryz.f4.params[j]? = some t → args[j]? = some v → Value.okWide Tryz.prog W .any base t v := hval0
  have hW' := hW
  obtain ⟨p, q, hA0, hV, rfl, hfz, hnd⟩ := hW
  have hA : DataW.TrodAll enc Tryz.prog W 0 (fun _ => true) true Tryz.f4.params.toList args.toList ds p := hA0
  rw [Tryz.params4] at hA hval hsz
  obtain ⟨v0, vs0, d0, ds0, p0, q0, hargs, rfl, rfl, h0, rr0⟩ := trodAll_cons hA
  obtain ⟨rfl, rfl, rfl⟩ := trodAll_nil rr0
  obtain rfl : args = #[v0] := by cases args; simp_all
  obtain ⟨rfl, rfl⟩ := trodVars_none hV
  have k0 := h0
  have lt0 : ∀ x ∈ p0, x.block < W.heap.size := by obtain ⟨m, hm⟩ := k0; exact DataW.trod_lt m _ _ _ hm
  obtain ⟨fu0, hf0⟩ := h0
  obtain ⟨cs0, rfl, -⟩ := okWide_struct Tryz.underlying27 (hval 0 27 v0 rfl rfl)
  obtain ⟨m0, ca0, ba0, cc0, bc0, e0, t0, f0, z0⟩ := open_bk (show DataW.trod enc Tryz.prog W 0 (fun _ => true) true fu0 27 cs0.toList = some _ from hf0) (fun n hn => by
    have := List.all_eq_true.1 hsz _ (DataW.weights_mem_each (j := 0) (t := 27) (d := d0) rfl rfl n hn)
    have := of_decide_eq_true this
    simpa [reachBytes] using this)
  obtain rfl : cs0 = #[.int .i64 m0.id, .int .i64 m0.ver, .string ⟨m0.cur.toArray⟩, .int .i64 m0.rat, .int .i64 m0.least, .int .i64 m0.most, .slice ca0 m0.cuts.length cc0, .int .i64 m0.iss, .int .i64 m0.ass, .slice ba0 m0.bar.length bc0] := by apply Array.ext'; rw [e0]
  clear hA0 hval0
  refine (walk m0 ca0 ba0 cc0 bc0 W t0 z0).mono fun e W' ⟨he, bel⟩ => ?_
  subst he
  exact ⟨_, rfl, _, _, _, [], _, [], hW', trodAll_mk1 (shut_bool Tryz.underlying4 _), (trodAll_cons_mk (Below.trod laidOut (by kernel_rfl) (of_decide_eq_true (by kernel_rfl)) k0 bel lt0) trodAll_mk0), rfl, bel.frame _, fun h => by cases h⟩

theorem over : Rows.msgBasketsRow.holds Tryz.pinned (OpenSpec.ofChange Rows.msgBasketsSpec) :=
  OpenClaim.holds_of_wide 4 Tryz.f4 rfl rfl rfl rfl rfl rfl rfl ⟨rfl, rfl, rfl, rfl, rfl⟩ rfl rfl rfl rfl rfl (by kernel_rfl) Tryz.func4 (by kernel_rfl)
    (of_decide_eq_true (by kernel_rfl)) (by unfold Func.isWrapper; first | (rw [if_pos (by decide +kernel)]; kernel_rfl) | (rw [if_neg (by decide +kernel)]; exact ⟨rfl, rfl⟩))
    (fun os started H enc _ => lifted os started H enc)

/-- the statement -/
theorem proved : Rows.MsgBasketsSaid := over
#print axioms proved
end Go.Proofs.YtdmlgheajblcdaaGreat.msgBaskets
