/- MsgBack: for every input the law returns true, and what was handed in reads as it did. No condition beyond the row's own. -/
import Derived.Test.YtdmlgheajblcdaaGreatN39
import Derived.Test.YtdmlgheajblcdaaGreatK15
import Derived.Test.YtdmlgheajblcdaaGreatRows
import Derived.WalkKit
import Derived.ProofKit
import Derived.OpenShut
import Derived.ChangeOld
import Derived.Below
import Derived.SizedLaws
import Derived.ChangeMaps5
import Derived.Lib.SmallJoins
namespace Go.Proofs.YtdmlgheajblcdaaGreat.msgBack
open Go.ChangeShapes Go.WideShapes Go.ChangeAt Go.RowKit Go.ChangeMaps
set_option linter.unusedVariables false

theorem own : ownKnob Tryz.prog.godebug = none := by kernel_rfl
theorem laidOut : laidOutB Tryz.prog = true := by kernel_rfl
theorem bytes9 : Tryz.prog.bytesOf 9 = 16 := by kernel_rfl

/-- the walk -/
theorem walk (m0 : Mg) (pa0 ia0 ca0 ba0 : Option Addr) (pc0 ic0 cc0 bc0 : Nat) (s1 : ByteArray) (w : World) (t0 : Hld w.heap.size w m0 pa0 ia0 ca0 ba0) (f0 : m0.Wf) (z0 : Szd m0) (z1 : s1.size ≤ maxLen) (y1 : s1.size ≤ 140737488351232) :
    Calls Tryz.prog 7 #[.agg #[.int .i64 m0.k, .int .i64 m0.mem, .string ⟨m0.name.toArray⟩, .string ⟨m0.a.i.toArray⟩, .int .i64 m0.a.iss, .int .i64 m0.a.rat, .int .i64 m0.a.mat, .string ⟨m0.a.cur.toArray⟩, .int .i64 m0.b.id, .int .i64 m0.b.ver, .string ⟨m0.b.cur.toArray⟩, .int .i64 m0.b.rat, .int .i64 m0.b.least, .int .i64 m0.b.most, .slice ca0 m0.b.cuts.length cc0, .int .i64 m0.b.iss, .int .i64 m0.b.ass, .slice ba0 m0.b.bar.length bc0, .slice pa0 m0.ps.length pc0, .int .i64 m0.day, .string ⟨m0.t.toArray⟩, .int .i64 m0.n, .int .i64 m0.q.id, .int .i64 m0.q.mem, .int .i64 m0.q.side, .int .i64 m0.q.bas, .int .i64 m0.q.am, .int .i64 m0.q.rate, .int .i64 m0.q.st, .int .i64 m0.q.en, .string ⟨m0.out.i.toArray⟩, .int .i64 m0.out.q, .slice ia0 m0.ins.length ic0, .int .i64 m0.tr, .bool m0.done, .int .i64 m0.rate], .string s1] w fun e w' => e = .returned (.bool true) ∧ Below w.heap.size w w' := by
  exact lBack m0 pa0 ia0 ca0 ba0 pc0 ic0 cc0 bc0 s1 (by unfold maxLen at z1; omega) w t0 f0 z0

set_option maxRecDepth 100000 in
theorem lifted (os : Os) (started : os.Started) (H : Type) (enc : TypeId × Value → H) :
    ReturnsInHanded {} Tryz.checked os 7 .any (Rows.msgBackSpec.pre6 enc Tryz.prog Tryz.f7 Rows.msgBackRow.domain false) (Rows.msgBackSpec.post enc Tryz.prog Tryz.f7 false true false false) := by
  refine returnsInHanded_of_change_sized (C := Tryz.checked) own started (by kernel_rfl) Tryz.func7
    (ChangeSpec.witness6 (enc := enc) (C := Tryz.checked) false ⟨#[], #[.agg #[.int .i64 0, .int .i64 0, .string ⟨#[]⟩, .string ⟨#[]⟩, .int .i64 0, .int .i64 0, .int .i64 0, .string ⟨#[]⟩, .int .i64 0, .int .i64 0, .string ⟨#[]⟩, .int .i64 0, .int .i64 0, .int .i64 0, .slice none 0 0, .int .i64 0, .int .i64 0, .slice none 0 0, .slice none 0 0, .int .i64 0, .string ⟨#[]⟩, .int .i64 0, .int .i64 0, .int .i64 0, .int .i64 0, .int .i64 0, .int .i64 0, .int .i64 0, .int .i64 0, .int .i64 0, .string ⟨#[]⟩, .int .i64 0, .slice none 0 0, .int .i64 0, .bool false, .int .i64 0], .string ⟨#[]⟩], []⟩ 8 (by kernel_rfl) (by kernel_rfl) (by kernel_rfl) (by kernel_rfl)) ?_
  intro W base args ds gs before hval0 hW _ hsz0 _
  have hsz : (DataW.weightsEach Tryz.prog (Tryz.f7.params.toList ++ Rows.msgBackSpec.plain.varTypes Tryz.prog) (ds ++ gs)).all (· ≤ reachBytes) = true := hsz0
  clear hsz0
  have hval : ∀ (j : Nat) t v, Tryz.f7.params[j]? = some t → args[j]? = some v → Value.okWide Tryz.prog W .any base t v := hval0
  have hW' := hW
  obtain ⟨p, q, hA0, hV, rfl, hfz, hnd⟩ := hW
  have hA : DataW.TrodAll enc Tryz.prog W 0 (fun _ => true) true Tryz.f7.params.toList args.toList ds p := hA0
  rw [Tryz.params7] at hA hval hsz
  obtain ⟨v0, vs0, d0, ds0, p0, q0, hargs, rfl, rfl, h0, rr0⟩ := trodAll_cons hA
  obtain ⟨v1, vs1, d1, ds1, p1, q1, rfl, rfl, rfl, h1, rr1⟩ := trodAll_cons rr0
  obtain ⟨rfl, rfl, rfl⟩ := trodAll_nil rr1
  obtain rfl : args = #[v0, v1] := by cases args; simp_all
  obtain ⟨rfl, rfl⟩ := trodVars_none hV
  have k0 := h0
  have lt0 : ∀ x ∈ p0, x.block < W.heap.size := by obtain ⟨m, hm⟩ := k0; exact DataW.trod_lt m _ _ _ hm
  obtain ⟨fu0, hf0⟩ := h0
  obtain ⟨cs0, rfl, -⟩ := okWide_struct Tryz.underlying35 (hval 0 35 v0 rfl rfl)
  obtain ⟨m0, pa0, ia0, ca0, ba0, pc0, ic0, cc0, bc0, e0, t0, f0, z0⟩ := open_mg (show DataW.trod enc Tryz.prog W 0 (fun _ => true) true fu0 35 cs0.toList = some _ from hf0) (fun n hn => by
    have := List.all_eq_true.1 hsz _ (DataW.weights_mem_each (j := 0) (t := 35) (d := d0) rfl rfl n hn)
    have := of_decide_eq_true this
    simpa [reachBytes] using this)
  obtain rfl : cs0 = #[.int .i64 m0.k, .int .i64 m0.mem, .string ⟨m0.name.toArray⟩, .string ⟨m0.a.i.toArray⟩, .int .i64 m0.a.iss, .int .i64 m0.a.rat, .int .i64 m0.a.mat, .string ⟨m0.a.cur.toArray⟩, .int .i64 m0.b.id, .int .i64 m0.b.ver, .string ⟨m0.b.cur.toArray⟩, .int .i64 m0.b.rat, .int .i64 m0.b.least, .int .i64 m0.b.most, .slice ca0 m0.b.cuts.length cc0, .int .i64 m0.b.iss, .int .i64 m0.b.ass, .slice ba0 m0.b.bar.length bc0, .slice pa0 m0.ps.length pc0, .int .i64 m0.day, .string ⟨m0.t.toArray⟩, .int .i64 m0.n, .int .i64 m0.q.id, .int .i64 m0.q.mem, .int .i64 m0.q.side, .int .i64 m0.q.bas, .int .i64 m0.q.am, .int .i64 m0.q.rate, .int .i64 m0.q.st, .int .i64 m0.q.en, .string ⟨m0.out.i.toArray⟩, .int .i64 m0.out.q, .slice ia0 m0.ins.length ic0, .int .i64 m0.tr, .bool m0.done, .int .i64 m0.rate] := by apply Array.ext'; rw [e0]
  obtain ⟨s1, rfl, rfl, rfl, z1⟩ := open_string Tryz.underlying9 (hval 1 9 v1 rfl rfl) h1
  have y1 : s1.size ≤ 140737488351232 := by
    have := sized_string hsz (j := 1) (t := 9) (bytes := s1.data.toList) rfl rfl
    simpa [reachBytes] using this
  clear hA0 hval0
  refine (walk m0 pa0 ia0 ca0 ba0 pc0 ic0 cc0 bc0 s1 W t0 f0 z0 z1 y1).mono fun e W' ⟨he, bel⟩ => ?_
  subst he
  exact ⟨_, rfl, _, _, _, [], _, [], hW', trodAll_mk1 (shut_bool Tryz.underlying4 _), (trodAll_cons_mk (Below.trod laidOut (by kernel_rfl) (of_decide_eq_true (by kernel_rfl)) k0 bel lt0) (trodAll_cons_mk (shut_string Tryz.underlying9 z1) trodAll_mk0)), rfl, bel.frame _, fun h => by cases h⟩

theorem over : Rows.msgBackRow.holds Tryz.pinned (OpenSpec.ofChange Rows.msgBackSpec) :=
  OpenClaim.holds_of_wide 7 Tryz.f7 rfl rfl rfl rfl rfl rfl rfl ⟨rfl, rfl, rfl, rfl, rfl⟩ rfl rfl rfl rfl rfl (by kernel_rfl) Tryz.func7 (by kernel_rfl)
    (of_decide_eq_true (by kernel_rfl)) (by unfold Func.isWrapper; first | (rw [if_pos (by decide +kernel)]; kernel_rfl) | (rw [if_neg (by decide +kernel)]; exact ⟨rfl, rfl⟩))
    (fun os started H enc _ => lifted os started H enc)

/-- the statement -/
theorem proved : Rows.MsgBackSaid := over
#print axioms proved
end Go.Proofs.YtdmlgheajblcdaaGreat.msgBack
