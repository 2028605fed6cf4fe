/- DiskStays: for every input the law returns true, and what was handed in reads as it did. No condition beyond the row's own. -/
import Derived.Test.YtfdebooimbbdbaaW
import Derived.Test.YtfdebooimbbdbaaX
import Derived.Test.YtfdebooimbbdbaaRows
import Derived.WalkKit
import Derived.ProofKit
import Derived.OpenShut
import Derived.ChangeOld
import Derived.Below
import Derived.SizedLaws
import Derived.Lib.SmallJoins
namespace Go.Proofs.Ytfdebooimbbdbaa.diskStays
open Go.ChangeShapes Go.WideShapes Go.ChangeAt Go.RowKit
set_option linter.unusedVariables false

theorem own : ownKnob Try.prog.godebug = none := by kernel_rfl
theorem laidOut : laidOutB Try.prog = true := by kernel_rfl
/-- four numbers by value -/
theorem okArr {w : World} {r : Reach} {base : Nat} {v : Value} (h : Value.okWide Try.prog w r base 31 v) : ∃ cs, v = .agg cs := by
  simp only [Value.okWide, Try.underlying31] at h
  obtain ⟨cs, h1, _⟩ := h
  exact ⟨cs, h1⟩

/-- the walk -/
theorem walk (l0 : List ActD) (ad0 : Option Addr) (cap0 : Nat) (l1 : List ActD) (ad1 : Option Addr) (cap1 : Nat) (K2 : Nat → Int) (K3 : Nat → Int) (w : World) (s0 : Acts w ad0 l0) (s1 : Acts w ad1 l1) (g2 : ∀ j, -9223372036854775808 ≤ K2 j ∧ K2 j ≤ 9223372036854775807) (g3 : ∀ j, -9223372036854775808 ≤ K3 j ∧ K3 j ≤ 9223372036854775807) :
    Calls Try.prog 4 #[.slice ad0 l0.length cap0, .slice ad1 l1.length cap1, .agg (kcells K2), .agg (kcells K3)] w fun e w' => e = .returned (.bool true) ∧ Below w.heap.size w w' := by
  exact lstays l0 l1 ad0 ad1 cap0 cap1 K2 K3 g2 g3 w s0 s1

set_option maxRecDepth 100000 in
theorem lifted (os : Os) (started : os.Started) (H : Type) (enc : TypeId × Value → H) :
    ReturnsInHanded {} Try.checked os 4 .any (Rows.diskStaysSpec.pre6 enc Try.prog Try.f4 Rows.diskStaysRow.domain false) (Rows.diskStaysSpec.post enc Try.prog Try.f4 false true false false) := by
  refine returnsInHanded_of_change_sized (C := Try.checked) own started (by kernel_rfl) Try.func4
    (ChangeSpec.witness6 (enc := enc) (C := Try.checked) false ⟨#[], #[.slice none 0 0, .slice none 0 0, .agg #[.int .i64 0, .int .i64 0, .int .i64 0, .int .i64 0], .agg #[.int .i64 0, .int .i64 0, .int .i64 0, .int .i64 0]], []⟩ 8 (by kernel_rfl) (by kernel_rfl) (by kernel_rfl) (by kernel_rfl)) ?_
  intro W base args ds gs before hval0 hW _ hsz0 _
  have hsz : (DataW.weightsEach Try.prog (Try.f4.params.toList ++ Rows.diskStaysSpec.plain.varTypes Try.prog) (ds ++ gs)).all (· ≤ reachBytes) = true := hsz0
  clear hsz0
  have hval : ∀ (j : Nat) t v, Try.f4.params[j]? = some t → args[j]? = some v → Value.okWide Try.prog W .any base t v := hval0
  have hW' := hW
  obtain ⟨p, q, hA0, hV, rfl, hfz, hnd⟩ := hW
  have hA : DataW.TrodAll enc Try.prog W 0 (fun _ => true) true Try.f4.params.toList args.toList ds p := hA0
  rw [Try.params4] at hA hval hsz
  obtain ⟨v0, vs0, d0, ds0, p0, q0, hargs, rfl, rfl, h0, rr0⟩ := trodAll_cons hA
  obtain ⟨v1, vs1, d1, ds1, p1, q1, rfl, rfl, rfl, h1, rr1⟩ := trodAll_cons rr0
  obtain ⟨v2, vs2, d2, ds2, p2, q2, rfl, rfl, rfl, h2, rr2⟩ := trodAll_cons rr1
  obtain ⟨v3, vs3, d3, ds3, p3, q3, rfl, rfl, rfl, h3, rr3⟩ := trodAll_cons rr2
  obtain ⟨rfl, rfl, rfl⟩ := trodAll_nil rr3
  obtain rfl : args = #[v0, v1, v2, v3] := by cases args; simp_all
  obtain ⟨rfl, rfl⟩ := trodVars_none hV
  have k0 := h0
  have lt0 : ∀ x ∈ p0, x.block < W.heap.size := by obtain ⟨m, hm⟩ := k0; exact DataW.trod_lt m _ _ _ hm
  obtain ⟨fu0, hf0⟩ := h0
  obtain ⟨ad0, len0, cap0, rfl⟩ := okWide_slice Try.underlying22 (hval 0 22 v0 rfl rfl)
  obtain ⟨l0, rfl, s0⟩ := open_acts (show DataW.trod enc Try.prog W 0 (fun _ => true) true fu0 22 [.slice ad0 len0 cap0] = some _ from hf0) (fun es rs hx => by
    have hx' : d0 = .slice es rs := hx
    have := sized_slice hsz (j := 0) (t := 22) (e := 33) (elems := es) (spare := rs) rfl (by rw [← hx']; rfl) Try.underlying22
    rw [Try.bytes33] at this
    simpa [reachBytes] using this)
  have k1 := h1
  have lt1 : ∀ x ∈ p1, x.block < W.heap.size := by obtain ⟨m, hm⟩ := k1; exact DataW.trod_lt m _ _ _ hm
  obtain ⟨fu1, hf1⟩ := h1
  obtain ⟨ad1, len1, cap1, rfl⟩ := okWide_slice Try.underlying22 (hval 1 22 v1 rfl rfl)
  obtain ⟨l1, rfl, s1⟩ := open_acts (show DataW.trod enc Try.prog W 0 (fun _ => true) true fu1 22 [.slice ad1 len1 cap1] = some _ from hf1) (fun es rs hx => by
    have hx' : d1 = .slice es rs := hx
    have := sized_slice hsz (j := 1) (t := 22) (e := 33) (elems := es) (spare := rs) rfl (by rw [← hx']; rfl) Try.underlying22
    rw [Try.bytes33] at this
    simpa [reachBytes] using this)
  have k2 := h2
  have lt2 : ∀ x ∈ p2, x.block < W.heap.size := by obtain ⟨m, hm⟩ := k2; exact DataW.trod_lt m _ _ _ hm
  obtain ⟨fu2, hf2⟩ := h2
  obtain ⟨cs2, rfl⟩ := okArr (hval 2 31 v2 rfl rfl)
  obtain ⟨x2a, x2b, x2c, x2d, e2, g2⟩ := open_four (show DataW.trod enc Try.prog W 0 (fun _ => true) true fu2 31 cs2.toList = some _ from hf2)
  obtain rfl : cs2 = kcells (kOf x2a x2b x2c x2d) := by apply Array.ext'; rw [e2]; rfl
  have k3 := h3
  have lt3 : ∀ x ∈ p3, x.block < W.heap.size := by obtain ⟨m, hm⟩ := k3; exact DataW.trod_lt m _ _ _ hm
  obtain ⟨fu3, hf3⟩ := h3
  obtain ⟨cs3, rfl⟩ := okArr (hval 3 31 v3 rfl rfl)
  obtain ⟨x3a, x3b, x3c, x3d, e3, g3⟩ := open_four (show DataW.trod enc Try.prog W 0 (fun _ => true) true fu3 31 cs3.toList = some _ from hf3)
  obtain rfl : cs3 = kcells (kOf x3a x3b x3c x3d) := by apply Array.ext'; rw [e3]; rfl
  clear hA0 hval0
  refine (walk l0 ad0 cap0 l1 ad1 cap1 _ _ W s0 s1 g2 g3).mono fun e W' ⟨he, bel⟩ => ?_
  subst he
  exact ⟨_, rfl, _, _, _, [], _, [], hW', trodAll_mk1 (shut_bool Try.underlying4 _), (trodAll_cons_mk (Below.trod laidOut (by kernel_rfl) (of_decide_eq_true (by kernel_rfl)) k0 bel lt0) (trodAll_cons_mk (Below.trod laidOut (by kernel_rfl) (of_decide_eq_true (by kernel_rfl)) k1 bel lt1) (trodAll_cons_mk (Below.trod laidOut (by kernel_rfl) (of_decide_eq_true (by kernel_rfl)) k2 bel lt2) (trodAll_cons_mk (Below.trod laidOut (by kernel_rfl) (of_decide_eq_true (by kernel_rfl)) k3 bel lt3) trodAll_mk0)))), rfl, bel.frame _, fun h => by cases h⟩

theorem over : Rows.diskStaysRow.holds Try.pinned (OpenSpec.ofChange Rows.diskStaysSpec) :=
  OpenClaim.holds_of_wide 4 Try.f4 rfl rfl rfl rfl rfl rfl rfl ⟨rfl, rfl, rfl, rfl, rfl⟩ rfl rfl rfl rfl rfl (by kernel_rfl) Try.func4 (by kernel_rfl)
    (of_decide_eq_true (by kernel_rfl)) (by unfold Func.isWrapper; first | (rw [if_pos (by decide +kernel)]; kernel_rfl) | (rw [if_neg (by decide +kernel)]; exact ⟨rfl, rfl⟩))
    (fun os started H enc _ => lifted os started H enc)

/-- the statement -/
theorem proved : Rows.DiskStaysSaid := over
#print axioms proved
end Go.Proofs.Ytfdebooimbbdbaa.diskStays
