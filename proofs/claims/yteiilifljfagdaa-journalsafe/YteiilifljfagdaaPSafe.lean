/- JournalSafe: for every input the law returns true, and what was handed in reads as it did. No condition beyond the row's own. -/
import Derived.Test.YteiilifljfagdaaZ3
import Derived.Test.YteiilifljfagdaaX
import Derived.Test.YteiilifljfagdaaX2
import Derived.Test.YteiilifljfagdaaX3
import Derived.Test.YteiilifljfagdaaRows
import Derived.WalkKit
import Derived.ProofKit
import Derived.OpenShut
import Derived.ChangeOld
import Derived.Below
import Derived.SizedLaws
import Derived.ChangeMaps5
import Derived.Lib.SmallJoins
namespace Go.Proofs.Yteiilifljfagdaa.journalSafe
open Go.ChangeShapes Go.WideShapes Go.ChangeAt Go.RowKit Go.ChangeMaps
set_option linter.unusedVariables false

theorem own : ownKnob Try.prog.godebug = none := by kernel_rfl
theorem laidOut : laidOutB Try.prog = true := by kernel_rfl
theorem bytes9 : Try.prog.bytesOf 9 = 16 := by kernel_rfl

/-- the walk -/
theorem walk (l0 : List ByteArray) (ad0 : Option Addr) (cap0 : Nat) (ad1 : Option Addr) (n1 cap1 : Nat) (ad2 : Option Addr) (n2 cap2 : Nat) (L2 : Nat → Int) (M2 : Nat → Nat → Int) (w : World) (t0 : Strs w ad0 l0) (c0 : l0.length ≤ cap0) (m0 : cap0 ≤ 9223372036854775807) (t1 : Byts w ad1 n1) (t2 : Blws w ad2 n2 L2 M2) :
    Calls Try.prog 4 #[.slice ad0 l0.length cap0, .slice ad1 n1 cap1, .slice ad2 n2 cap2] w fun e w' => e = .returned (.bool true) ∧ Below w.heap.size w w' := by
  exact lsafe l0 ad0 ad1 ad2 cap0 n1 cap1 n2 cap2 L2 M2 w t0 t1 t2

set_option maxRecDepth 100000 in
theorem lifted (os : Os) (started : os.Started) (H : Type) (enc : TypeId × Value → H) :
    ReturnsInHanded {} Try.checked os 4 .any (Rows.journalSafeSpec.pre6 enc Try.prog Try.f4 Rows.journalSafeRow.domain false) (Rows.journalSafeSpec.post enc Try.prog Try.f4 false true false false) := by
  refine returnsInHanded_of_change_sized (C := Try.checked) own started (by kernel_rfl) Try.func4
    (ChangeSpec.witness6 (enc := enc) (C := Try.checked) false ⟨#[], #[.slice none 0 0, .slice none 0 0, .slice none 0 0], []⟩ 8 (by kernel_rfl) (by kernel_rfl) (by kernel_rfl) (by kernel_rfl)) ?_
  intro W base args ds gs before hval0 hW _ hsz0 _
  have hsz : (DataW.weightsEach Try.prog (Try.f4.params.toList ++ Rows.journalSafeSpec.plain.varTypes Try.prog) (ds ++ gs)).all (· ≤ reachBytes) = true := hsz0
  clear hsz0
  have hval : ∀ (j : Nat) t v, Try.f4.params[j]? = some t → args[j]? = some v → Value.okWide Try.prog W .any base t v := hval0
  have hW' := hW
  obtain ⟨p, q, hA0, hV, rfl, hfz, hnd⟩ := hW
  have hA : DataW.TrodAll enc Try.prog W 0 (fun _ => true) true Try.f4.params.toList args.toList ds p := hA0
  rw [Try.params4] at hA hval hsz
  obtain ⟨v0, vs0, d0, ds0, p0, q0, hargs, rfl, rfl, h0, rr0⟩ := trodAll_cons hA
  obtain ⟨v1, vs1, d1, ds1, p1, q1, rfl, rfl, rfl, h1, rr1⟩ := trodAll_cons rr0
  obtain ⟨v2, vs2, d2, ds2, p2, q2, rfl, rfl, rfl, h2, rr2⟩ := trodAll_cons rr1
  obtain ⟨rfl, rfl, rfl⟩ := trodAll_nil rr2
  obtain rfl : args = #[v0, v1, v2] := by cases args; simp_all
  obtain ⟨rfl, rfl⟩ := trodVars_none hV
  have k0 := h0
  have lt0 : ∀ x ∈ p0, x.block < W.heap.size := by obtain ⟨m, hm⟩ := k0; exact DataW.trod_lt m _ _ _ hm
  obtain ⟨fu0, hf0⟩ := h0
  obtain ⟨ad0, len0, cap0, rfl⟩ := okWide_slice Try.underlying35 (hval 0 35 v0 rfl rfl)
  obtain ⟨l0, rfl, t0, c0, m0⟩ := open_texts (show DataW.trod enc Try.prog W 0 (fun _ => true) true fu0 35 [.slice ad0 len0 cap0] = some _ from hf0) (fun es rs hx => by
    have hx' : d0 = .slice es rs := hx
    have := sized_slice hsz (j := 0) (t := 35) (e := 9) (elems := es) (spare := rs) rfl (by rw [← hx']; rfl) Try.underlying35
    rw [bytes9] at this
    simpa [reachBytes] using this) (fun es rs hx bs hm => by
    have hx' : d0 = .slice es rs := hx
    have := sized_texts hsz (j := 0) (t := 35) (e := 9) (elems := es) (spare := rs) rfl (by rw [← hx']; rfl) Try.underlying35 hm
    simpa [reachBytes] using this)
  have k1 := h1
  have lt1 : ∀ x ∈ p1, x.block < W.heap.size := by obtain ⟨m, hm⟩ := k1; exact DataW.trod_lt m _ _ _ hm
  obtain ⟨fu1, hf1⟩ := h1
  obtain ⟨ad1, len1, cap1, rfl⟩ := okWide_slice Try.underlying55 (hval 1 55 v1 rfl rfl)
  have t1 := open_byts (show DataW.trod enc Try.prog W 0 (fun _ => true) true fu1 55 [.slice ad1 len1 cap1] = some _ from hf1) (fun es rs hx => by
    have hx' : d1 = .slice es rs := hx
    have := sized_slice hsz (j := 1) (t := 55) (e := 5) (elems := es) (spare := rs) rfl (by rw [← hx']; rfl) Try.underlying55
    rw [Try.bytes5] at this
    simpa [reachBytes] using this)
  have k2 := h2
  have lt2 : ∀ x ∈ p2, x.block < W.heap.size := by obtain ⟨m, hm⟩ := k2; exact DataW.trod_lt m _ _ _ hm
  obtain ⟨fu2, hf2⟩ := h2
  obtain ⟨ad2, len2, cap2, rfl⟩ := okWide_slice Try.underlying56 (hval 2 56 v2 rfl rfl)
  obtain ⟨L2, M2, t2⟩ := open_blows (show DataW.trod enc Try.prog W 0 (fun _ => true) true fu2 56 [.slice ad2 len2 cap2] = some _ from hf2) (fun es rs hx => by
    have hx' : d2 = .slice es rs := hx
    have := sized_slice hsz (j := 2) (t := 56) (e := 60) (elems := es) (spare := rs) rfl (by rw [← hx']; rfl) Try.underlying56
    rw [Try.bytes60] at this
    simpa [reachBytes] using this)
  clear hA0 hval0
  refine (walk l0 ad0 cap0 ad1 len1 cap1 ad2 len2 cap2 L2 M2 W t0 c0 m0 t1 t2).mono fun e W' ⟨he, bel⟩ => ?_
  subst he
  exact ⟨_, rfl, _, _, _, [], _, [], hW', trodAll_mk1 (shut_bool Try.underlying4 _), (trodAll_cons_mk (Below.trod laidOut (by kernel_rfl) (of_decide_eq_true (by kernel_rfl)) k0 bel lt0) (trodAll_cons_mk (Below.trod laidOut (by kernel_rfl) (of_decide_eq_true (by kernel_rfl)) k1 bel lt1) (trodAll_cons_mk (Below.trod laidOut (by kernel_rfl) (of_decide_eq_true (by kernel_rfl)) k2 bel lt2) trodAll_mk0))), rfl, bel.frame _, fun h => by cases h⟩

theorem over : Rows.journalSafeRow.holds Try.pinned (OpenSpec.ofChange Rows.journalSafeSpec) :=
  OpenClaim.holds_of_wide 4 Try.f4 rfl rfl rfl rfl rfl rfl rfl ⟨rfl, rfl, rfl, rfl, rfl⟩ rfl rfl rfl rfl rfl (by kernel_rfl) Try.func4 (by kernel_rfl)
    (of_decide_eq_true (by kernel_rfl)) (by unfold Func.isWrapper; first | (rw [if_pos (by decide +kernel)]; kernel_rfl) | (rw [if_neg (by decide +kernel)]; exact ⟨rfl, rfl⟩))
    (fun os started H enc _ => lifted os started H enc)

/-- the statement -/
theorem proved : Rows.JournalSafeSaid := over
#print axioms proved
end Go.Proofs.Yteiilifljfagdaa.journalSafe
