/- A call of both readers, kind by kind. -/
import Derived.Test.YtgdoeflnfcjefaaS
import Derived.Test.YtgdoeflnfcjefaaO
import Derived.WalkKit
import Derived.ProofKit
import Derived.Handy
import Derived.WalkLawsBesides
import Derived.WalkSpells
import Derived.BigQuiet
import Derived.BigCall
import Derived.Deep.QuietTactic
import Derived.Deep.Light
import Derived.Deep.OwnRows
import Derived.Laws.AppendOwnNone
import Derived.Laws.Strings3
import Derived.Laws.RangeAny
import Derived.Deep.RegionWith
import Derived.Lib.BitFns
import Derived.Lib.Walk
import Derived.Lib.Strings
import Derived.Lib.OthersKept
import Derived.Deep.CutBlock
import Derived.Deep.DeepCutAuto
import Derived.Deep.LoopGhost
import Derived.Deep.RegionHeld3
import Derived.Lib.SmallJoins
import Derived.Maps.AppendAt
import Derived.Laws.IdiomStrings
import Derived.Lib.AppendZeros
import Derived.Deep.WholeRow
import Derived.Laws.BitsAllLaws
import Derived.Lib.ConvBytes
import Derived.Deep.RegionLaw
namespace Go.Proofs.Ytgdoeflnfcjefaa
open Go.RowKit
set_option linter.unusedVariables false
set_option linter.unusedSimpArgs false
theorem tfl {r : Rd} {S : ByteArray} (hS : S = ⟨r.s.toArray⟩) {m : Int} (hm : I64 m) (hr : r.at_ ≤ r.s.length) (hs : r.s.length ≤ 1099511627776) (w : World) : Calls Try.prog 39 #[.agg #[.string S, .int .i64 r.at_, .int .i64 r.e], .int .i64 m] w fun e w' => e = .returned (.tuple #[.agg #[.string S, .int .i64 (rText r m).1.at_, .int .i64 (rText r m).1.e], .string ⟨(rText r m).2.toArray⟩]) ∧ Hid (Below w.heap.size w w') := by
  have h := qtext r m hm hr hs w
  unfold QP at h
  rw [qlit hS (X := (rText r m).1) (rText_ok (show r.Ok from hr) m).2, qlit hS rfl] at h
  exact h
theorem bfl {r : Rd} {S : ByteArray} (hS : S = ⟨r.s.toArray⟩) (hr : r.at_ ≤ r.s.length) (hs : r.s.length ≤ 1099511627776) (w : World) : Calls Try.prog 40 #[.agg #[.string S, .int .i64 r.at_, .int .i64 r.e]] w fun e w' => e = .returned (.tuple #[.agg #[.string S, .int .i64 (rBool r).1.at_, .int .i64 (rBool r).1.e], .bool (rBool r).2]) ∧ Hid (Below w.heap.size w w') := by
  have h := qbool r hr hs w
  unfold QP at h
  rw [qlit hS (X := (rBool r).1) (rBool_ok (show r.Ok from hr)).2, qlit hS rfl] at h
  exact h
theorem efl {r : Rd} {S : ByteArray} (hS : S = ⟨r.s.toArray⟩) (hr : r.at_ ≤ r.s.length) (hs : r.s.length ≤ 1099511627776) (w : World) : Calls Try.prog 43 #[.agg #[.string S, .int .i64 r.at_, .int .i64 r.e]] w fun e w' => e = .returned (.tuple #[.agg #[.string S, .int .i64 (rEnd r).1.at_, .int .i64 (rEnd r).1.e], .bool (rEnd r).2]) ∧ Hid (Below w.heap.size w w') := by
  have h := qend r hr hs w
  unfold QP at h
  rw [qlit hS (X := (rEnd r).1) (rEnd_ok (show r.Ok from hr)).2, qlit hS rfl] at h
  exact h
theorem lfl {r : Rd} {S : ByteArray} (hS : S = ⟨r.s.toArray⟩) {m : Int} (hm : I64 m) (hr : r.at_ ≤ r.s.length) (hs : r.s.length ≤ 1099511627776) (w : World) : Calls Try.prog 41 #[.agg #[.string S, .int .i64 r.at_, .int .i64 r.e], .int .i64 m] w fun e w' => ∃ v, e = .returned (.tuple #[.agg #[.string S, .int .i64 (rInts r m).1.at_, .int .i64 (rInts r m).1.e], v]) ∧ Hid (w'.ownsRow w.heap.size 3 1 v (rInts r m).2.length (icells (rInts r m).2)) ∧ Hid (Below w.heap.size w w') := by
  have h := qints r m hm hr hs w
  unfold QI at h
  rw [qlit hS (X := (rInts r m).1) (rInts_ok (show r.Ok from hr) m).2, qlit hS rfl] at h
  refine h.mono ?_
  rintro e w' ⟨v, xs, he, ho, hx, hb⟩
  have hx2 : xs = (rInts r m).2 := hx
  subst hx2
  exact ⟨v, he, ho, hb⟩
/-- in the midst of a call of both: the program's reader P at q, the reference's R at p, the next one X at y -/
structure Md (B p q y : Nat) (P R X : Rd) (w wA : World) : Prop where
  rm : Rm wA q P
  rq : Rq wA p R
  ry : Rq wA y X
  bel : Below B w wA
  bw : B ≤ wA.heap.size
  bp : B ≤ p
  bq : B ≤ q
  yp : p < y
  yq : q < y
theorem Rm.ne {w : World} {q p : Nat} {a b : Rd} (h : Rm w q a) (k : Rq w p b) : p ≠ q := by
  rintro rfl
  have h1 := h.blk
  rw [k.blk] at h1
  injection h1 with h1
  injection h1 with _ e2 _
  exact absurd e2 (by decide)
theorem Md.start {B p q : Nat} {r : Rd} {w : World} (h : Rm w q r) (k : Rq w p r) (bw : B ≤ w.heap.size) (bp : B ≤ p) (bq : B ≤ q) : Md B p q w.heap.size r r r w (w.alloc (.cells (qcells r) 39)) :=
  ⟨h.keep (below_new _ _), k.keep (below_new _ _), Rq.new _ _, (Below.refl _ _).alloc bw _, by simp; omega, bp, bq, k.lt, h.lt⟩
section
variable {B p q y : Nat} {P R X : Rd} {w wA w' : World}
theorem Md.below (h : Md B p q y P R X w wA) (hb : Below wA.heap.size wA w') : Md B p q y P R X w w' :=
  ⟨h.rm.keep hb, h.rq.keep hb, h.ry.keep hb, h.bel.trans (hb.mono h.bw), Nat.le_trans h.bw hb.size, h.bp, h.bq, h.yp, h.yq⟩
theorem Md.setY (h : Md B p q y P R X w wA) (Y : Rd) : Md B p q y P R Y w (wA.setRow y (qcells Y)) :=
  ⟨h.rm.same (setRow_other _ _ _ _ (by have := h.yq; omega)), h.rq.aside (by have := h.yp; omega), h.ry.put Y, below_setRow h.bel (by have := h.yp; have := h.bp; omega), by have := h.bw; simpa [World.setRow] using this, h.bp, h.bq, h.yp, h.yq⟩
theorem Md.prog (h : Md B p q y P R X w wA) {P' : Rd} (hr : Rm w' q P') (hb : Bt q wA w') : Md B p q y P' R X w w' :=
  ⟨hr, ⟨hb.other h.rq.blk (h.rm.ne h.rq)⟩, ⟨hb.other h.ry.blk (h.rm.ne h.ry)⟩, h.bel.trans (hb.below h.bq h.bw), Nat.le_trans h.bw hb.size, h.bp, h.bq, h.yp, h.yq⟩
theorem Md.fin (h : Md B p q y P R X w wA) : Md B p q y P X X w (wA.setRow p (qcells X)) :=
  ⟨h.rm.same (setRow_other _ _ _ _ (fun e => h.rm.ne h.rq e.symm)), h.rq.put X, h.ry.aside (by have := h.yp; omega), below_setRow h.bel h.bp, by have := h.bw; simpa [World.setRow] using this, h.bp, h.bq, h.yp, h.yq⟩
theorem Md.drewN (h : Md B p q y P R X w wA) (n : Nat) : Md B p q y P R X w (wA.drewN n) := ⟨h.rm.drewN n, h.rq.drewN n, h.ry.drewN n, bdrew h.bel n, h.bw, h.bp, h.bq, h.yp, h.yq⟩
end
/-- what a call of both leaves -/
def LP (B p q : Nat) (X : Rd) (w : World) (e : Ending) (w' : World) : Prop := e = .returned (.bool true) ∧ Hid (Rm w' q X) ∧ Hid (Rq w' p X) ∧ Hid (Below B w w')
theorem LP.mk {B p q y : Nat} {X R Y : Rd} {w w' : World} {b : Bool} (hb : b = true) (h : Md B p q y X X X w w') : LP B p q X w (.returned (.bool b)) w' := ⟨by rw [hb], h.rm, h.rq, h.bel⟩
theorem rInts_len {r : Rd} (h : r.at_ ≤ r.s.length) (m : Int) : (rInts r m).2.length ≤ r.s.length + 1 := by
  have h1 := rCount_ok (show r.Ok from h) m
  have h2 := rIs_len (rCount r m).2 h1.1
  rw [h1.2] at h2
  unfold rInts
  split
  · simp
  · omega
set_option maxHeartbeats 4000000 in
theorem lreads0 (B p q : Nat) (r : Rd) (m : Int) (hm : I64 m) (w : World) (h : Rm w q r) (k : Rq w p r) (bw : B ≤ w.heap.size) (bp : B ≤ p) (bq : B ≤ q) (hs0 : r.s.length ≤ 1000000) : Calls Try.prog 17 #[.pointer (some ⟨q, 0, none⟩), .pointer (some ⟨p, 0, none⟩), .int .i64 0, .int .i64 m] w (LP B p q (rUint r).1 w) := by
  obtain ⟨S, HS⟩ : ∃ S : ByteArray, Hid (S = ⟨r.s.toArray⟩) := ⟨_, rfl⟩
  have hr := h.le
  have hs : r.s.length ≤ 1099511627776 := by omega
  have HC : Hid (∀ w, Calls Try.prog 37 #[.agg #[.string S, .int .i64 r.at_, .int .i64 r.e]] w fun e w' => e = .returned (.tuple #[.agg #[.string S, .int .i64 (rUint r).1.at_, .int .i64 (rUint r).1.e], .int .u64 (rUint r).2]) ∧ Hid (Below w.heap.size w w')) := fun w => ufl HS.out hr hs w
  have HX : Hid ((rUint r).1.s = r.s) := (rUint_ok (show r.Ok from hr)).2.1
  have HP : Hid (∀ w, Rm w q r → Calls Try.prog 18 #[.pointer (some ⟨q, 0, none⟩)] w (RP q (.int .u64 (rUint r).2) (rUint r).1 w)) := fun w h => xuint q r w h
  have HM0 : Hid (Md B p q w.heap.size r r r w (w.alloc (.cells (qcells r) 39))) := Md.start h k bw bp bq
  have HE0 : Hid (w.alloc (.cells #[.string S, .int .i64 r.at_, .int .i64 r.e] 39) = w.alloc (.cells (qcells r) 39)) := by unfold Hid; rw [qlit HS.out rfl]
  have c0 : w.cell? ⟨p, 0, none⟩ = some (.string S) := by rw [HS.out]; exact k.cell 0
  have c1 : w.cell? ⟨p, 1, none⟩ = some (.int .i64 r.at_) := k.cell 1
  have c2 : w.cell? ⟨p, 2, none⟩ = some (.int .i64 r.e) := k.cell 2
  have hpl := k.lt
  clear h k bw bp bq hr hs hs0
  obtain ⟨hm1, hm2⟩ := hm
  generalize (rUint r).1 = X at *
  generalize (rUint r).2 = V at *
  go_enter Try.func17, Try.ntmps17
  go_upto_region 2 with fail
  rw [HE0.out]
  generalize w.alloc (.cells (qcells r) 39) = wA at *
  generalize w.heap.size = y at *
  clear HE0 c0 c1 c2 hpl
  have c0 : wA.cell? ⟨p, 0, none⟩ = some (.string S) := by rw [HS.out]; exact HM0.out.rq.cell 0
  have c1 : wA.cell? ⟨p, 1, none⟩ = some (.int .i64 r.at_) := HM0.out.rq.cell 1
  have c2 : wA.cell? ⟨p, 2, none⟩ = some (.int .i64 r.e) := HM0.out.rq.cell 2
  go_wp2_with fail
  refine (HC.out _).mono ?_
  rintro e w3 ⟨rfl, HB3⟩
  have HM3 : Hid (Md B p q y r r r w w3) := HM0.out.below HB3.out
  have HE3 : Hid (w3.alloc (.cells #[.string S, .int .i64 X.at_, .int .i64 X.e] 39) = w3.alloc (.cells (qcells X) 39)) := by unfold Hid; rw [qlit HS.out HX.out]
  have HM4 : Hid (Md B p q y r r r w (w3.alloc (.cells (qcells X) 39))) := HM3.out.below (below_new _ _)
  have HN4 : Hid (Rq (w3.alloc (.cells (qcells X) 39)) w3.heap.size X) := Rq.new _ _
  clear c0 c1 c2
  go_upto_region 9 with fail
  rw [HE3.out]
  generalize w3.alloc (.cells (qcells X) 39) = w4 at *
  generalize w3.heap.size = n at *
  clear HE3 HM3 HM0 HB3 HC
  have n0 : w4.cell? ⟨n, 0, none⟩ = some (.string S) := by rw [HS.out, ← HX.out]; exact HN4.out.cell 0
  have n1 : w4.cell? ⟨n, 1, none⟩ = some (.int .i64 X.at_) := HN4.out.cell 1
  have n2 : w4.cell? ⟨n, 2, none⟩ = some (.int .i64 X.e) := HN4.out.cell 2
  have y0 : w4.cell? ⟨y, 0, none⟩ = some (.string S) := by rw [HS.out]; exact HM4.out.ry.cell 0
  have y1 : w4.cell? ⟨y, 1, none⟩ = some (.int .i64 r.at_) := HM4.out.ry.cell 1
  have y2 : w4.cell? ⟨y, 2, none⟩ = some (.int .i64 r.e) := HM4.out.ry.cell 2
  have f0 := HM4.out.ry.froz 0
  have f1 := HM4.out.ry.froz 1
  have f2 := HM4.out.ry.froz 2
  have HT4 : Hid (((w4.setCell ⟨y, 0, none⟩ (.string S)).setCell ⟨y, 1, none⟩ (.int .i64 X.at_)).setCell ⟨y, 2, none⟩ (.int .i64 X.e) = w4.setRow y (qcells X)) := three_lit HM4.out.ry HS.out HX.out
  have HM5 : Hid (Md B p q y r r X w (w4.setRow y (qcells X))) := HM4.out.setY X
  go_upto_region 10 with fail
  rw [HT4.out]
  generalize w4.setRow y (qcells X) = w5 at *
  clear n0 n1 n2 y0 y1 y2 f0 f1 f2 HT4 HM4 HN4
  have HP5 : Hid (Calls Try.prog 18 #[.pointer (some ⟨q, 0, none⟩)] w5 (RP q (.int .u64 V) X w5)) := HP.out _ HM5.out.rm
  go_wp2_with fail
  refine HP5.out.mono ?_
  rintro e w6 ⟨rfl, HR6, HB6⟩
  have HM6 : Hid (Md B p q y X r X w w6) := HM5.out.prog HR6.out HB6.out
  have y0 : w6.cell? ⟨y, 0, none⟩ = some (.string S) := by rw [HS.out, ← HX.out]; exact HM6.out.ry.cell 0
  have y1 : w6.cell? ⟨y, 1, none⟩ = some (.int .i64 X.at_) := HM6.out.ry.cell 1
  have y2 : w6.cell? ⟨y, 2, none⟩ = some (.int .i64 X.e) := HM6.out.ry.cell 2
  have c0 : w6.cell? ⟨p, 0, none⟩ = some (.string S) := by rw [HS.out]; exact HM6.out.rq.cell 0
  have c1 : w6.cell? ⟨p, 1, none⟩ = some (.int .i64 r.at_) := HM6.out.rq.cell 1
  have c2 : w6.cell? ⟨p, 2, none⟩ = some (.int .i64 r.e) := HM6.out.rq.cell 2
  have f0 := HM6.out.rq.froz 0
  have f1 := HM6.out.rq.froz 1
  have f2 := HM6.out.rq.froz 2
  have HT6 : Hid (((w6.setCell ⟨p, 0, none⟩ (.string S)).setCell ⟨p, 1, none⟩ (.int .i64 X.at_)).setCell ⟨p, 2, none⟩ (.int .i64 X.e) = w6.setRow p (qcells X)) := three_lit HM6.out.rq HS.out HX.out
  have HM8 : Hid (Md B p q y X X X w (w6.setRow p (qcells X))) := HM6.out.fin
  go_upto_region 36 with fail
  rw [HT6.out]
  generalize w6.setRow p (qcells X) = w8 at *
  clear y0 y1 y2 c0 c1 c2 f0 f1 f2 HT6 HM6
  have c1 : w8.cell? ⟨p, 1, none⟩ = some (.int .i64 X.at_) := HM8.out.rq.cell 1
  have c2 : w8.cell? ⟨p, 2, none⟩ = some (.int .i64 X.e) := HM8.out.rq.cell 2
  have HA : Hid (∀ n, Calls Try.prog 25 #[.pointer (some ⟨q, 0, none⟩)] (w8.drewN n) fun e w' => e = .returned (.int .i64 (X.at_ : Int)) ∧ w' = w8.drewN n) := fun n => (xat q X _ (HM8.out.rm.drewN n)).mono fun _ _ h => ⟨h.1, h.2.symm⟩
  have HR : Hid (∀ n, Calls Try.prog 24 #[.pointer (some ⟨q, 0, none⟩)] (w8.drewN n) fun e w' => e = .returned (.int .i64 (X.e : Int)) ∧ w' = w8.drewN n) := fun n => (xerr q X _ (HM8.out.rm.drewN n)).mono fun _ _ h => ⟨h.1, h.2.symm⟩
  go_quiet (first | (go_at_call 25; refine Calls.quiet_of_same (HA.out _)) | (go_at_call 24; refine Calls.quiet_of_same (HR.out _)))
  go_wp2_with fail
  go_ret
  exact LP.mk (R := X) (Y := X) (by simp) (HM8.out.drewN _)
set_option maxHeartbeats 4000000 in
theorem lreads1 (B p q : Nat) (r : Rd) (m : Int) (hm : I64 m) (w : World) (h : Rm w q r) (k : Rq w p r) (bw : B ≤ w.heap.size) (bp : B ≤ p) (bq : B ≤ q) (hs0 : r.s.length ≤ 1000000) : Calls Try.prog 17 #[.pointer (some ⟨q, 0, none⟩), .pointer (some ⟨p, 0, none⟩), .int .i64 1, .int .i64 m] w (LP B p q (rInt r).1 w) := by
  obtain ⟨S, HS⟩ : ∃ S : ByteArray, Hid (S = ⟨r.s.toArray⟩) := ⟨_, rfl⟩
  have hr := h.le
  have hs : r.s.length ≤ 1099511627776 := by omega
  have HC : Hid (∀ w, Calls Try.prog 38 #[.agg #[.string S, .int .i64 r.at_, .int .i64 r.e]] w fun e w' => e = .returned (.tuple #[.agg #[.string S, .int .i64 (rInt r).1.at_, .int .i64 (rInt r).1.e], .int .i64 (rInt r).2]) ∧ Hid (Below w.heap.size w w')) := fun w => ifl HS.out rfl hr hs w
  have HX : Hid ((rInt r).1.s = r.s) := (rInt_ok (show r.Ok from hr)).2.1
  have HP : Hid (∀ w, Rm w q r → Calls Try.prog 19 #[.pointer (some ⟨q, 0, none⟩)] w (RP q (.int .i64 (rInt r).2) (rInt r).1 w)) := fun w h => xint q r w h
  have HM0 : Hid (Md B p q w.heap.size r r r w (w.alloc (.cells (qcells r) 39))) := Md.start h k bw bp bq
  have HE0 : Hid (w.alloc (.cells #[.string S, .int .i64 r.at_, .int .i64 r.e] 39) = w.alloc (.cells (qcells r) 39)) := by unfold Hid; rw [qlit HS.out rfl]
  have c0 : w.cell? ⟨p, 0, none⟩ = some (.string S) := by rw [HS.out]; exact k.cell 0
  have c1 : w.cell? ⟨p, 1, none⟩ = some (.int .i64 r.at_) := k.cell 1
  have c2 : w.cell? ⟨p, 2, none⟩ = some (.int .i64 r.e) := k.cell 2
  have hpl := k.lt
  clear h k bw bp bq hr hs hs0
  obtain ⟨hm1, hm2⟩ := hm
  generalize (rInt r).1 = X at *
  generalize (rInt r).2 = V at *
  go_enter Try.func17, Try.ntmps17
  go_upto_region 2 with fail
  rw [HE0.out]
  generalize w.alloc (.cells (qcells r) 39) = wA at *
  generalize w.heap.size = y at *
  clear HE0 c0 c1 c2 hpl
  have c0 : wA.cell? ⟨p, 0, none⟩ = some (.string S) := by rw [HS.out]; exact HM0.out.rq.cell 0
  have c1 : wA.cell? ⟨p, 1, none⟩ = some (.int .i64 r.at_) := HM0.out.rq.cell 1
  have c2 : wA.cell? ⟨p, 2, none⟩ = some (.int .i64 r.e) := HM0.out.rq.cell 2
  go_wp2_with fail
  refine (HC.out _).mono ?_
  rintro e w3 ⟨rfl, HB3⟩
  have HM3 : Hid (Md B p q y r r r w w3) := HM0.out.below HB3.out
  have HE3 : Hid (w3.alloc (.cells #[.string S, .int .i64 X.at_, .int .i64 X.e] 39) = w3.alloc (.cells (qcells X) 39)) := by unfold Hid; rw [qlit HS.out HX.out]
  have HM4 : Hid (Md B p q y r r r w (w3.alloc (.cells (qcells X) 39))) := HM3.out.below (below_new _ _)
  have HN4 : Hid (Rq (w3.alloc (.cells (qcells X) 39)) w3.heap.size X) := Rq.new _ _
  clear c0 c1 c2
  go_upto_region 13 with fail
  rw [HE3.out]
  generalize w3.alloc (.cells (qcells X) 39) = w4 at *
  generalize w3.heap.size = n at *
  clear HE3 HM3 HM0 HB3 HC
  have n0 : w4.cell? ⟨n, 0, none⟩ = some (.string S) := by rw [HS.out, ← HX.out]; exact HN4.out.cell 0
  have n1 : w4.cell? ⟨n, 1, none⟩ = some (.int .i64 X.at_) := HN4.out.cell 1
  have n2 : w4.cell? ⟨n, 2, none⟩ = some (.int .i64 X.e) := HN4.out.cell 2
  have y0 : w4.cell? ⟨y, 0, none⟩ = some (.string S) := by rw [HS.out]; exact HM4.out.ry.cell 0
  have y1 : w4.cell? ⟨y, 1, none⟩ = some (.int .i64 r.at_) := HM4.out.ry.cell 1
  have y2 : w4.cell? ⟨y, 2, none⟩ = some (.int .i64 r.e) := HM4.out.ry.cell 2
  have f0 := HM4.out.ry.froz 0
  have f1 := HM4.out.ry.froz 1
  have f2 := HM4.out.ry.froz 2
  have HT4 : Hid (((w4.setCell ⟨y, 0, none⟩ (.string S)).setCell ⟨y, 1, none⟩ (.int .i64 X.at_)).setCell ⟨y, 2, none⟩ (.int .i64 X.e) = w4.setRow y (qcells X)) := three_lit HM4.out.ry HS.out HX.out
  have HM5 : Hid (Md B p q y r r X w (w4.setRow y (qcells X))) := HM4.out.setY X
  go_upto_region 14 with fail
  rw [HT4.out]
  generalize w4.setRow y (qcells X) = w5 at *
  clear n0 n1 n2 y0 y1 y2 f0 f1 f2 HT4 HM4 HN4
  have HP5 : Hid (Calls Try.prog 19 #[.pointer (some ⟨q, 0, none⟩)] w5 (RP q (.int .i64 V) X w5)) := HP.out _ HM5.out.rm
  go_wp2_with fail
  refine HP5.out.mono ?_
  rintro e w6 ⟨rfl, HR6, HB6⟩
  have HM6 : Hid (Md B p q y X r X w w6) := HM5.out.prog HR6.out HB6.out
  have y0 : w6.cell? ⟨y, 0, none⟩ = some (.string S) := by rw [HS.out, ← HX.out]; exact HM6.out.ry.cell 0
  have y1 : w6.cell? ⟨y, 1, none⟩ = some (.int .i64 X.at_) := HM6.out.ry.cell 1
  have y2 : w6.cell? ⟨y, 2, none⟩ = some (.int .i64 X.e) := HM6.out.ry.cell 2
  have c0 : w6.cell? ⟨p, 0, none⟩ = some (.string S) := by rw [HS.out]; exact HM6.out.rq.cell 0
  have c1 : w6.cell? ⟨p, 1, none⟩ = some (.int .i64 r.at_) := HM6.out.rq.cell 1
  have c2 : w6.cell? ⟨p, 2, none⟩ = some (.int .i64 r.e) := HM6.out.rq.cell 2
  have f0 := HM6.out.rq.froz 0
  have f1 := HM6.out.rq.froz 1
  have f2 := HM6.out.rq.froz 2
  have HT6 : Hid (((w6.setCell ⟨p, 0, none⟩ (.string S)).setCell ⟨p, 1, none⟩ (.int .i64 X.at_)).setCell ⟨p, 2, none⟩ (.int .i64 X.e) = w6.setRow p (qcells X)) := three_lit HM6.out.rq HS.out HX.out
  have HM8 : Hid (Md B p q y X X X w (w6.setRow p (qcells X))) := HM6.out.fin
  go_upto_region 36 with fail
  rw [HT6.out]
  generalize w6.setRow p (qcells X) = w8 at *
  clear y0 y1 y2 c0 c1 c2 f0 f1 f2 HT6 HM6
  have c1 : w8.cell? ⟨p, 1, none⟩ = some (.int .i64 X.at_) := HM8.out.rq.cell 1
  have c2 : w8.cell? ⟨p, 2, none⟩ = some (.int .i64 X.e) := HM8.out.rq.cell 2
  have HA : Hid (∀ n, Calls Try.prog 25 #[.pointer (some ⟨q, 0, none⟩)] (w8.drewN n) fun e w' => e = .returned (.int .i64 (X.at_ : Int)) ∧ w' = w8.drewN n) := fun n => (xat q X _ (HM8.out.rm.drewN n)).mono fun _ _ h => ⟨h.1, h.2.symm⟩
  have HR : Hid (∀ n, Calls Try.prog 24 #[.pointer (some ⟨q, 0, none⟩)] (w8.drewN n) fun e w' => e = .returned (.int .i64 (X.e : Int)) ∧ w' = w8.drewN n) := fun n => (xerr q X _ (HM8.out.rm.drewN n)).mono fun _ _ h => ⟨h.1, h.2.symm⟩
  go_quiet (first | (go_at_call 25; refine Calls.quiet_of_same (HA.out _)) | (go_at_call 24; refine Calls.quiet_of_same (HR.out _)))
  go_wp2_with fail
  go_ret
  exact LP.mk (R := X) (Y := X) (by simp) (HM8.out.drewN _)
set_option maxHeartbeats 4000000 in
theorem lreads2 (B p q : Nat) (r : Rd) (m : Int) (hm : I64 m) (w : World) (h : Rm w q r) (k : Rq w p r) (bw : B ≤ w.heap.size) (bp : B ≤ p) (bq : B ≤ q) (hs0 : r.s.length ≤ 1000000) : Calls Try.prog 17 #[.pointer (some ⟨q, 0, none⟩), .pointer (some ⟨p, 0, none⟩), .int .i64 2, .int .i64 m] w (LP B p q (rText r m).1 w) := by
  obtain ⟨S, HS⟩ : ∃ S : ByteArray, Hid (S = ⟨r.s.toArray⟩) := ⟨_, rfl⟩
  have hr := h.le
  have hs : r.s.length ≤ 1099511627776 := by omega
  have HC : Hid (∀ w, Calls Try.prog 39 #[.agg #[.string S, .int .i64 r.at_, .int .i64 r.e], .int .i64 m] w fun e w' => e = .returned (.tuple #[.agg #[.string S, .int .i64 (rText r m).1.at_, .int .i64 (rText r m).1.e], .string ⟨(rText r m).2.toArray⟩]) ∧ Hid (Below w.heap.size w w')) := fun w => tfl HS.out hm hr hs w
  have HX : Hid ((rText r m).1.s = r.s) := (rText_ok (show r.Ok from hr) m).2
  have HP : Hid (∀ w, Rm w q r → Calls Try.prog 20 #[.pointer (some ⟨q, 0, none⟩), .int .i64 m] w (RP q (.string ⟨(rText r m).2.toArray⟩) (rText r m).1 w)) := fun w h => xtext q r m hm w h (by omega)
  have HM0 : Hid (Md B p q w.heap.size r r r w (w.alloc (.cells (qcells r) 39))) := Md.start h k bw bp bq
  have HE0 : Hid (w.alloc (.cells #[.string S, .int .i64 r.at_, .int .i64 r.e] 39) = w.alloc (.cells (qcells r) 39)) := by unfold Hid; rw [qlit HS.out rfl]
  have c0 : w.cell? ⟨p, 0, none⟩ = some (.string S) := by rw [HS.out]; exact k.cell 0
  have c1 : w.cell? ⟨p, 1, none⟩ = some (.int .i64 r.at_) := k.cell 1
  have c2 : w.cell? ⟨p, 2, none⟩ = some (.int .i64 r.e) := k.cell 2
  have hpl := k.lt
  clear h k bw bp bq hr hs hs0
  obtain ⟨hm1, hm2⟩ := hm
  generalize (rText r m).1 = X at *
  generalize (⟨(rText r m).2.toArray⟩ : ByteArray) = V at *
  go_enter Try.func17, Try.ntmps17
  go_upto_region 2 with fail
  rw [HE0.out]
  generalize w.alloc (.cells (qcells r) 39) = wA at *
  generalize w.heap.size = y at *
  clear HE0 c0 c1 c2 hpl
  have c0 : wA.cell? ⟨p, 0, none⟩ = some (.string S) := by rw [HS.out]; exact HM0.out.rq.cell 0
  have c1 : wA.cell? ⟨p, 1, none⟩ = some (.int .i64 r.at_) := HM0.out.rq.cell 1
  have c2 : wA.cell? ⟨p, 2, none⟩ = some (.int .i64 r.e) := HM0.out.rq.cell 2
  go_wp2_with fail
  refine (HC.out _).mono ?_
  rintro e w3 ⟨rfl, HB3⟩
  have HM3 : Hid (Md B p q y r r r w w3) := HM0.out.below HB3.out
  have HE3 : Hid (w3.alloc (.cells #[.string S, .int .i64 X.at_, .int .i64 X.e] 39) = w3.alloc (.cells (qcells X) 39)) := by unfold Hid; rw [qlit HS.out HX.out]
  have HM4 : Hid (Md B p q y r r r w (w3.alloc (.cells (qcells X) 39))) := HM3.out.below (below_new _ _)
  have HN4 : Hid (Rq (w3.alloc (.cells (qcells X) 39)) w3.heap.size X) := Rq.new _ _
  clear c0 c1 c2
  go_upto_region 17 with fail
  rw [HE3.out]
  generalize w3.alloc (.cells (qcells X) 39) = w4 at *
  generalize w3.heap.size = n at *
  clear HE3 HM3 HM0 HB3 HC
  have n0 : w4.cell? ⟨n, 0, none⟩ = some (.string S) := by rw [HS.out, ← HX.out]; exact HN4.out.cell 0
  have n1 : w4.cell? ⟨n, 1, none⟩ = some (.int .i64 X.at_) := HN4.out.cell 1
  have n2 : w4.cell? ⟨n, 2, none⟩ = some (.int .i64 X.e) := HN4.out.cell 2
  have y0 : w4.cell? ⟨y, 0, none⟩ = some (.string S) := by rw [HS.out]; exact HM4.out.ry.cell 0
  have y1 : w4.cell? ⟨y, 1, none⟩ = some (.int .i64 r.at_) := HM4.out.ry.cell 1
  have y2 : w4.cell? ⟨y, 2, none⟩ = some (.int .i64 r.e) := HM4.out.ry.cell 2
  have f0 := HM4.out.ry.froz 0
  have f1 := HM4.out.ry.froz 1
  have f2 := HM4.out.ry.froz 2
  have HT4 : Hid (((w4.setCell ⟨y, 0, none⟩ (.string S)).setCell ⟨y, 1, none⟩ (.int .i64 X.at_)).setCell ⟨y, 2, none⟩ (.int .i64 X.e) = w4.setRow y (qcells X)) := three_lit HM4.out.ry HS.out HX.out
  have HM5 : Hid (Md B p q y r r X w (w4.setRow y (qcells X))) := HM4.out.setY X
  go_upto_region 18 with fail
  rw [HT4.out]
  generalize w4.setRow y (qcells X) = w5 at *
  clear n0 n1 n2 y0 y1 y2 f0 f1 f2 HT4 HM4 HN4
  have HP5 : Hid (Calls Try.prog 20 #[.pointer (some ⟨q, 0, none⟩), .int .i64 m] w5 (RP q (.string V) X w5)) := HP.out _ HM5.out.rm
  go_wp2_with fail
  refine HP5.out.mono ?_
  rintro e w6 ⟨rfl, HR6, HB6⟩
  have HM6 : Hid (Md B p q y X r X w w6) := HM5.out.prog HR6.out HB6.out
  have y0 : w6.cell? ⟨y, 0, none⟩ = some (.string S) := by rw [HS.out, ← HX.out]; exact HM6.out.ry.cell 0
  have y1 : w6.cell? ⟨y, 1, none⟩ = some (.int .i64 X.at_) := HM6.out.ry.cell 1
  have y2 : w6.cell? ⟨y, 2, none⟩ = some (.int .i64 X.e) := HM6.out.ry.cell 2
  have c0 : w6.cell? ⟨p, 0, none⟩ = some (.string S) := by rw [HS.out]; exact HM6.out.rq.cell 0
  have c1 : w6.cell? ⟨p, 1, none⟩ = some (.int .i64 r.at_) := HM6.out.rq.cell 1
  have c2 : w6.cell? ⟨p, 2, none⟩ = some (.int .i64 r.e) := HM6.out.rq.cell 2
  have f0 := HM6.out.rq.froz 0
  have f1 := HM6.out.rq.froz 1
  have f2 := HM6.out.rq.froz 2
  have HT6 : Hid (((w6.setCell ⟨p, 0, none⟩ (.string S)).setCell ⟨p, 1, none⟩ (.int .i64 X.at_)).setCell ⟨p, 2, none⟩ (.int .i64 X.e) = w6.setRow p (qcells X)) := three_lit HM6.out.rq HS.out HX.out
  have HM8 : Hid (Md B p q y X X X w (w6.setRow p (qcells X))) := HM6.out.fin
  go_upto_region 36 with fail
  rw [HT6.out]
  generalize w6.setRow p (qcells X) = w8 at *
  clear y0 y1 y2 c0 c1 c2 f0 f1 f2 HT6 HM6
  have c1 : w8.cell? ⟨p, 1, none⟩ = some (.int .i64 X.at_) := HM8.out.rq.cell 1
  have c2 : w8.cell? ⟨p, 2, none⟩ = some (.int .i64 X.e) := HM8.out.rq.cell 2
  have HA : Hid (∀ n, Calls Try.prog 25 #[.pointer (some ⟨q, 0, none⟩)] (w8.drewN n) fun e w' => e = .returned (.int .i64 (X.at_ : Int)) ∧ w' = w8.drewN n) := fun n => (xat q X _ (HM8.out.rm.drewN n)).mono fun _ _ h => ⟨h.1, h.2.symm⟩
  have HR : Hid (∀ n, Calls Try.prog 24 #[.pointer (some ⟨q, 0, none⟩)] (w8.drewN n) fun e w' => e = .returned (.int .i64 (X.e : Int)) ∧ w' = w8.drewN n) := fun n => (xerr q X _ (HM8.out.rm.drewN n)).mono fun _ _ h => ⟨h.1, h.2.symm⟩
  go_quiet (first | (go_at_call 25; refine Calls.quiet_of_same (HA.out _)) | (go_at_call 24; refine Calls.quiet_of_same (HR.out _)))
  go_wp2_with fail
  go_ret
  exact LP.mk (R := X) (Y := X) (by simp) (HM8.out.drewN _)
set_option maxHeartbeats 4000000 in
theorem lreads3 (B p q : Nat) (r : Rd) (m : Int) (hm : I64 m) (w : World) (h : Rm w q r) (k : Rq w p r) (bw : B ≤ w.heap.size) (bp : B ≤ p) (bq : B ≤ q) (hs0 : r.s.length ≤ 1000000) : Calls Try.prog 17 #[.pointer (some ⟨q, 0, none⟩), .pointer (some ⟨p, 0, none⟩), .int .i64 3, .int .i64 m] w (LP B p q (rBool r).1 w) := by
  obtain ⟨S, HS⟩ : ∃ S : ByteArray, Hid (S = ⟨r.s.toArray⟩) := ⟨_, rfl⟩
  have hr := h.le
  have hs : r.s.length ≤ 1099511627776 := by omega
  have HC : Hid (∀ w, Calls Try.prog 40 #[.agg #[.string S, .int .i64 r.at_, .int .i64 r.e]] w fun e w' => e = .returned (.tuple #[.agg #[.string S, .int .i64 (rBool r).1.at_, .int .i64 (rBool r).1.e], .bool (rBool r).2]) ∧ Hid (Below w.heap.size w w')) := fun w => bfl HS.out hr hs w
  have HX : Hid ((rBool r).1.s = r.s) := (rBool_ok (show r.Ok from hr)).2
  have HP : Hid (∀ w, Rm w q r → Calls Try.prog 21 #[.pointer (some ⟨q, 0, none⟩)] w (RP q (.bool (rBool r).2) (rBool r).1 w)) := fun w h => xbool q r w h
  have HM0 : Hid (Md B p q w.heap.size r r r w (w.alloc (.cells (qcells r) 39))) := Md.start h k bw bp bq
  have HE0 : Hid (w.alloc (.cells #[.string S, .int .i64 r.at_, .int .i64 r.e] 39) = w.alloc (.cells (qcells r) 39)) := by unfold Hid; rw [qlit HS.out rfl]
  have c0 : w.cell? ⟨p, 0, none⟩ = some (.string S) := by rw [HS.out]; exact k.cell 0
  have c1 : w.cell? ⟨p, 1, none⟩ = some (.int .i64 r.at_) := k.cell 1
  have c2 : w.cell? ⟨p, 2, none⟩ = some (.int .i64 r.e) := k.cell 2
  have hpl := k.lt
  clear h k bw bp bq hr hs hs0
  obtain ⟨hm1, hm2⟩ := hm
  generalize (rBool r).1 = X at *
  generalize (rBool r).2 = V at *
  go_enter Try.func17, Try.ntmps17
  go_upto_region 2 with fail
  rw [HE0.out]
  generalize w.alloc (.cells (qcells r) 39) = wA at *
  generalize w.heap.size = y at *
  clear HE0 c0 c1 c2 hpl
  have c0 : wA.cell? ⟨p, 0, none⟩ = some (.string S) := by rw [HS.out]; exact HM0.out.rq.cell 0
  have c1 : wA.cell? ⟨p, 1, none⟩ = some (.int .i64 r.at_) := HM0.out.rq.cell 1
  have c2 : wA.cell? ⟨p, 2, none⟩ = some (.int .i64 r.e) := HM0.out.rq.cell 2
  go_wp2_with fail
  refine (HC.out _).mono ?_
  rintro e w3 ⟨rfl, HB3⟩
  have HM3 : Hid (Md B p q y r r r w w3) := HM0.out.below HB3.out
  have HE3 : Hid (w3.alloc (.cells #[.string S, .int .i64 X.at_, .int .i64 X.e] 39) = w3.alloc (.cells (qcells X) 39)) := by unfold Hid; rw [qlit HS.out HX.out]
  have HM4 : Hid (Md B p q y r r r w (w3.alloc (.cells (qcells X) 39))) := HM3.out.below (below_new _ _)
  have HN4 : Hid (Rq (w3.alloc (.cells (qcells X) 39)) w3.heap.size X) := Rq.new _ _
  clear c0 c1 c2
  go_upto_region 21 with fail
  rw [HE3.out]
  generalize w3.alloc (.cells (qcells X) 39) = w4 at *
  generalize w3.heap.size = n at *
  clear HE3 HM3 HM0 HB3 HC
  have n0 : w4.cell? ⟨n, 0, none⟩ = some (.string S) := by rw [HS.out, ← HX.out]; exact HN4.out.cell 0
  have n1 : w4.cell? ⟨n, 1, none⟩ = some (.int .i64 X.at_) := HN4.out.cell 1
  have n2 : w4.cell? ⟨n, 2, none⟩ = some (.int .i64 X.e) := HN4.out.cell 2
  have y0 : w4.cell? ⟨y, 0, none⟩ = some (.string S) := by rw [HS.out]; exact HM4.out.ry.cell 0
  have y1 : w4.cell? ⟨y, 1, none⟩ = some (.int .i64 r.at_) := HM4.out.ry.cell 1
  have y2 : w4.cell? ⟨y, 2, none⟩ = some (.int .i64 r.e) := HM4.out.ry.cell 2
  have f0 := HM4.out.ry.froz 0
  have f1 := HM4.out.ry.froz 1
  have f2 := HM4.out.ry.froz 2
  have HT4 : Hid (((w4.setCell ⟨y, 0, none⟩ (.string S)).setCell ⟨y, 1, none⟩ (.int .i64 X.at_)).setCell ⟨y, 2, none⟩ (.int .i64 X.e) = w4.setRow y (qcells X)) := three_lit HM4.out.ry HS.out HX.out
  have HM5 : Hid (Md B p q y r r X w (w4.setRow y (qcells X))) := HM4.out.setY X
  go_upto_region 22 with fail
  rw [HT4.out]
  generalize w4.setRow y (qcells X) = w5 at *
  clear n0 n1 n2 y0 y1 y2 f0 f1 f2 HT4 HM4 HN4
  have HP5 : Hid (Calls Try.prog 21 #[.pointer (some ⟨q, 0, none⟩)] w5 (RP q (.bool V) X w5)) := HP.out _ HM5.out.rm
  go_wp2_with fail
  refine HP5.out.mono ?_
  rintro e w6 ⟨rfl, HR6, HB6⟩
  have HM6 : Hid (Md B p q y X r X w w6) := HM5.out.prog HR6.out HB6.out
  have y0 : w6.cell? ⟨y, 0, none⟩ = some (.string S) := by rw [HS.out, ← HX.out]; exact HM6.out.ry.cell 0
  have y1 : w6.cell? ⟨y, 1, none⟩ = some (.int .i64 X.at_) := HM6.out.ry.cell 1
  have y2 : w6.cell? ⟨y, 2, none⟩ = some (.int .i64 X.e) := HM6.out.ry.cell 2
  have c0 : w6.cell? ⟨p, 0, none⟩ = some (.string S) := by rw [HS.out]; exact HM6.out.rq.cell 0
  have c1 : w6.cell? ⟨p, 1, none⟩ = some (.int .i64 r.at_) := HM6.out.rq.cell 1
  have c2 : w6.cell? ⟨p, 2, none⟩ = some (.int .i64 r.e) := HM6.out.rq.cell 2
  have f0 := HM6.out.rq.froz 0
  have f1 := HM6.out.rq.froz 1
  have f2 := HM6.out.rq.froz 2
  have HT6 : Hid (((w6.setCell ⟨p, 0, none⟩ (.string S)).setCell ⟨p, 1, none⟩ (.int .i64 X.at_)).setCell ⟨p, 2, none⟩ (.int .i64 X.e) = w6.setRow p (qcells X)) := three_lit HM6.out.rq HS.out HX.out
  have HM8 : Hid (Md B p q y X X X w (w6.setRow p (qcells X))) := HM6.out.fin
  go_upto_region 36 with fail
  rw [HT6.out]
  generalize w6.setRow p (qcells X) = w8 at *
  clear y0 y1 y2 c0 c1 c2 f0 f1 f2 HT6 HM6
  have c1 : w8.cell? ⟨p, 1, none⟩ = some (.int .i64 X.at_) := HM8.out.rq.cell 1
  have c2 : w8.cell? ⟨p, 2, none⟩ = some (.int .i64 X.e) := HM8.out.rq.cell 2
  have HA : Hid (∀ n, Calls Try.prog 25 #[.pointer (some ⟨q, 0, none⟩)] (w8.drewN n) fun e w' => e = .returned (.int .i64 (X.at_ : Int)) ∧ w' = w8.drewN n) := fun n => (xat q X _ (HM8.out.rm.drewN n)).mono fun _ _ h => ⟨h.1, h.2.symm⟩
  have HR : Hid (∀ n, Calls Try.prog 24 #[.pointer (some ⟨q, 0, none⟩)] (w8.drewN n) fun e w' => e = .returned (.int .i64 (X.e : Int)) ∧ w' = w8.drewN n) := fun n => (xerr q X _ (HM8.out.rm.drewN n)).mono fun _ _ h => ⟨h.1, h.2.symm⟩
  go_quiet (first | (go_at_call 25; refine Calls.quiet_of_same (HA.out _)) | (go_at_call 24; refine Calls.quiet_of_same (HR.out _)))
  go_wp2_with fail
  go_ret
  exact LP.mk (R := X) (Y := X) (by simp) (HM8.out.drewN _)
set_option maxHeartbeats 4000000 in
theorem lreads4 (B p q : Nat) (r : Rd) (m : Int) (hm : I64 m) (w : World) (h : Rm w q r) (k : Rq w p r) (bw : B ≤ w.heap.size) (bp : B ≤ p) (bq : B ≤ q) (hs0 : r.s.length ≤ 1000000) : Calls Try.prog 17 #[.pointer (some ⟨q, 0, none⟩), .pointer (some ⟨p, 0, none⟩), .int .i64 4, .int .i64 m] w (LP B p q (rInts r m).1 w) := by
  obtain ⟨S, HS⟩ : ∃ S : ByteArray, Hid (S = ⟨r.s.toArray⟩) := ⟨_, rfl⟩
  have hr := h.le
  have hs : r.s.length ≤ 1099511627776 := by omega
  have HC : Hid (∀ w, Calls Try.prog 41 #[.agg #[.string S, .int .i64 r.at_, .int .i64 r.e], .int .i64 m] w fun e w' => ∃ v, e = .returned (.tuple #[.agg #[.string S, .int .i64 (rInts r m).1.at_, .int .i64 (rInts r m).1.e], v]) ∧ Hid (w'.ownsRow w.heap.size 3 1 v (rInts r m).2.length (icells (rInts r m).2)) ∧ Hid (Below w.heap.size w w')) := fun w => lfl HS.out hm hr hs w
  have HX : Hid ((rInts r m).1.s = r.s) := (rInts_ok (show r.Ok from hr) m).2
  have HP : Hid (∀ w, Rm w q r → Calls Try.prog 23 #[.pointer (some ⟨q, 0, none⟩), .int .i64 m] w (IsP q (rInts r m).2 (rInts r m).1 w)) := fun w h => xints q r m hm w h hs
  have hvl : (rInts r m).2.length ≤ 1000000000000 := by have h1 := rInts_len hr m; omega
  have HM0 : Hid (Md B p q w.heap.size r r r w (w.alloc (.cells (qcells r) 39))) := Md.start h k bw bp bq
  have HE0 : Hid (w.alloc (.cells #[.string S, .int .i64 r.at_, .int .i64 r.e] 39) = w.alloc (.cells (qcells r) 39)) := by unfold Hid; rw [qlit HS.out rfl]
  have c0 : w.cell? ⟨p, 0, none⟩ = some (.string S) := by rw [HS.out]; exact k.cell 0
  have c1 : w.cell? ⟨p, 1, none⟩ = some (.int .i64 r.at_) := k.cell 1
  have c2 : w.cell? ⟨p, 2, none⟩ = some (.int .i64 r.e) := k.cell 2
  have hpl := k.lt
  clear h k bw bp bq hr hs hs0
  obtain ⟨hm1, hm2⟩ := hm
  generalize (rInts r m).1 = X at *
  generalize (rInts r m).2 = V at *
  go_enter Try.func17, Try.ntmps17
  go_upto_region 2 with fail
  rw [HE0.out]
  generalize w.alloc (.cells (qcells r) 39) = wA at *
  generalize w.heap.size = y at *
  clear HE0 c0 c1 c2 hpl
  have c0 : wA.cell? ⟨p, 0, none⟩ = some (.string S) := by rw [HS.out]; exact HM0.out.rq.cell 0
  have c1 : wA.cell? ⟨p, 1, none⟩ = some (.int .i64 r.at_) := HM0.out.rq.cell 1
  have c2 : wA.cell? ⟨p, 2, none⟩ = some (.int .i64 r.e) := HM0.out.rq.cell 2
  go_wp2_with fail
  refine (HC.out _).mono ?_
  rintro e w3 ⟨v4, rfl, HO3, HB3⟩
  obtain ⟨ra, rc, rfl⟩ := own_slice HO3.out
  have HM3 : Hid (Md B p q y r r r w w3) := HM0.out.below HB3.out
  have HE3 : Hid (w3.alloc (.cells #[.string S, .int .i64 X.at_, .int .i64 X.e] 39) = w3.alloc (.cells (qcells X) 39)) := by unfold Hid; rw [qlit HS.out HX.out]
  have HM4 : Hid (Md B p q y r r r w (w3.alloc (.cells (qcells X) 39))) := HM3.out.below (below_new _ _)
  have HN4 : Hid (Rq (w3.alloc (.cells (qcells X) 39)) w3.heap.size X) := Rq.new _ _
  have HO4 : Hid ((w3.alloc (.cells (qcells X) 39)).ownsRow wA.heap.size 3 1 (.slice ra V.length rc) V.length (icells V)) := own_keep3 HO3.out (below_new _ _)
  have HqA : Hid (q < wA.heap.size) := Nat.lt_trans HM0.out.yq HM0.out.ry.lt
  clear c0 c1 c2
  go_upto_region 25 with fail
  rw [HE3.out]
  generalize w3.alloc (.cells (qcells X) 39) = w4 at *
  generalize w3.heap.size = n at *
  clear HE3 HM3 HM0 HB3 HC
  have n0 : w4.cell? ⟨n, 0, none⟩ = some (.string S) := by rw [HS.out, ← HX.out]; exact HN4.out.cell 0
  have n1 : w4.cell? ⟨n, 1, none⟩ = some (.int .i64 X.at_) := HN4.out.cell 1
  have n2 : w4.cell? ⟨n, 2, none⟩ = some (.int .i64 X.e) := HN4.out.cell 2
  have y0 : w4.cell? ⟨y, 0, none⟩ = some (.string S) := by rw [HS.out]; exact HM4.out.ry.cell 0
  have y1 : w4.cell? ⟨y, 1, none⟩ = some (.int .i64 r.at_) := HM4.out.ry.cell 1
  have y2 : w4.cell? ⟨y, 2, none⟩ = some (.int .i64 r.e) := HM4.out.ry.cell 2
  have f0 := HM4.out.ry.froz 0
  have f1 := HM4.out.ry.froz 1
  have f2 := HM4.out.ry.froz 2
  have HT4 : Hid (((w4.setCell ⟨y, 0, none⟩ (.string S)).setCell ⟨y, 1, none⟩ (.int .i64 X.at_)).setCell ⟨y, 2, none⟩ (.int .i64 X.e) = w4.setRow y (qcells X)) := three_lit HM4.out.ry HS.out HX.out
  have HM5 : Hid (Md B p q y r r X w (w4.setRow y (qcells X))) := HM4.out.setY X
  have HO5 : Hid ((w4.setRow y (qcells X)).ownsRow wA.heap.size 3 1 (.slice ra V.length rc) V.length (icells V)) := own_row3 HO4.out HM4.out.ry
  go_upto_region 26 with fail
  rw [HT4.out]
  generalize w4.setRow y (qcells X) = w5 at *
  clear n0 n1 n2 y0 y1 y2 f0 f1 f2 HT4 HM4 HN4
  have HP5 : Hid (Calls Try.prog 23 #[.pointer (some ⟨q, 0, none⟩), .int .i64 m] w5 (IsP q V X w5)) := HP.out _ HM5.out.rm
  go_wp2_with fail
  refine HP5.out.mono ?_
  rintro e w6 ⟨v6, xs, rfl, HO6, HX6, HR6, HB6⟩
  obtain ⟨sa, sc, rfl, hin6⟩ := own_ins HO6.out
  have hx6 : xs = V := HX6.out
  subst hx6
  have HM6 : Hid (Md B p q y X r X w w6) := HM5.out.prog HR6.out HB6.out
  obtain ⟨_, _, e7, hin7⟩ := own_ins (own_bt HO5.out HqA.out HB6.out)
  injection e7 with e7a e7l e7b
  subst e7a
  clear e7l e7b
  have HS7 : Hid (Calls Try.prog 22 #[.slice sa xs.length sc, .slice ra xs.length rc] w6 (BB true w6)) := rsame xs xs sa ra sc rc w6 w6.heap.size (Nat.le_refl _) hin6 hin7 rfl hvl
  clear hin6 hin7 HO6 HO5 HX6 HR6 HB6 HP5 HM5
  go_wp2_with fail
  refine HS7.out.mono ?_
  rintro e w7 ⟨rfl, hb7⟩
  have HM7 : Hid (Md B p q y X r X w w7) := HM6.out.below hb7
  clear hb7 HM6 HS7
  have y0 : w7.cell? ⟨y, 0, none⟩ = some (.string S) := by rw [HS.out, ← HX.out]; exact HM7.out.ry.cell 0
  have y1 : w7.cell? ⟨y, 1, none⟩ = some (.int .i64 X.at_) := HM7.out.ry.cell 1
  have y2 : w7.cell? ⟨y, 2, none⟩ = some (.int .i64 X.e) := HM7.out.ry.cell 2
  have c0 : w7.cell? ⟨p, 0, none⟩ = some (.string S) := by rw [HS.out]; exact HM7.out.rq.cell 0
  have c1 : w7.cell? ⟨p, 1, none⟩ = some (.int .i64 r.at_) := HM7.out.rq.cell 1
  have c2 : w7.cell? ⟨p, 2, none⟩ = some (.int .i64 r.e) := HM7.out.rq.cell 2
  have f0 := HM7.out.rq.froz 0
  have f1 := HM7.out.rq.froz 1
  have f2 := HM7.out.rq.froz 2
  have HT6 : Hid (((w7.setCell ⟨p, 0, none⟩ (.string S)).setCell ⟨p, 1, none⟩ (.int .i64 X.at_)).setCell ⟨p, 2, none⟩ (.int .i64 X.e) = w7.setRow p (qcells X)) := three_lit HM7.out.rq HS.out HX.out
  have HM8 : Hid (Md B p q y X X X w (w7.setRow p (qcells X))) := HM7.out.fin
  go_upto_region 36 with fail
  rw [HT6.out]
  generalize w7.setRow p (qcells X) = w8 at *
  clear y0 y1 y2 c0 c1 c2 f0 f1 f2 HT6 HM7
  have c1 : w8.cell? ⟨p, 1, none⟩ = some (.int .i64 X.at_) := HM8.out.rq.cell 1
  have c2 : w8.cell? ⟨p, 2, none⟩ = some (.int .i64 X.e) := HM8.out.rq.cell 2
  have HA : Hid (∀ n, Calls Try.prog 25 #[.pointer (some ⟨q, 0, none⟩)] (w8.drewN n) fun e w' => e = .returned (.int .i64 (X.at_ : Int)) ∧ w' = w8.drewN n) := fun n => (xat q X _ (HM8.out.rm.drewN n)).mono fun _ _ h => ⟨h.1, h.2.symm⟩
  have HR : Hid (∀ n, Calls Try.prog 24 #[.pointer (some ⟨q, 0, none⟩)] (w8.drewN n) fun e w' => e = .returned (.int .i64 (X.e : Int)) ∧ w' = w8.drewN n) := fun n => (xerr q X _ (HM8.out.rm.drewN n)).mono fun _ _ h => ⟨h.1, h.2.symm⟩
  go_quiet (first | (go_at_call 25; refine Calls.quiet_of_same (HA.out _)) | (go_at_call 24; refine Calls.quiet_of_same (HR.out _)))
  go_wp2_with fail
  go_ret
  exact LP.mk (R := X) (Y := X) (by simp) (HM8.out.drewN _)
set_option maxHeartbeats 4000000 in
theorem lreads5 (B p q : Nat) (r : Rd) (m : Int) (hm : I64 m) (w : World) (h : Rm w q r) (k : Rq w p r) (bw : B ≤ w.heap.size) (bp : B ≤ p) (bq : B ≤ q) (hs0 : r.s.length ≤ 1000000) : Calls Try.prog 17 #[.pointer (some ⟨q, 0, none⟩), .pointer (some ⟨p, 0, none⟩), .int .i64 5, .int .i64 m] w (LP B p q (rCount r m).1 w) := by
  obtain ⟨S, HS⟩ : ∃ S : ByteArray, Hid (S = ⟨r.s.toArray⟩) := ⟨_, rfl⟩
  have hr := h.le
  have hs : r.s.length ≤ 1099511627776 := by omega
  have HC : Hid (∀ w, Calls Try.prog 42 #[.agg #[.string S, .int .i64 r.at_, .int .i64 r.e], .int .i64 m] w fun e w' => e = .returned (.tuple #[.agg #[.string S, .int .i64 (rCount r m).1.at_, .int .i64 (rCount r m).1.e], .int .i64 (rCount r m).2]) ∧ Hid (Below w.heap.size w w')) := fun w => cfl HS.out hm hr hs w
  have HX : Hid ((rCount r m).1.s = r.s) := (rCount_ok (show r.Ok from hr) m).2
  have HP : Hid (∀ w, Rm w q r → Calls Try.prog 30 #[.pointer (some ⟨q, 0, none⟩), .int .i64 m] w (RP q (.int .i64 (rCount r m).2) (rCount r m).1 w)) := fun w h => xcount q r m hm w h
  have HM0 : Hid (Md B p q w.heap.size r r r w (w.alloc (.cells (qcells r) 39))) := Md.start h k bw bp bq
  have HE0 : Hid (w.alloc (.cells #[.string S, .int .i64 r.at_, .int .i64 r.e] 39) = w.alloc (.cells (qcells r) 39)) := by unfold Hid; rw [qlit HS.out rfl]
  have c0 : w.cell? ⟨p, 0, none⟩ = some (.string S) := by rw [HS.out]; exact k.cell 0
  have c1 : w.cell? ⟨p, 1, none⟩ = some (.int .i64 r.at_) := k.cell 1
  have c2 : w.cell? ⟨p, 2, none⟩ = some (.int .i64 r.e) := k.cell 2
  have hpl := k.lt
  clear h k bw bp bq hr hs hs0
  obtain ⟨hm1, hm2⟩ := hm
  generalize (rCount r m).1 = X at *
  generalize (rCount r m).2 = V at *
  go_enter Try.func17, Try.ntmps17
  go_upto_region 2 with fail
  rw [HE0.out]
  generalize w.alloc (.cells (qcells r) 39) = wA at *
  generalize w.heap.size = y at *
  clear HE0 c0 c1 c2 hpl
  have c0 : wA.cell? ⟨p, 0, none⟩ = some (.string S) := by rw [HS.out]; exact HM0.out.rq.cell 0
  have c1 : wA.cell? ⟨p, 1, none⟩ = some (.int .i64 r.at_) := HM0.out.rq.cell 1
  have c2 : wA.cell? ⟨p, 2, none⟩ = some (.int .i64 r.e) := HM0.out.rq.cell 2
  go_wp2_with fail
  refine (HC.out _).mono ?_
  rintro e w3 ⟨rfl, HB3⟩
  have HM3 : Hid (Md B p q y r r r w w3) := HM0.out.below HB3.out
  have HE3 : Hid (w3.alloc (.cells #[.string S, .int .i64 X.at_, .int .i64 X.e] 39) = w3.alloc (.cells (qcells X) 39)) := by unfold Hid; rw [qlit HS.out HX.out]
  have HM4 : Hid (Md B p q y r r r w (w3.alloc (.cells (qcells X) 39))) := HM3.out.below (below_new _ _)
  have HN4 : Hid (Rq (w3.alloc (.cells (qcells X) 39)) w3.heap.size X) := Rq.new _ _
  clear c0 c1 c2
  go_upto_region 29 with fail
  rw [HE3.out]
  generalize w3.alloc (.cells (qcells X) 39) = w4 at *
  generalize w3.heap.size = n at *
  clear HE3 HM3 HM0 HB3 HC
  have n0 : w4.cell? ⟨n, 0, none⟩ = some (.string S) := by rw [HS.out, ← HX.out]; exact HN4.out.cell 0
  have n1 : w4.cell? ⟨n, 1, none⟩ = some (.int .i64 X.at_) := HN4.out.cell 1
  have n2 : w4.cell? ⟨n, 2, none⟩ = some (.int .i64 X.e) := HN4.out.cell 2
  have y0 : w4.cell? ⟨y, 0, none⟩ = some (.string S) := by rw [HS.out]; exact HM4.out.ry.cell 0
  have y1 : w4.cell? ⟨y, 1, none⟩ = some (.int .i64 r.at_) := HM4.out.ry.cell 1
  have y2 : w4.cell? ⟨y, 2, none⟩ = some (.int .i64 r.e) := HM4.out.ry.cell 2
  have f0 := HM4.out.ry.froz 0
  have f1 := HM4.out.ry.froz 1
  have f2 := HM4.out.ry.froz 2
  have HT4 : Hid (((w4.setCell ⟨y, 0, none⟩ (.string S)).setCell ⟨y, 1, none⟩ (.int .i64 X.at_)).setCell ⟨y, 2, none⟩ (.int .i64 X.e) = w4.setRow y (qcells X)) := three_lit HM4.out.ry HS.out HX.out
  have HM5 : Hid (Md B p q y r r X w (w4.setRow y (qcells X))) := HM4.out.setY X
  go_upto_region 30 with fail
  rw [HT4.out]
  generalize w4.setRow y (qcells X) = w5 at *
  clear n0 n1 n2 y0 y1 y2 f0 f1 f2 HT4 HM4 HN4
  have HP5 : Hid (Calls Try.prog 30 #[.pointer (some ⟨q, 0, none⟩), .int .i64 m] w5 (RP q (.int .i64 V) X w5)) := HP.out _ HM5.out.rm
  go_wp2_with fail
  refine HP5.out.mono ?_
  rintro e w6 ⟨rfl, HR6, HB6⟩
  have HM6 : Hid (Md B p q y X r X w w6) := HM5.out.prog HR6.out HB6.out
  have y0 : w6.cell? ⟨y, 0, none⟩ = some (.string S) := by rw [HS.out, ← HX.out]; exact HM6.out.ry.cell 0
  have y1 : w6.cell? ⟨y, 1, none⟩ = some (.int .i64 X.at_) := HM6.out.ry.cell 1
  have y2 : w6.cell? ⟨y, 2, none⟩ = some (.int .i64 X.e) := HM6.out.ry.cell 2
  have c0 : w6.cell? ⟨p, 0, none⟩ = some (.string S) := by rw [HS.out]; exact HM6.out.rq.cell 0
  have c1 : w6.cell? ⟨p, 1, none⟩ = some (.int .i64 r.at_) := HM6.out.rq.cell 1
  have c2 : w6.cell? ⟨p, 2, none⟩ = some (.int .i64 r.e) := HM6.out.rq.cell 2
  have f0 := HM6.out.rq.froz 0
  have f1 := HM6.out.rq.froz 1
  have f2 := HM6.out.rq.froz 2
  have HT6 : Hid (((w6.setCell ⟨p, 0, none⟩ (.string S)).setCell ⟨p, 1, none⟩ (.int .i64 X.at_)).setCell ⟨p, 2, none⟩ (.int .i64 X.e) = w6.setRow p (qcells X)) := three_lit HM6.out.rq HS.out HX.out
  have HM8 : Hid (Md B p q y X X X w (w6.setRow p (qcells X))) := HM6.out.fin
  go_upto_region 36 with fail
  rw [HT6.out]
  generalize w6.setRow p (qcells X) = w8 at *
  clear y0 y1 y2 c0 c1 c2 f0 f1 f2 HT6 HM6
  have c1 : w8.cell? ⟨p, 1, none⟩ = some (.int .i64 X.at_) := HM8.out.rq.cell 1
  have c2 : w8.cell? ⟨p, 2, none⟩ = some (.int .i64 X.e) := HM8.out.rq.cell 2
  have HA : Hid (∀ n, Calls Try.prog 25 #[.pointer (some ⟨q, 0, none⟩)] (w8.drewN n) fun e w' => e = .returned (.int .i64 (X.at_ : Int)) ∧ w' = w8.drewN n) := fun n => (xat q X _ (HM8.out.rm.drewN n)).mono fun _ _ h => ⟨h.1, h.2.symm⟩
  have HR : Hid (∀ n, Calls Try.prog 24 #[.pointer (some ⟨q, 0, none⟩)] (w8.drewN n) fun e w' => e = .returned (.int .i64 (X.e : Int)) ∧ w' = w8.drewN n) := fun n => (xerr q X _ (HM8.out.rm.drewN n)).mono fun _ _ h => ⟨h.1, h.2.symm⟩
  go_quiet (first | (go_at_call 25; refine Calls.quiet_of_same (HA.out _)) | (go_at_call 24; refine Calls.quiet_of_same (HR.out _)))
  go_wp2_with fail
  go_ret
  exact LP.mk (R := X) (Y := X) (by simp) (HM8.out.drewN _)
set_option maxHeartbeats 4000000 in
theorem lreads6 (B p q : Nat) (r : Rd) (m : Int) (hm : I64 m) (w : World) (h : Rm w q r) (k : Rq w p r) (bw : B ≤ w.heap.size) (bp : B ≤ p) (bq : B ≤ q) (hs0 : r.s.length ≤ 1000000) : Calls Try.prog 17 #[.pointer (some ⟨q, 0, none⟩), .pointer (some ⟨p, 0, none⟩), .int .i64 6, .int .i64 m] w (LP B p q (rEnd r).1 w) := by
  obtain ⟨S, HS⟩ : ∃ S : ByteArray, Hid (S = ⟨r.s.toArray⟩) := ⟨_, rfl⟩
  have hr := h.le
  have hs : r.s.length ≤ 1099511627776 := by omega
  have HC : Hid (∀ w, Calls Try.prog 43 #[.agg #[.string S, .int .i64 r.at_, .int .i64 r.e]] w fun e w' => e = .returned (.tuple #[.agg #[.string S, .int .i64 (rEnd r).1.at_, .int .i64 (rEnd r).1.e], .bool (rEnd r).2]) ∧ Hid (Below w.heap.size w w')) := fun w => efl HS.out hr hs w
  have HX : Hid ((rEnd r).1.s = r.s) := (rEnd_ok (show r.Ok from hr)).2
  have HP : Hid (∀ w, Rm w q r → Calls Try.prog 26 #[.pointer (some ⟨q, 0, none⟩)] w (RP q (.bool (rEnd r).2) (rEnd r).1 w)) := fun w h => xend q r w h
  have HM0 : Hid (Md B p q w.heap.size r r r w (w.alloc (.cells (qcells r) 39))) := Md.start h k bw bp bq
  have HE0 : Hid (w.alloc (.cells #[.string S, .int .i64 r.at_, .int .i64 r.e] 39) = w.alloc (.cells (qcells r) 39)) := by unfold Hid; rw [qlit HS.out rfl]
  have c0 : w.cell? ⟨p, 0, none⟩ = some (.string S) := by rw [HS.out]; exact k.cell 0
  have c1 : w.cell? ⟨p, 1, none⟩ = some (.int .i64 r.at_) := k.cell 1
  have c2 : w.cell? ⟨p, 2, none⟩ = some (.int .i64 r.e) := k.cell 2
  have hpl := k.lt
  clear h k bw bp bq hr hs hs0
  obtain ⟨hm1, hm2⟩ := hm
  generalize (rEnd r).1 = X at *
  generalize (rEnd r).2 = V at *
  go_enter Try.func17, Try.ntmps17
  go_upto_region 2 with fail
  rw [HE0.out]
  generalize w.alloc (.cells (qcells r) 39) = wA at *
  generalize w.heap.size = y at *
  clear HE0 c0 c1 c2 hpl
  have c0 : wA.cell? ⟨p, 0, none⟩ = some (.string S) := by rw [HS.out]; exact HM0.out.rq.cell 0
  have c1 : wA.cell? ⟨p, 1, none⟩ = some (.int .i64 r.at_) := HM0.out.rq.cell 1
  have c2 : wA.cell? ⟨p, 2, none⟩ = some (.int .i64 r.e) := HM0.out.rq.cell 2
  go_wp2_with fail
  refine (HC.out _).mono ?_
  rintro e w3 ⟨rfl, HB3⟩
  have HM3 : Hid (Md B p q y r r r w w3) := HM0.out.below HB3.out
  have HE3 : Hid (w3.alloc (.cells #[.string S, .int .i64 X.at_, .int .i64 X.e] 39) = w3.alloc (.cells (qcells X) 39)) := by unfold Hid; rw [qlit HS.out HX.out]
  have HM4 : Hid (Md B p q y r r r w (w3.alloc (.cells (qcells X) 39))) := HM3.out.below (below_new _ _)
  have HN4 : Hid (Rq (w3.alloc (.cells (qcells X) 39)) w3.heap.size X) := Rq.new _ _
  clear c0 c1 c2
  go_upto_region 33 with fail
  rw [HE3.out]
  generalize w3.alloc (.cells (qcells X) 39) = w4 at *
  generalize w3.heap.size = n at *
  clear HE3 HM3 HM0 HB3 HC
  have n0 : w4.cell? ⟨n, 0, none⟩ = some (.string S) := by rw [HS.out, ← HX.out]; exact HN4.out.cell 0
  have n1 : w4.cell? ⟨n, 1, none⟩ = some (.int .i64 X.at_) := HN4.out.cell 1
  have n2 : w4.cell? ⟨n, 2, none⟩ = some (.int .i64 X.e) := HN4.out.cell 2
  have y0 : w4.cell? ⟨y, 0, none⟩ = some (.string S) := by rw [HS.out]; exact HM4.out.ry.cell 0
  have y1 : w4.cell? ⟨y, 1, none⟩ = some (.int .i64 r.at_) := HM4.out.ry.cell 1
  have y2 : w4.cell? ⟨y, 2, none⟩ = some (.int .i64 r.e) := HM4.out.ry.cell 2
  have f0 := HM4.out.ry.froz 0
  have f1 := HM4.out.ry.froz 1
  have f2 := HM4.out.ry.froz 2
  have HT4 : Hid (((w4.setCell ⟨y, 0, none⟩ (.string S)).setCell ⟨y, 1, none⟩ (.int .i64 X.at_)).setCell ⟨y, 2, none⟩ (.int .i64 X.e) = w4.setRow y (qcells X)) := three_lit HM4.out.ry HS.out HX.out
  have HM5 : Hid (Md B p q y r r X w (w4.setRow y (qcells X))) := HM4.out.setY X
  go_upto_region 34 with fail
  rw [HT4.out]
  generalize w4.setRow y (qcells X) = w5 at *
  clear n0 n1 n2 y0 y1 y2 f0 f1 f2 HT4 HM4 HN4
  have HP5 : Hid (Calls Try.prog 26 #[.pointer (some ⟨q, 0, none⟩)] w5 (RP q (.bool V) X w5)) := HP.out _ HM5.out.rm
  go_wp2_with fail
  refine HP5.out.mono ?_
  rintro e w6 ⟨rfl, HR6, HB6⟩
  have HM6 : Hid (Md B p q y X r X w w6) := HM5.out.prog HR6.out HB6.out
  have y0 : w6.cell? ⟨y, 0, none⟩ = some (.string S) := by rw [HS.out, ← HX.out]; exact HM6.out.ry.cell 0
  have y1 : w6.cell? ⟨y, 1, none⟩ = some (.int .i64 X.at_) := HM6.out.ry.cell 1
  have y2 : w6.cell? ⟨y, 2, none⟩ = some (.int .i64 X.e) := HM6.out.ry.cell 2
  have c0 : w6.cell? ⟨p, 0, none⟩ = some (.string S) := by rw [HS.out]; exact HM6.out.rq.cell 0
  have c1 : w6.cell? ⟨p, 1, none⟩ = some (.int .i64 r.at_) := HM6.out.rq.cell 1
  have c2 : w6.cell? ⟨p, 2, none⟩ = some (.int .i64 r.e) := HM6.out.rq.cell 2
  have f0 := HM6.out.rq.froz 0
  have f1 := HM6.out.rq.froz 1
  have f2 := HM6.out.rq.froz 2
  have HT6 : Hid (((w6.setCell ⟨p, 0, none⟩ (.string S)).setCell ⟨p, 1, none⟩ (.int .i64 X.at_)).setCell ⟨p, 2, none⟩ (.int .i64 X.e) = w6.setRow p (qcells X)) := three_lit HM6.out.rq HS.out HX.out
  have HM8 : Hid (Md B p q y X X X w (w6.setRow p (qcells X))) := HM6.out.fin
  go_upto_region 36 with fail
  rw [HT6.out]
  generalize w6.setRow p (qcells X) = w8 at *
  clear y0 y1 y2 c0 c1 c2 f0 f1 f2 HT6 HM6
  have c1 : w8.cell? ⟨p, 1, none⟩ = some (.int .i64 X.at_) := HM8.out.rq.cell 1
  have c2 : w8.cell? ⟨p, 2, none⟩ = some (.int .i64 X.e) := HM8.out.rq.cell 2
  have HA : Hid (∀ n, Calls Try.prog 25 #[.pointer (some ⟨q, 0, none⟩)] (w8.drewN n) fun e w' => e = .returned (.int .i64 (X.at_ : Int)) ∧ w' = w8.drewN n) := fun n => (xat q X _ (HM8.out.rm.drewN n)).mono fun _ _ h => ⟨h.1, h.2.symm⟩
  have HR : Hid (∀ n, Calls Try.prog 24 #[.pointer (some ⟨q, 0, none⟩)] (w8.drewN n) fun e w' => e = .returned (.int .i64 (X.e : Int)) ∧ w' = w8.drewN n) := fun n => (xerr q X _ (HM8.out.rm.drewN n)).mono fun _ _ h => ⟨h.1, h.2.symm⟩
  go_quiet (first | (go_at_call 25; refine Calls.quiet_of_same (HA.out _)) | (go_at_call 24; refine Calls.quiet_of_same (HR.out _)))
  go_wp2_with fail
  go_ret
  exact LP.mk (R := X) (Y := X) (by simp) (HM8.out.drewN _)
set_option maxHeartbeats 4000000 in
theorem lreads7 (B p q : Nat) (r : Rd) (m : Int) (hm : I64 m) (w : World) (h : Rm w q r) (k : Rq w p r) (bw : B ≤ w.heap.size) (bp : B ≤ p) (bq : B ≤ q) (hs0 : r.s.length ≤ 1000000) : Calls Try.prog 17 #[.pointer (some ⟨q, 0, none⟩), .pointer (some ⟨p, 0, none⟩), .int .i64 7, .int .i64 m] w (LP B p q (r.fl 17) w) := by
  obtain ⟨S, HS⟩ : ∃ S : ByteArray, Hid (S = ⟨r.s.toArray⟩) := ⟨_, rfl⟩
  have hr := h.le
  have hs : r.s.length ≤ 1099511627776 := by omega
  have HX : Hid ((r.fl 17).s = r.s) := fl_s r 17
  have HP : Hid (∀ w, Rm w q r → Calls Try.prog 29 #[.pointer (some ⟨q, 0, none⟩), .int .i64 17] w (RP q (.tuple #[]) (r.fl 17) w)) := fun w h => xfl q r 17 w h
  have HF : Hid (r.fl 17 = if r.e = 0 then { r with e := 17 } else r) := rfl
  have HM0 : Hid (Md B p q w.heap.size r r r w (w.alloc (.cells (qcells r) 39))) := Md.start h k bw bp bq
  have HE0 : Hid (w.alloc (.cells #[.string S, .int .i64 r.at_, .int .i64 r.e] 39) = w.alloc (.cells (qcells r) 39)) := by unfold Hid; rw [qlit HS.out rfl]
  have c0 : w.cell? ⟨p, 0, none⟩ = some (.string S) := by rw [HS.out]; exact k.cell 0
  have c1 : w.cell? ⟨p, 1, none⟩ = some (.int .i64 r.at_) := k.cell 1
  have c2 : w.cell? ⟨p, 2, none⟩ = some (.int .i64 r.e) := k.cell 2
  have hpl := k.lt
  clear h k bw bp bq hr hs hs0
  obtain ⟨hm1, hm2⟩ := hm
  generalize r.fl 17 = X at *
  go_enter Try.func17, Try.ntmps17
  go_upto_region 2 with fail
  rw [HE0.out]
  generalize w.alloc (.cells (qcells r) 39) = wA at *
  generalize w.heap.size = y at *
  clear HE0 c0 c1 c2 hpl
  have c0 : wA.cell? ⟨p, 0, none⟩ = some (.string S) := by rw [HS.out]; exact HM0.out.rq.cell 0
  have c1 : wA.cell? ⟨p, 1, none⟩ = some (.int .i64 r.at_) := HM0.out.rq.cell 1
  have c2 : wA.cell? ⟨p, 2, none⟩ = some (.int .i64 r.e) := HM0.out.rq.cell 2
  have g2 := HM0.out.ry.froz 2
  have t2 : wA.cell? ⟨y, 2, none⟩ = some (.int .i64 r.e) := HM0.out.ry.cell 2
  by_cases h0 : r.e = 0
  · have hz : ((r.e : Int) == 0) = true := by rw [h0]; rfl
    have HX2 : Hid (X = { r with e := 17 }) := by unfold Hid; rw [HF.out, if_pos h0]
    have HM5 : Hid (Md B p q y r r X w (wA.setCell ⟨y, 2, none⟩ (.int .i64 17))) := by
      unfold Hid
      have hm := HM0.out
      rw [HX2.out]
      exact ⟨hm.rm.same (Below.heap_setCell wA _ _ _ (by show q ≠ y; have := hm.yq; omega)), hm.rq.same (Below.heap_setCell wA _ _ _ (by show p ≠ y; have := hm.yp; omega)), hm.ry.setE 17, hm.bel.setCell (by show B ≤ y; have := hm.yp; have := hm.bp; omega) _, by have := hm.bw; simpa using this, hm.bp, hm.bq, hm.yp, hm.yq⟩
    clear h0
    go_upto_region 6 with fail
    generalize wA.setCell ⟨y, 2, none⟩ (.int .i64 17) = w5 at *
    clear c0 c1 c2 g2 t2 HM0
    go_wp2_with fail
    refine (HP.out _ HM5.out.rm).mono ?_
    rintro e w6 ⟨rfl, HR6, HB6⟩
    have HM6 : Hid (Md B p q y X r X w w6) := HM5.out.prog HR6.out HB6.out
    have y0 : w6.cell? ⟨y, 0, none⟩ = some (.string S) := by rw [HS.out, ← HX.out]; exact HM6.out.ry.cell 0
    have y1 : w6.cell? ⟨y, 1, none⟩ = some (.int .i64 X.at_) := HM6.out.ry.cell 1
    have y2 : w6.cell? ⟨y, 2, none⟩ = some (.int .i64 X.e) := HM6.out.ry.cell 2
    have c0 : w6.cell? ⟨p, 0, none⟩ = some (.string S) := by rw [HS.out]; exact HM6.out.rq.cell 0
    have c1 : w6.cell? ⟨p, 1, none⟩ = some (.int .i64 r.at_) := HM6.out.rq.cell 1
    have c2 : w6.cell? ⟨p, 2, none⟩ = some (.int .i64 r.e) := HM6.out.rq.cell 2
    have f0 := HM6.out.rq.froz 0
    have f1 := HM6.out.rq.froz 1
    have f2 := HM6.out.rq.froz 2
    have HT6 : Hid (((w6.setCell ⟨p, 0, none⟩ (.string S)).setCell ⟨p, 1, none⟩ (.int .i64 X.at_)).setCell ⟨p, 2, none⟩ (.int .i64 X.e) = w6.setRow p (qcells X)) := three_lit HM6.out.rq HS.out HX.out
    have HM8 : Hid (Md B p q y X X X w (w6.setRow p (qcells X))) := HM6.out.fin
    go_upto_region 36 with fail
    rw [HT6.out]
    generalize w6.setRow p (qcells X) = w8 at *
    clear y0 y1 y2 c0 c1 c2 f0 f1 f2 HT6 HM6
    have c1 : w8.cell? ⟨p, 1, none⟩ = some (.int .i64 X.at_) := HM8.out.rq.cell 1
    have c2 : w8.cell? ⟨p, 2, none⟩ = some (.int .i64 X.e) := HM8.out.rq.cell 2
    have HA : Hid (∀ n, Calls Try.prog 25 #[.pointer (some ⟨q, 0, none⟩)] (w8.drewN n) fun e w' => e = .returned (.int .i64 (X.at_ : Int)) ∧ w' = w8.drewN n) := fun n => (xat q X _ (HM8.out.rm.drewN n)).mono fun _ _ h => ⟨h.1, h.2.symm⟩
    have HR : Hid (∀ n, Calls Try.prog 24 #[.pointer (some ⟨q, 0, none⟩)] (w8.drewN n) fun e w' => e = .returned (.int .i64 (X.e : Int)) ∧ w' = w8.drewN n) := fun n => (xerr q X _ (HM8.out.rm.drewN n)).mono fun _ _ h => ⟨h.1, h.2.symm⟩
    go_quiet (first | (go_at_call 25; refine Calls.quiet_of_same (HA.out _)) | (go_at_call 24; refine Calls.quiet_of_same (HR.out _)))
    go_wp2_with fail
    go_ret
    exact LP.mk (R := X) (Y := X) (by simp) (HM8.out.drewN _)
  · have hz : ((r.e : Int) == 0) = false := by rw [beq_eq_false_iff_ne]; omega
    have HX2 : Hid (X = r) := by unfold Hid; rw [HF.out, if_neg h0]
    have HM5 : Hid (Md B p q y r r X w wA) := by unfold Hid; rw [HX2.out]; exact HM0.out
    clear h0
    go_wp2_with fail
    refine (HP.out _ HM5.out.rm).mono ?_
    rintro e w6 ⟨rfl, HR6, HB6⟩
    have HM6 : Hid (Md B p q y X r X w w6) := HM5.out.prog HR6.out HB6.out
    clear c0 c1 c2 g2 t2 HM0
    have y0 : w6.cell? ⟨y, 0, none⟩ = some (.string S) := by rw [HS.out, ← HX.out]; exact HM6.out.ry.cell 0
    have y1 : w6.cell? ⟨y, 1, none⟩ = some (.int .i64 X.at_) := HM6.out.ry.cell 1
    have y2 : w6.cell? ⟨y, 2, none⟩ = some (.int .i64 X.e) := HM6.out.ry.cell 2
    have c0 : w6.cell? ⟨p, 0, none⟩ = some (.string S) := by rw [HS.out]; exact HM6.out.rq.cell 0
    have c1 : w6.cell? ⟨p, 1, none⟩ = some (.int .i64 r.at_) := HM6.out.rq.cell 1
    have c2 : w6.cell? ⟨p, 2, none⟩ = some (.int .i64 r.e) := HM6.out.rq.cell 2
    have f0 := HM6.out.rq.froz 0
    have f1 := HM6.out.rq.froz 1
    have f2 := HM6.out.rq.froz 2
    have HT6 : Hid (((w6.setCell ⟨p, 0, none⟩ (.string S)).setCell ⟨p, 1, none⟩ (.int .i64 X.at_)).setCell ⟨p, 2, none⟩ (.int .i64 X.e) = w6.setRow p (qcells X)) := three_lit HM6.out.rq HS.out HX.out
    have HM8 : Hid (Md B p q y X X X w (w6.setRow p (qcells X))) := HM6.out.fin
    go_upto_region 36 with fail
    rw [HT6.out]
    generalize w6.setRow p (qcells X) = w8 at *
    clear y0 y1 y2 c0 c1 c2 f0 f1 f2 HT6 HM6
    have c1 : w8.cell? ⟨p, 1, none⟩ = some (.int .i64 X.at_) := HM8.out.rq.cell 1
    have c2 : w8.cell? ⟨p, 2, none⟩ = some (.int .i64 X.e) := HM8.out.rq.cell 2
    have HA : Hid (∀ n, Calls Try.prog 25 #[.pointer (some ⟨q, 0, none⟩)] (w8.drewN n) fun e w' => e = .returned (.int .i64 (X.at_ : Int)) ∧ w' = w8.drewN n) := fun n => (xat q X _ (HM8.out.rm.drewN n)).mono fun _ _ h => ⟨h.1, h.2.symm⟩
    have HR : Hid (∀ n, Calls Try.prog 24 #[.pointer (some ⟨q, 0, none⟩)] (w8.drewN n) fun e w' => e = .returned (.int .i64 (X.e : Int)) ∧ w' = w8.drewN n) := fun n => (xerr q X _ (HM8.out.rm.drewN n)).mono fun _ _ h => ⟨h.1, h.2.symm⟩
    go_quiet (first | (go_at_call 25; refine Calls.quiet_of_same (HA.out _)) | (go_at_call 24; refine Calls.quiet_of_same (HR.out _)))
    go_wp2_with fail
    go_ret
    exact LP.mk (R := X) (Y := X) (by simp) (HM8.out.drewN _)
end Go.Proofs.Ytgdoeflnfcjefaa
