/- fault, failed, Add. -/
import Derived.Test.YteiilifljfagdaaN
import Derived.WalkKit
import Derived.ProofKit
import Derived.Handy
import Derived.WalkLawsBesides
import Derived.WalkSpells
import Derived.BigQuiet
import Derived.BigCall
import Derived.Deep.QuietTactic
import Derived.Deep.Light
import Derived.Deep.OwnRows
import Derived.Laws.AppendOwnNone
import Derived.Laws.Strings3
import Derived.Laws.RangeAny
import Derived.Deep.RegionWith
import Derived.Lib.BitFns
import Derived.Lib.Walk
import Derived.Lib.Strings
import Derived.Lib.OthersKept
import Derived.Deep.CutBlock
import Derived.Deep.DeepCutAuto
import Derived.Deep.LoopGhost
import Derived.Deep.RegionHeld3
import Derived.Lib.SmallJoins
import Derived.Maps.AppendAt
import Derived.Laws.IdiomStrings
import Derived.Lib.AppendZeros
import Derived.Deep.WholeRow
import Derived.Laws.BitsAllLaws
import Derived.Lib.ConvBytes
import Derived.Deep.RegionLaw
namespace Go.Proofs.Yteiilifljfagdaa
open Go.RowKit
set_option linter.unusedVariables false
set_option linter.unusedSimpArgs false
theorem xfault (B q p f g a : Nat) (s : ByteArray) (v : Value) (cs : List ByteArray) (w : World) (h : Jm B w q p false f g a s v cs) : Calls Try.prog 45 #[.pointer (some ⟨q, 0, none⟩)] w (NP .i64 0 w) := by
  have c0 : w.cell? ⟨q, 0, none⟩ = some (.bool true) := h.cell 0
  have c1 : w.cell? ⟨q, 1, none⟩ = some (.bool false) := h.cell 1
  clear h
  go_enter Try.func45, Try.ntmps45
  go_wp2_with fail
  go_ret
  exact NP.mk rfl
/-- what stands behind a journal's change: all below B, and all blocks but the disk's, the journal's, its commands' and rows of bytes -/
def Jf (B p q : Nat) (c : Option Nat) (w w' : World) : Prop := Below B w w' ∧ ∀ k o, w.heap[k]? = some o → k ≠ p → k ≠ q → some k ≠ c → (∀ cs f, o ≠ .cells cs 5 f) → w'.heap[k]? = some o
theorem Jf.of_fr {B p q : Nat} {c : Option Nat} {w w' : World} (h : Fr B p w w') : Jf B p q c w w' :=
  ⟨h.1, fun k o hk hp _ _ h5 => h.2 k o hk (fun e => hp (Option.some.inj e)) h5⟩
theorem Jf.trans {B p q : Nat} {c : Option Nat} {x y z : World} (h : Jf B p q c x y) (k : Jf B p q c y z) : Jf B p q c x z :=
  ⟨h.1.trans k.1, fun i o hi hp hq hc h5 => k.2 i o (h.2 i o hi hp hq hc h5) hp hq hc h5⟩
theorem Jf.of_below {B p q : Nat} {c : Option Nat} {w w' : World} (h : Below w.heap.size w w') (hB : B ≤ w.heap.size) : Jf B p q c w w' :=
  ⟨h.mono hB, fun i o hi _ _ _ _ => (h.block i (Array.getElem?_eq_some_iff.1 hi).1).trans hi⟩
set_option maxHeartbeats 4000000 in
theorem xfailed (B q p f g a : Nat) (s : ByteArray) (v : Value) (cs : List ByteArray) (w : World) (h : Jm B w q p false f g a s v cs) (e : Int) (c : Option Nat) : Calls Try.prog 49 #[.pointer (some ⟨q, 0, none⟩), .int .i64 e] w fun r w' => r = .returned (.int .i64 e) ∧ (w' = w ∨ w' = w.setCell ⟨q, 1, none⟩ (.bool true)) := by
  have c1 : w.cell? ⟨q, 1, none⟩ = some (.bool false) := h.cell 1
  have f1 := h.froz 1
  clear h
  by_cases he : e = 18
  · subst he
    go_enter Try.func49, Try.ntmps49
    go_wp2_with fail
    go_ret
    exact ⟨rfl, .inl rfl⟩
  · have h1 : (e != 18) = true := by simpa using he
    have h2 : (e == 18) = false := by simpa using he
    clear he
    go_enter Try.func49, Try.ntmps49
    go_wp2_with fail
    go_ret
    exact ⟨rfl, .inr rfl⟩
theorem adR_wrt (S : St) (f : Nat) (c : List UInt8) : adR S f c = wrt S f (ba (putL c)) := rfl
theorem Dk.setQ {B p q T : Nat} {w : World} {S : St} {V : Nat → Value} (h : Dk B w p S V) {cs : Array Value} (hq : w.heap[q]? = some (.cells cs T (0, 0))) (hT : T ≠ 5) (hT2 : T ≠ 79) (k : Nat) (u : Value) : Dk B (w.setCell ⟨q, k, none⟩ u) p S V :=
  h.aside hq hT (blk_ne hq h.blk hT2) k u
theorem Jf.set {B p q : Nat} {c : Option Nat} {w : World} (hB : B ≤ q) (k : Nat) (u : Value) : Jf B p q c w (w.setCell ⟨q, k, none⟩ u) :=
  ⟨(Below.refl _ _).setCell hB u, fun i o hi _ hq _ _ => (Below.heap_setCell w _ u i hq).trans hi⟩
/-- what Add hands back -/
def AdP (B p q f g a : Nat) (S : St) (s : ByteArray) (v : Value) (cs : List ByteArray) (c : ByteArray) (w : World) (e : Ending) (w' : World) : Prop :=
  e = .returned (.int .i64 (adR S f c.data.toList).2) ∧ (∃ V', Hid (Dk B w' p (adR S f c.data.toList).1 V')) ∧ Hid (Jf B p q v.ownBlock w w') ∧
  ((adR S f c.data.toList).2 = 0 → ∃ v', Hid (Jm B w' q p false f g a s v' (cs ++ [c])) ∧ (v'.ownBlock = v.ownBlock ∨ ∃ k, v'.ownBlock = some k ∧ w.heap.size ≤ k))
theorem Jf.drewN {B p q : Nat} {c : Option Nat} {w w' : World} (h : Jf B p q c w w') (n : Nat) : Jf B p q c w (w'.drewN n) := ⟨bdrew h.1 n, h.2⟩
theorem Jf.grown {B p q : Nat} {c : Option Nat} {w w1 w2 : World} (h : Jf B p q c w w1) (hg : w1.grownBy w2 c) (hB : B ≤ w1.heap.size) (hc : ∀ k, c = some k → B ≤ k) : Jf B p q c w w2 :=
  ⟨h.1.grown hg hB hc, fun k o hk hp hq hne h5 => by
    have h1 := h.2 k o hk hp hq hne h5
    exact (hg.block k (Array.getElem?_eq_some_iff.1 h1).1 hne).trans h1⟩
/-- the commands grow by one -/
theorem Jm.grow {B q p f g a : Nat} {w w3 : World} {s : ByteArray} {v : Value} {cs : List ByteArray} {S : St} {V : Nat → Value} (hj : Jm B w3 q p false f g a s v cs) (hd : Dk B w3 p S V) (hf : Jf B p q v.ownBlock w w3) (hl : cs.length ≤ 1048576) (hsz : w.heap.size ≤ w3.heap.size) (c : ByteArray) :
    ∃ (x' : Option Addr) (n' c' : Nat) (w4 : World), (Builtin.append_ #[35, 35] 35 #[v, .slice (some ⟨w3.heap.size, 0, none⟩) 1 1]).run Try.prog (w3.alloc (.cells #[.string c] 9)) = .ok (.slice x' n' c') w4 ∧ w4.cell? ⟨q, 7, none⟩ = some v ∧ w4.frozen? ⟨q, 7, none⟩ = false ∧
      Dk B (w4.setCell ⟨q, 7, none⟩ (.slice x' n' c')) p S V ∧ Jf B p q v.ownBlock w (w4.setCell ⟨q, 7, none⟩ (.slice x' n' c')) ∧ Jm B (w4.setCell ⟨q, 7, none⟩ (.slice x' n' c')) q p false f g a s (.slice x' n' c') (cs ++ [c]) ∧ ((Value.slice x' n' c').ownBlock = v.ownBlock ∨ ∃ k, (Value.slice x' n' c').ownBlock = some k ∧ w.heap.size ≤ k) := by
  obtain ⟨v', w4, hr, ho, hg, hat⟩ := app_one hj.own hd.bw c (by omega)
  obtain ⟨x', c', rfl⟩ := own_slice ho
  have hq : w4.heap[q]? = some (.cells (jcells false p f g a s v) 73 (0, 0)) := by
    have hlt := hj.lt
    rw [hg.block q (by simp; omega) (fun e => own_ne9 hj.own hj.blk (by decide) e.symm), Below.heap_alloc _ _ _ hlt]
    exact hj.blk
  have hp4 : Dk B w4 p S V := by
    refine hd.same ?_ (fun i k hi hk => ?_)
    · have hlt := hd.lt
      rw [hg.block p (by simp; omega) (fun e => own_ne9 hj.own hd.blk (by decide) e.symm), Below.heap_alloc _ _ _ hlt]
    · have hlt := ((hd.own i hi).lt k hk).2
      have hne : some k ≠ v.ownBlock := by
        intro e
        rcases (hd.own i hi).2 with ⟨hv, _⟩ | ⟨k2, cap, cur, hv, _, hk2, _⟩
        · rw [hv] at hk; cases hk
        · rw [hv] at hk
          obtain rfl : k2 = k := Option.some.inj hk
          exact own_ne9 hj.own hk2 (by decide) e.symm
      rw [hg.block k (by simp; omega) hne, Below.heap_alloc _ _ _ hlt]
  have hbB : ∀ k, v.ownBlock = some k → B ≤ k := fun k hk => (hj.own.lt k hk).1
  have hf4 : Jf B p q v.ownBlock w w4 := (hf.trans (Jf.of_below (below_new w3 _) hd.bw)).grown hg (by have := hd.bw; simp; omega) hbB
  refine ⟨x', _, c', w4, hr, cell_of_row w4 q 7 _ 73 (0, 0) hq, by simp [World.frozen?, hq], hp4.setQ hq (by decide) (by decide) 7 _, hf4.trans (Jf.set hj.base 7 _), ⟨hj.base, ?_, ?_⟩, ?_⟩
  · rw [set_blk hq]
    rfl
  · exact own_blk ho fun k hk => Below.heap_setCell w4 _ _ k (by intro e; exact own_ne9 ho hq (by decide) (by rw [hk, e]))
  · rcases hat with e | e
    · exact .inl e
    · exact .inr ⟨_, e, by omega⟩
theorem step_append_run {P : Program} (w : World) {ops : Array Oper} {o : Oper} {a : Act} {K : Act → World → Prop} {Q : Exit → Act → World → Prop} {E : Prop} (hgd : o.guard = none) (s x : Operand) (t tn : TypeId)
    (ho : o.op = .call { callee := .builtin .append, args := #[s, x], argTypes := #[t, tn] }) (vs vx : Value) (hs : a.eval s = vs) (hx : a.eval x = vx)
    (v' : Value) (w' : World) (hr : (Builtin.append_ #[t, tn] o.type #[vs, vx]).run P w = .ok v' w') (h : K (a.put o.dst v') w') :
    if Region.wanted o (yielded ops a.tmps) = true then Oper.wp P o a w K Q else E := by
  have hw : Region.wanted o (yielded ops a.tmps) = true := by simp [Region.wanted, hgd]
  rw [if_pos hw]
  exact Lib.wp_append_run w s x t tn ho vs vx hs hx v' w' hr h
theorem step_call {P : Program} (w : World) {ops : Array Oper} {o : Oper} {a : Act} {K : Act → World → Prop} {Q : Exit → Act → World → Prop} {E : Prop} (hgd : o.guard = none) (f : FuncId) (args : Array Value)
    (hrun : (execOp a.eval o).run P w = .ok (.enter f args) w) (R : Value → World → Prop) (hc : Calls P f args w fun e w' => ∃ v, e = .returned v ∧ R v w') (h : ∀ v w', R v w' → K (a.put o.dst v) w') :
    if Region.wanted o (yielded ops a.tmps) = true then Oper.wp P o a w K Q else E := by
  have hw : Region.wanted o (yielded ops a.tmps) = true := by simp [Region.wanted, hgd]
  rw [if_pos hw]
  unfold Oper.wp
  rw [hrun, Oper.upon_enter]
  refine hc.mono fun e w' hh => ?_
  obtain ⟨v, rfl, hr⟩ := hh
  exact h v w' hr
set_option maxHeartbeats 4000000 in
set_option maxRecDepth 100000 in
theorem xadd_ok (B q p f g a : Nat) (S : St) (V : Nat → Value) (s : ByteArray) (v : Value) (cs : List ByteArray) (w : World) (hj : Jm B w q p false f g a s v cs) (h : Dk B w p S V) (ok : Ok S) (c : ByteArray) (hc : c.size ≤ 4096) (hl : cs.length ≤ 1048576) : Calls Try.prog 26 #[.pointer (some ⟨q, 0, none⟩), .string c] w (AdP B p q f g a S s v cs c w) := by
  have HJ : Hid (Jm B w q p false f g a s v cs) := hj
  have HD : Hid (Dk B w p S V) := h
  have HP : Hid (∀ w, Calls Try.prog 50 #[.string c] w fun e w' => e = .returned (.tuple #[.string ⟨(putL c.data.toList).toArray⟩, .int .i64 0]) ∧ Below w.heap.size w w') := fun w => by
    have := xput c w
    rw [put_yes (l := c.data.toList) hc, putE_yes (l := c.data.toList) hc] at this
    exact this
  have HW : Hid (∀ w1 V1, Dk B w1 p S V1 → Calls Try.prog 34 #[.pointer (some ⟨p, 0, none⟩), .int .i64 f, .string ⟨(putL c.data.toList).toArray⟩] w1 fun e w' => e = .returned (.int .i64 (adR S f c.data.toList).2) ∧ ∃ V', Ch B p (adR S f c.data.toList).1 V' w1 w') := fun w1 V1 hd => by
    rw [adR_wrt]
    exact xwrite B p S V1 w1 hd ok f (ba (putL c.data.toList)) (by rw [ba_size, putL_len]; unfold maxLen; have : c.data.toList.length = c.size := rfl; omega)
  unfold AdP
  generalize adR S f c.data.toList = R at *
  obtain ⟨R, x⟩ := R
  simp only at HW ⊢
  generalize (⟨(putL c.data.toList).toArray⟩ : ByteArray) = Y at *
  have HF : Hid (∀ w, Jm B w q p false f g a s v cs → Calls Try.prog 45 #[.pointer (some ⟨q, 0, none⟩)] w (NP .i64 0 w)) := fun w h => xfault B q p f g a s v cs w h
  clear hj h ok
  go_enter Try.func26, Try.ntmps26
  go_wp2_with fail
  refine (HF.out _ HJ.out).mono ?_
  rintro e w1 ⟨rfl, rfl⟩
  go_wp2_with fail
  refine (HP.out _).mono ?_
  rintro e w1 ⟨rfl, hb1⟩
  have HJ1 : Hid (Jm B w1 q p false f g a s v cs) := HJ.out.keep hb1
  have HD1 : Hid (Dk B w1 p S V) := HD.out.below hb1
  have HF1 : Hid (Jf B p q v.ownBlock w w1) := Jf.of_below hb1 HD.out.bw
  have HS1 : Hid (w.heap.size ≤ w1.heap.size) := hb1.size
  have c2 : w1.cell? ⟨q, 2, none⟩ = some (.pointer (some ⟨p, 0, none⟩)) := HJ1.out.cell 2
  have c3 : w1.cell? ⟨q, 3, none⟩ = some (.int .i64 f) := HJ1.out.cell 3
  have HKP : Hid (∀ (n : Nat) (V2 : Nat → Value) (w2 : World), Ch B p R V2 (w1.drewN n) w2 → Jm B w2 q p false f g a s v cs ∧ w2.cell? ⟨q, 2, none⟩ = some (.pointer (some ⟨p, 0, none⟩)) ∧ w2.cell? ⟨q, 3, none⟩ = some (.int .i64 f)) := by
    intro n V2 w2 h2
    have hj1 : Jm B (w1.drewN n) q p false f g a s v cs := ⟨HJ1.out.base, HJ1.out.blk, HJ1.out.own⟩
    have hj2 := hj1.fr (HD1.out.drewN n) h2.2
    exact ⟨hj2, hj2.cell 2, hj2.cell 3⟩
  clear hb1 HF HP
  go_wp2_with fail
  go_region_held3 (fun w' => w'.cell? ⟨q, 2, none⟩ = some (.pointer (some ⟨p, 0, none⟩)) ∧ w'.cell? ⟨q, 3, none⟩ = some (.int .i64 f)) (first | go_keep | exact (HKP.out _ _ _ h2).2) (first | (go_at_call 34; go_must (refine (HW.out _ _ (HD1.out.drewN _)).mono ?_; rintro e w2 ⟨rfl, V2, h2⟩)))
  obtain ⟨hj2, _, _⟩ := HKP.out _ _ _ h2
  have HJ2 : Hid (Jm B w2 q p false f g a s v cs) := hj2
  have HD2 : Hid (Dk B w2 p R V2) := h2.1
  have HF2 : Hid (Jf B p q v.ownBlock w w2) := HF1.out.trans (Jf.of_fr (((Fr.refl B p w1).drewN 1).trans h2.2))
  have HS2 : Hid (w.heap.size ≤ w2.heap.size) := by have e1 := HS1.out; have e2 := h2.2.1.size; unfold Hid; exact Nat.le_trans e1 e2
  rename_i hHeld
  clear hHeld hj2 h2 HKP HW c2 c3 HJ1 HD1 HF1 HS1 HJ HD
  by_cases hx : x = 0
  · subst hx
    obtain ⟨xv, cv, rfl⟩ := own_slice HJ2.out.own
    have c7 : w2.cell? ⟨q, 7, none⟩ = some (.slice xv cs.length cv) := HJ2.out.cell 7
    have f7 := HJ2.out.froz 7
    go_wp2_with fail
    have HAP : Hid (∀ (n : Nat) (w3 : World), Below (w2.drewN n).heap.size (w2.drewN n) w3 → w3.cell? ⟨q, 7, none⟩ = some (.slice xv cs.length cv) ∧ (w3.alloc (.cells #[.string c] 9)).cell? ⟨q, 7, none⟩ = some (.slice xv cs.length cv) ∧ q < w3.heap.size ∧ ∃ (x' : Option Addr) (n' c' : Nat) (w4 : World), (Builtin.append_ #[35, 35] 35 #[.slice xv cs.length cv, .slice (some ⟨w3.heap.size, 0, none⟩) 1 1]).run Try.prog (w3.alloc (.cells #[.string c] 9)) = .ok (.slice x' n' c') w4 ∧ w4.cell? ⟨q, 7, none⟩ = some (.slice xv cs.length cv) ∧ w4.frozen? ⟨q, 7, none⟩ = false ∧ Hid (Dk B (w4.setCell ⟨q, 7, none⟩ (.slice x' n' c')) p R V2 ∧ Jf B p q (Value.slice xv cs.length cv).ownBlock w (w4.setCell ⟨q, 7, none⟩ (.slice x' n' c')) ∧ Jm B (w4.setCell ⟨q, 7, none⟩ (.slice x' n' c')) q p false f g a s (.slice x' n' c') (cs ++ [c]) ∧ ((Value.slice x' n' c').ownBlock = (Value.slice xv cs.length cv).ownBlock ∨ ∃ k, (Value.slice x' n' c').ownBlock = some k ∧ w.heap.size ≤ k))) := by
      intro n w3 hb
      have hj1 : Jm B (w2.drewN n) q p false f g a s (.slice xv cs.length cv) cs := ⟨HJ2.out.base, HJ2.out.blk, HJ2.out.own⟩
      have hj3 := hj1.keep hb
      have hd3 := (HD2.out.drewN n).below hb
      have hf3 : Jf B p q (Value.slice xv cs.length cv).ownBlock w w3 := (HF2.out.drewN n).trans (Jf.of_below hb (HD2.out.drewN n).bw)
      have hs3 : w.heap.size ≤ w3.heap.size := Nat.le_trans HS2.out hb.size
      obtain ⟨x', n', c', w4, r1, r2, r3, r4, r5, r6, r7⟩ := hj3.grow hd3 hf3 hl hs3 c
      have hb4 := below_new w3 (.cells #[.string c] 9)
      exact ⟨hj3.cell 7, (hb4.cell (by exact hj3.lt)).trans (hj3.cell 7), hj3.lt, x', n', c', w4, r1, r2, r3, r4, r5, r6, r7⟩
    have HCL : Hid (∀ w, Calls Try.prog 32 #[.string c] w fun e w' => ∃ v, e = .returned v ∧ (v = .string c ∧ Below w.heap.size w w')) := fun w => (xclone c (by omega) w).mono fun _ _ h => ⟨_, h.1, rfl, h.2⟩
    go_region_law (first | (refine step_append_run _ (by rfl) _ _ 35 35 (by rfl) _ _ (by rfl) (by rfl) _ w4 hr ?_) | (refine step_call _ (by rfl) 32 #[.string c] (by go_simp) _ (HCL.out _) ?_; rintro v9 w3 ⟨rfl, h3⟩; obtain ⟨k7, k8, k9, x', n', c', w4, hr, hw4, hf4, HX4⟩ := HAP.out _ _ h3))
    all_goals
      clear hr hw4 hf4 k7 k8 k9 h3 HAP HCL c7 f7
      generalize w4.setCell ⟨q, 7, none⟩ (.slice x' n' c') = w5 at *
      go_wp2_with fail
      go_ret
      exact ⟨rfl, ⟨V2, HX4.out.1⟩, HX4.out.2.1, _, HX4.out.2.2.1, HX4.out.2.2.2⟩
  · have hx1 : (x == 0) = false := by simpa using hx
    have hx2 : (x != 0) = true := by simpa using hx
    have HX : Hid (¬ x = 0) := hx
    clear hx
    go_wp2_with fail
    refine (xfailed B q p f g a s v cs _ HJ2.out x none).mono ?_
    rintro e w3 ⟨rfl, hw3⟩
    have HG : Hid (Dk B w3 p R V2 ∧ Jf B p q v.ownBlock w w3) := by
      rcases hw3 with rfl | rfl
      · exact ⟨HD2.out, HF2.out⟩
      · exact ⟨HD2.out.setQ HJ2.out.blk (by decide) (by decide) 1 _, HF2.out.trans (Jf.set HJ2.out.base 1 _)⟩
    clear hw3
    go_wp2_with fail
    go_ret
    exact ⟨rfl, ⟨V2, HG.out.1⟩, HG.out.2, fun h => absurd h HX.out⟩
set_option maxHeartbeats 4000000 in
theorem xadd_long (B q p f g a : Nat) (s : ByteArray) (v : Value) (cs : List ByteArray) (w : World) (hj : Jm B w q p false f g a s v cs) (c : ByteArray) (hc : ¬ c.size ≤ 4096) : Calls Try.prog 26 #[.pointer (some ⟨q, 0, none⟩), .string c] w fun e w' => e = .returned (.int .i64 2) ∧ Below w.heap.size w w' := by
  have HP : Hid (∀ w, Calls Try.prog 50 #[.string c] w fun e w' => e = .returned (.tuple #[.string ⟨#[]⟩, .int .i64 2]) ∧ Below w.heap.size w w') := fun w => by
    have := xput c w
    rw [put_no (l := c.data.toList) hc, putE_no (l := c.data.toList) hc] at this
    exact this
  have HF : Hid (Calls Try.prog 45 #[.pointer (some ⟨q, 0, none⟩)] w (NP .i64 0 w)) := xfault B q p f g a s v cs w hj
  clear hj hc
  go_enter Try.func26, Try.ntmps26
  go_wp2_with fail
  refine HF.out.mono ?_
  rintro e w1 ⟨rfl, rfl⟩
  go_wp2_with fail
  refine (HP.out _).mono ?_
  rintro e w1 ⟨rfl, hb1⟩
  have HB : Hid (Below w.heap.size w w1) := hb1
  clear hb1
  go_wp2_with fail
  go_ret
  exact ⟨rfl, HB.out⟩
end Go.Proofs.Yteiilifljfagdaa
