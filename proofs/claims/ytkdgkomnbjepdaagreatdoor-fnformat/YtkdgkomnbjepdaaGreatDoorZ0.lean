import Derived.OrdersHeld
import Derived.Deep.RegionHeld3
namespace Go.Proofs.YtkdgkomnbjepdaaGreatDoor
open Go
section
variable {P : Program} {ops : Array Oper} {Q : Exit → Act → World → Prop} {md : Region.Mode} {S : World → Prop}
def wpTill (P : Program) (md : Region.Mode) (ops : Array Oper) (Q : Exit → Act → World → Prop) (S : World → Prop) (st fuel : Nat) (listed : Array Bool) (a : Act) (w : World) : Prop :=
 match fuel with
 | 0 => Region.ready md ops listed = [] ∧ Q .normal a w
 | n + 1 => (Region.ready md ops listed = [] → Q .normal a w) ∧ ∀ i ∈ Region.ready md ops listed,
   wpOp P ops Q i (fun b u => ((listed.setIfInBounds i true).getD st true = false → S u) ∧ wpTill P md ops Q S st n (listed.setIfInBounds i true) b u) a w
theorem wpAny_of_till {st fuel : Nat} {listed : Array Bool} {a : Act} {w : World} (h : wpTill P md ops Q S st fuel listed a w) : wpAny P md ops Q fuel listed a w := by
 induction fuel generalizing listed a w with
 | zero => exact h
 | succ n ih => exact ⟨h.1,fun i hi => wpOp_mono (fun _ _ k => ih k.2) (h.2 i hi)⟩
def waits (md : Region.Mode) (ops : Array Oper) (st i : Nat) : Bool := match ops[st]? with | some o => o.after.any (fun e => Region.binds md e && decide (e.on = i)) | none => false
theorem ready_not_waits {i j : Nat} {listed : Array Bool} (hi : i ∈ Region.ready md ops listed) (hj : j ∈ Region.ready md ops listed) : waits md ops j i = false := by
 obtain ⟨_,oj,hoj,hall⟩ := mem_ready.1 hj
 cases h : waits md ops j i with
 | false => rfl
 | true =>
  unfold waits at h
  rw [hoj] at h
  obtain ⟨e,he,h2⟩ := Array.any_eq_true'.1 h
  simp only [Bool.and_eq_true,decide_eq_true_eq] at h2
  have k1 := hall e he h2.1
  have k0 := (mem_ready.1 hi).1
  rw [h2.2] at k1
  by_cases hs : i < listed.size
  ·simp [hs] at k0 k1
   rw [k0] at k1
   cases k1
  ·simp [Array.getElem?_eq_none (Nat.le_of_not_lt hs)] at k1
def Beside (md : Region.Mode) (ops : Array Oper) (i : Nat) (oi : Oper) (listed : Array Bool) : Prop :=
 ∀ j oj,ops[j]? = some oj → j ≠ i → listed.getD j true = false → (∀ e ∈ oj.after,Region.binds md e = true → e.on ≠ i) → oi.apart ops oj = true
theorem Beside.next {i j : Nat} {oi : Oper} {listed : Array Bool} (h : Beside md ops i oi listed) : Beside md ops i oi (listed.setIfInBounds j true) := by
 intro k ok hk hki hun hno
 refine h k ok hk hki ?_ hno
 by_cases e : j = k
 ·subst e
  by_cases hs : j < listed.size
  ·simp [hs] at hun
  ·simp [hs] at hun
 ·rwa [getD_set_ne true e] at hun
theorem wpTill_first {st i : Nat} {oi : Oper} {v : Value} (hi : ops[i]? = some oi) (hsel : ∀ (j : Nat) (o : Oper) cs b,ops[j]? = some o → o.op ≠ .select cs b)
  (hQ : ∀ c a w,Q (.panic c) (a.put oi.dst v) w → Q (.panic c) a w) (hst : waits md ops st i = true) {fuel : Nat} {listed : Array Bool} {a : Act} {w : World}
  (hfree : Beside md ops i oi listed) (hr : i ∈ Region.ready md ops listed) (hl : listed.getD st true = false) (hy : YieldsIf P ops S oi v a) (hS : S w)
  (H : wpTill P md ops Q S st fuel (listed.setIfInBounds i true) (a.put oi.dst v) w) : wpTill P md ops Q S st (fuel + 1) listed a w := by
 induction fuel generalizing listed a w with
 | zero =>
  refine ⟨fun h => by simp [h] at hr,fun j hj => ?_⟩
  by_cases e : j = i
  ·exact e ▸ hy.wpOp hi hS ⟨fun _ => hS,H⟩
  ·exact absurd (ready_mono hj e) (by rw [H.1]; simp)
 | succ n ih =>
  refine ⟨fun h => by simp [h] at hr,fun j hj => ?_⟩
  by_cases e : j = i
  ·exact e ▸ hy.wpOp hi hS ⟨fun _ => hS,H⟩
  have his : i ≠ st := fun h => by have := ready_not_waits hr hr; rw [← h] at hst; rw [hst] at this; cases this
  have hjs : j ≠ st := fun h => by have := ready_not_waits hr hj; rw [h,hst] at this; cases this
  obtain ⟨hjun,oj,hoj,_⟩ := mem_ready.1 hj
  have hno : ∀ x ∈ oj.after,Region.binds md x = true → x.on ≠ i := fun x hx hb hon => by
   have h := ready_not_waits hr hj
   unfold waits at h
   rw [hoj] at h
   have := Array.any_eq_false'.1 h x hx
   simp [hb,hon] at this
  refine wpOp_mono (fun b u k => ?_) (wpOp_putIf hoj (hfree j oj hoj e hjun hno) (fun cs b => hsel i oi cs b hi) (fun cs b => hsel j oj cs b hoj) hQ hy (H.2 j (ready_mono hj e)))
  have hu : S u := k.2.1 (by rw [getD_set_ne true hjs,getD_set_ne true his]; exact hl)
  refine ⟨fun _ => hu,ih hfree.next (ready_mono hr (Ne.symm e)) (by rw [getD_set_ne true hjs]; exact hl) k.1 hu ?_⟩
  rw [Array.setIfInBounds_comm _ _ e]
  exact k.2.2
theorem wpTill_take {st i : Nat} {oi : Oper} {d : Option Nat} {v : Value} {fuel : Nat} {listed : Array Bool} {a : Act} {w : World} (hi : ops[i]? = some oi) (hd : oi.dst = d)
  (hs : Region.noSelect ops = true) (hf : Region.free md ops listed i = true) (hr : (Region.ready md ops listed).contains i = true) (hst : waits md ops st i = true) (hl : listed.getD st true = false)
  (hQ : ∀ c a w,Q (.panic c) (a.put d v) w → Q (.panic c) a w) (hy : YieldsIf P ops S oi v a) (hS : S w)
  (h : wpTill P md ops Q S st fuel (listed.setIfInBounds i true) (a.put d v) w) : wpTill P md ops Q S st (fuel + 1) listed a w := by
 subst hd
 exact wpTill_first hi (Region.noSelect_spec hs) hQ hst (Region.free_spec hi hf) (by simpa using hr) hl hy hS h
theorem wpTill_step {st i : Nat} {o : Oper} {fuel : Nat} {listed : Array Bool} {a : Act} {w : World} (hr : Region.ready md ops listed = [i]) (ho : ops[i]? = some o)
  (h : ∀ K : Act → World → Prop,(∀ b u,S u → wpTill P md ops Q S st fuel (listed.setIfInBounds i true) b u → K b u) → if Region.wanted o (yielded ops a.tmps) = true then Oper.wp P o a w K Q else K (a.put o.dst undef) w) : wpTill P md ops Q S st (fuel + 1) listed a w := by
 refine ⟨fun e => absurd (hr ▸ e) (by simp),fun j hj => ?_⟩
 rw [hr] at hj
 obtain rfl : j = i := by simpa using hj
 have h1 := h (fun b u => ((listed.setIfInBounds j true).getD st true = false → S u) ∧ wpTill P md ops Q S st fuel (listed.setIfInBounds j true) b u) (fun b u hS ht => ⟨fun _ => hS,ht⟩)
 unfold wpOp
 rw [ho]
 dsimp only
 split
 ·rename_i hw; rw [if_pos hw] at h1; exact .inl h1
 ·rename_i hw; rw [if_neg hw] at h1; exact h1
theorem wpTill_last {st : Nat} {o : Oper} {fuel : Nat} {listed : Array Bool} {a : Act} {w : World} (hr : Region.ready md ops listed = [st]) (ho : ops[st]? = some o) (hn : (listed.setIfInBounds st true).getD st true = true)
  (h : ∀ K : Act → World → Prop,(∀ b u,wpTill P md ops Q S st fuel (listed.setIfInBounds st true) b u → K b u) → if Region.wanted o (yielded ops a.tmps) = true then Oper.wp P o a w K Q else K (a.put o.dst undef) w) : wpTill P md ops Q S st (fuel + 1) listed a w := by
 refine ⟨fun e => absurd (hr ▸ e) (by simp),fun j hj => ?_⟩
 rw [hr] at hj
 obtain rfl : j = st := by simpa using hj
 have h1 := h (fun b u => ((listed.setIfInBounds j true).getD j true = false → S u) ∧ wpTill P md ops Q S j fuel (listed.setIfInBounds j true) b u) (fun b u ht => ⟨fun e => absurd (hn.symm.trans e) (by simp),ht⟩)
 unfold wpOp
 rw [ho]
 dsimp only
 split
 ·rename_i hw; rw [if_pos hw] at h1; exact .inl h1
 ·rename_i hw; rw [if_neg hw] at h1; exact h1
theorem wpTill_done {st : Nat} {listed : Array Bool} {a : Act} {w : World} (hr : Region.ready md ops listed = []) (h : Q .normal a w) (fuel : Nat) : wpTill P md ops Q S st fuel listed a w := by
 cases fuel with
 | zero => exact ⟨hr,h⟩
 | succ n => exact ⟨fun _ => h,by simp [hr]⟩
theorem wp_region_till {id st : Nat} {a : Act} {w : World} (hm : P.follows .mixedOrders = true) (h : wpTill P .any ops Q S st ops.size (Array.replicate ops.size false) a w.drew) : (Code.region id ops true).wp P Q a w :=
 wp_region_any hm (wpAny_of_till h)
end
end Go.Proofs.YtkdgkomnbjepdaaGreatDoor
