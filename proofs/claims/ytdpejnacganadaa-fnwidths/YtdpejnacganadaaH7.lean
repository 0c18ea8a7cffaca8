import Derived.Test.YtdpejnacganadaaV6
import Derived.Test.YtdpejnacganadaaJ1
namespace Go.Proofs.Ytdpejnacganadaa
open Go.RowKit Go.Sort

theorem up1 {a b : World} (h : Below a.heap.size a b) (o : Obj) : Below a.heap.size a (b.alloc o) := h.alloc h.size o
theorem up2 {a b : World} (h : Below a.heap.size a b) (o p : Obj) : Below a.heap.size a ((b.alloc o).alloc p) := up1 (up1 h o) p
theorem dm1 {a b : World} {o : Obj} (h : Below (a.alloc o).heap.size (a.alloc o) b) : Below a.heap.size a b := (below1 a o).trans (h.mono (by simp))
theorem dm2 {a b : World} {o p : Obj} (h : Below ((a.alloc o).alloc p).heap.size ((a.alloc o).alloc p) b) : Below a.heap.size a b := (below2 a o p).trans (h.mono (by simp; omega))
theorem dn1 {a b : World} {o : Obj} (h : Below (a.alloc o).drew.heap.size (a.alloc o).drew b) : Below a.heap.size a b := dm1 (dn0 h)
theorem dn2 {a b : World} {o p : Obj} (h : Below ((a.alloc o).alloc p).drew.heap.size ((a.alloc o).alloc p).drew b) : Below a.heap.size a b := dm2 (dn0 h)
theorem pair2 {w : World} {H : Nat} {a b : Value} {t : TypeId} (h : w.heap[H]? = some (.cells #[a, b] t (0, 0))) : w.cell? ⟨H, 0, none⟩ = some a ∧ w.cell? ⟨H, 1, none⟩ = some b := by simp [World.cell?, h]
/-- The answer's two cells are set: a list that was made stays. -/
theorem out_keep {wr : World} {B b : Nat} {o1 o2 : Nat} {u1 u2 x y : Value} {v : Value} {zs : List Int} (hb : wr.heap[b]? = some (.cells #[x, y] 26 (0, 0))) (ho : Own wr B v zs) : Own ((wr.setCell ⟨b, o1, none⟩ u1).setCell ⟨b, o2, none⟩ u2) B v zs := by
  have h1 := own_far ho.1 (by decide) hb
  have m1 := heap_setCell_same wr b o1 _ _ u1 hb
  have ho1 := ownsRow_setCell_other (a := ⟨b, o1, none⟩) ho.1 h1 u1
  exact ⟨ownsRow_setCell_other (a := ⟨b, o2, none⟩) ho1 (own_far ho1 (by decide) m1) u2, ho.2⟩

/-- Exec of one Set of the argument. -/
theorem implExec_arg (ao : Option Addr) (c : Nat) (kb ko vb vo kc vc : Nat) (k y x : Int) (w : World) (h1 : 1 ≤ k) (h7 : k ≤ 7)
    (hs : StmsOf w ao 1 [⟨1, 0, 0, [(3, 0)]⟩]) (hk : SliceOf w (some ⟨kb, ko, none⟩) 2 [k, 4]) (hv : SliceOf w (some ⟨vb, vo, none⟩) 2 [0, y]) :
    Calls Try.prog 9 #[.slice ao 1 c, .agg #[.slice (some ⟨kb, ko, none⟩) 2 kc, .slice (some ⟨vb, vo, none⟩) 2 vc], .int .i64 x] w fun e w' => ∃ kg kc vg vc ea en ec, e = .returned (.tuple #[.agg #[.slice (some ⟨kg, 0, none⟩) 2 kc, .slice (some ⟨vg, 0, none⟩) 2 vc], .slice ea en ec]) ∧
      Own w' w.heap.size (.slice (some ⟨vg, 0, none⟩) 2 vc) [conv k x, y] ∧ Below w.heap.size w w' := by
  have hn : liftAll ⟨64, 64, 200, 2⟩ [⟨1, 0, 0, [(3, 0)]⟩] = some [.iface 121 (.agg #[.int .i64 0, tv .arg])] := by
    simp [liftAll, limP, nodesR, nodeOf, fieldsB, fieldA, fieldB, hasB, liftT, runT, stepT, onlyT]
  have hok : okE [k, 4] [0, y] [⟨1, 0, 0, [(3, 0)]⟩] = true := by
    unfold okE
    rw [bank2 k y h1 h7, ← liftAll_stmsB]
    simp only [List.length_cons, List.length_nil, Bool.true_and]
    exact congrArg Option.isSome hn
  refine (implExec_any ao 1 c [⟨1, 0, 0, [(3, 0)]⟩] kb ko vb vo 2 kc 2 vc [k, 4] [0, y] x w (by omega) (by omega) (by omega) hs hk hv).mono ?_
  rintro e w' ⟨kv, vv, ev, rfl, ho, hb⟩
  have e1 : ansK [k, 4] [0, y] [⟨1, 0, 0, [(3, 0)]⟩] = [k, 4] := by simp [ansK, hok]
  have e2 : ansV [k, 4] [0, y] [⟨1, 0, 0, [(3, 0)]⟩] x = [conv k x, y] := by
    simp [ansV, hok, execS, stepS, codeV, liftT, runT, stepT, onlyT, evalT]
  have ov := ho.v
  have ok := ho.k
  rw [e2] at ov
  rw [e1] at ok
  obtain ⟨kg, kp, rfl, _, _⟩ := World.ownsRow.form ok (by simp)
  obtain ⟨vg, vp, rfl, _, _⟩ := World.ownsRow.form ov (by simp)
  obtain ⟨ea, en, ec, rfl⟩ : ∃ ea en ec, ev = .slice ea en ec := by
    rcases ho.e.2 with ⟨h, _⟩ | ⟨g, cap, cur, h, _⟩ <;> exact ⟨_, _, _, h⟩
  exact ⟨kg, kp, vg, vp, ea, en, ec, rfl, ⟨ov, by simp⟩, hb⟩
end Go.Proofs.Ytdpejnacganadaa
