import Derived.Test.YtdpejnacganadaaGreatK4
namespace Go.Proofs.YtdpejnacganadaaGreat
open Go.RowKit Go.Sort

theorem fitsSt_of {ss : List StD} (h : wStates ss ≤ 1048576) : FitsSt ss := by
  unfold wStates at h
  refine ⟨by omega, fun i hi => ?_⟩
  have : wSt (ss.getD i st0) ≤ _ := le_sumTo (fun i => wSt (ss.getD i st0)) hi
  have h2 : wSt (ss.getD i st0) = wStms (ss.getD i st0).entry + wStms (ss.getD i st0).exit := rfl
  exact ⟨fits_of (by omega), fits_of (by omega)⟩
def FitsTr (ss : List TrD) : Prop := ss.length ≤ 1048576 ∧ ∀ i, i < ss.length → (ss.getD i tr0).guard.length ≤ 1048576 ∧ Fits (ss.getD i tr0).action
theorem fitsTr_of {ss : List TrD} (h : wTrans ss ≤ 1048576) : FitsTr ss := by
  unfold wTrans at h
  refine ⟨by omega, fun i hi => ?_⟩
  have : wTr (ss.getD i tr0) ≤ _ := le_sumTo (fun i => wTr (ss.getD i tr0)) hi
  have h2 : wTr (ss.getD i tr0) = (ss.getD i tr0).guard.length + wStms (ss.getD i tr0).action := rfl
  exact ⟨by omega, fits_of (by omega)⟩

def TrCells (w : World) (L : Nat) (F : Nat → Value) (ss : List TrD) (k : Nat) : Prop :=
  ∀ i, i < k → F (i * 5) = .int .i64 (ss.getD i tr0).src ∧ F (i * 5 + 1) = .int .i64 (ss.getD i tr0).sig ∧ IRow w L (F (i * 5 + 2)) (ss.getD i tr0).guard ∧ F (i * 5 + 3) = .int .i64 (ss.getD i tr0).target ∧ SRow w L (F (i * 5 + 4)) (ss.getD i tr0).action
theorem TrCells.same {w w' : World} {L : Nat} {F : Nat → Value} {ss : List TrD} {k : Nat} (h : TrCells w L F ss k) (hs : Same L w w') : TrCells w' L F ss k := fun i hi => ⟨(h i hi).1, (h i hi).2.1, (h i hi).2.2.1.same hs, (h i hi).2.2.2.1, (h i hi).2.2.2.2.same hs⟩
theorem TrCells.mono {w : World} {L L' : Nat} {F : Nat → Value} {ss : List TrD} {k : Nat} (h : TrCells w L F ss k) (hl : L' ≤ L) : TrCells w L' F ss k := fun i hi => ⟨(h i hi).1, (h i hi).2.1, (h i hi).2.2.1.mono hl, (h i hi).2.2.2.1, (h i hi).2.2.2.2.mono hl⟩
theorem run_make_fives (t e : TypeId) (z0 z1 z2 z3 z4 : Value) (bytes : Nat) (ht : Tryz.prog.underlying t = some (.slice e)) (hinfo : (Tryz.prog.info? e).map (fun i => (i.zero, i.size, i.bytes)) = some (some (.agg #[z0, z1, z2, z3, z4]), 5, bytes))
    (kl kc : IntKind) (n : Nat) (hbytes : bytes * n ≤ 281474976710656) (h63 : n ≤ 9223372036854775807) (w : World) :
    (Instr.makeSlice t (.int kl (n : Int)) (.int kc (n : Int))).run Tryz.prog w = .ok (.slice (some ⟨w.heap.size, 0, none⟩) n n) (w.alloc (.cells (madeCells #[z0, z1, z2, z3, z4] (n * 5)) e)) := by
  obtain ⟨i, hi, hzz⟩ := Option.map_eq_some_iff.1 hinfo
  simp only [Prod.mk.injEq] at hzz
  obtain ⟨hz, hs, hb⟩ := hzz
  have hb' : (i.bytes : Int) * (n : Int) ≤ 281474976710656 := by
    have h : ((i.bytes * n : Nat) : Int) ≤ 281474976710656 := by rw [hb]; omega
    rwa [Int.natCast_mul] at h
  have hr := run_make (P := Tryz.prog) w t e i (.agg #[z0, z1, z2, z3, z4]) ht hi hz kl kc n n (by omega) (Int.le_refl _) hb' (by omega)
  simp only [Int.toNat_natCast, hs] at hr
  exact hr
theorem rowIs_fives (w : World) (z0 z1 z2 z3 z4 : Value) (n : Nat) (t : TypeId) : (w.alloc (.cells (madeCells #[z0, z1, z2, z3, z4] (n * 5)) t)).rowIs w.heap.size t (n * 5) (fun i => #[z0, z1, z2, z3, z4][i % 5]!) :=
  ⟨_, heap_alloc_new _ _, size_madeCells _ _, fun i hi => by simp [madeCells, hi]⟩

end Go.Proofs.YtdpejnacganadaaGreat
