import Derived.Test.YtiimkhepplkocaaGreatV6
import Derived.Deep.LoopGhost
namespace Go.Proofs.YtiimkhepplkocaaGreat
open Go.RowKit Go.Sort
set_option linter.unusedVariables false
attribute [local go_sem ↓] Go.wp_at_zero Go.wp_at_succ

/-- A row that holds numbers; one whose numbers go up from k. -/
def IntsR (w : World) (B : Nat) (e : TypeId) (size : Nat) (v : Value) (n : Nat) : Prop := ∃ xs, w.ownsRow B e size v n xs ∧ ∀ j, j < n * size → ∃ z, xs[j]? = some (.int .i64 z)
def MkdR (w : World) (B : Nat) (e : TypeId) (size : Nat) (v : Value) (n : Nat) (k : Int) : Prop := ∃ xs, w.ownsRow B e size v n xs ∧ ∀ j, j < n * size → xs[j]? = some (.int .i64 (k + j))
/-- Only that row was written. -/
structure Only (v : Value) (w w' : World) : Prop where
  os : w'.os = w.os
  tape : w'.tape = w.tape
  output : w'.output = w.output
  size : w'.heap.size = w.heap.size
  block : ∀ q, v.ownBlock ≠ some q → w'.heap[q]? = w.heap[q]?
theorem Only.refl (v : Value) (w : World) : Only v w w := ⟨rfl, rfl, rfl, rfl, fun _ _ => rfl⟩
theorem Only.trans {v : Value} {a b c : World} (h : Only v a b) (k : Only v b c) : Only v a c := ⟨k.os.trans h.os, k.tape.trans h.tape, k.output.trans h.output, k.size.trans h.size, fun q hq => (k.block q hq).trans (h.block q hq)⟩
theorem Only.set {g n c o : Nat} {w : World} (u : Value) : Only (.slice (some ⟨g, 0, none⟩) n c) w (w.setCell ⟨g, o, none⟩ u) := ⟨rfl, rfl, rfl, by simp, fun q hq => Below.heap_setCell _ _ _ _ (fun e => hq (by simp [Value.ownBlock]; exact e.symm))⟩
theorem Only.drew {v : Value} {a b : World} (h : Only v a b) : Only v a b.drew := ⟨h.os, h.tape, h.output, h.size, h.block⟩
theorem Only.below {v : Value} {w w' : World} {L : Nat} (h : Only v w w') (hL : ∀ b, v.ownBlock = some b → L ≤ b) : Below L w w' := ⟨h.os, h.tape, h.output, Nat.le_of_eq h.size.symm, fun k hk => h.block k (fun e => by have := hL k e; omega)⟩
theorem Only.own {v : Value} {w w' : World} {B : Nat} {e : TypeId} {size : Nat} {v2 : Value} {n : Nat} {xs : List Value} (h : Only v w w') (ho : w.ownsRow B e size v2 n xs) (hne : ∀ b, v2.ownBlock = some b → v.ownBlock ≠ some b) : w'.ownsRow B e size v2 n xs := ownsRow_eqb ho (fun b _ hb => h.block b (hne b hb))
theorem effCells_int : ∀ (es : List EffD) (j : Nat), j < es.length * 4 → ∃ z, (effCells es)[j]? = some (.int .i64 z)
  | [], j, h => by simp at h
  | e :: r, 0, _ => ⟨_, rfl⟩
  | e :: r, 1, _ => ⟨_, rfl⟩
  | e :: r, 2, _ => ⟨_, rfl⟩
  | e :: r, 3, _ => ⟨_, rfl⟩
  | e :: r, j + 4, h => by
    obtain ⟨z, hz⟩ := effCells_int r j (by simp at h; omega)
    exact ⟨z, by simpa [effCells] using hz⟩
theorem ints_eff {w : World} {B : Nat} {v : Value} {es : List EffD} (h : w.ownsRow B 136 4 v es.length (effCells es)) : IntsR w B 136 4 v es.length := ⟨_, h, effCells_int es⟩

set_option maxHeartbeats 800000 in
theorem markInt_own (B : Nat) (v : Value) (n : Nat) (k : Int) (w : World) (h0 : 0 ≤ k) (h1 : k + n ≤ 1099511627776) (h : IntsR w B 3 1 v n) :
    Calls Tryz.prog 85 #[v, .int .i64 k] w fun e w' => e = .returned (.int .i64 (k + n)) ∧ MkdR w' B 3 1 v n k ∧ Only v w w' := by
  have HR := hid h
  obtain ⟨xs, ho, hz⟩ := h
  rcases ho.2 with ⟨rfl, rfl⟩ | ⟨g, cap, cur, rfl, _⟩
  · clear ho hz
    go_enter Tryz.func85, Tryz.ntmps85
    go_wp2
    go_loopw [1, 5] (fun kv i wr => wr = w ∧ i = .int .i64 0 ∧ kv = .int .i64 k) (fun _ _ _ => 0)
    case atStart => exact ⟨rfl, rfl, rfl⟩
    case round =>
      obtain ⟨rfl, rfl, rfl⟩ := hrel
      go_wp2
      go_ret
      obtain ⟨xs, ho, _⟩ := HR.out
      exact ⟨by simp, ⟨xs, ho, fun j hj => by simp at hj⟩, Only.refl _ _⟩
  · clear ho hz
    go_enter Tryz.func85, Tryz.ntmps85
    go_wp2
    go_loopw [1, 5] (fun kv i wr => ∃ a : Nat, a ≤ n ∧ i = .int .i64 a ∧ kv = .int .i64 (k + a) ∧ Hid (∃ xs, wr.ownsRow B 3 1 (.slice (some ⟨g, 0, none⟩) n cap) n xs ∧ (∀ j, j < n * 1 → ∃ z, xs[j]? = some (.int .i64 z)) ∧ ∀ j, j < a → xs[j]? = some (.int .i64 (k + j))) ∧ Hid (Only (.slice (some ⟨g, 0, none⟩) n cap) w wr)) (fun _ i _ => n - (intOf i).toNat)
    case atStart =>
      obtain ⟨xs, ho, hz⟩ := HR.out
      exact ⟨0, Nat.zero_le _, rfl, by simp, hid ⟨xs, ho, hz, fun j hj => by omega⟩, hid (Only.refl _ _)⟩
    case round =>
      obtain ⟨a, ha, rfl, rfl, HO, HB⟩ := hrel
      by_cases hlt : a < n
      · obtain ⟨xs, ho, hz, hm⟩ := HO.out
        obtain ⟨z, hza⟩ := hz a (by omega)
        have d0 := World.ownsRow.cellAt ho a (by omega)
        rw [hza] at d0
        have f0 := World.ownsRow.frozenAt ho a
        have OO := hid ho
        have HZ := hid hz
        have HM := hid hm
        have HL := hid ho.1
        have an : (a : Int) < (n : Int) := by omega
        obtain ⟨kk, hkk⟩ : ∃ kk, kk = k + (a : Int) := ⟨_, rfl⟩
        have HK := hid hkk
        have kb0 : 0 ≤ kk := by omega
        have kb1 : kk ≤ 1099511627776 := by omega
        rw [← hkk]
        clear ho hz hm hza hkk
        go_wp2
        go_roundw
        case rel =>
          have hk := HK.out
          have hl := HL.out
          refine ⟨a + 1, by omega, by go_num, by congr 1; omega, hid ⟨_, (World.ownsRow.stored OO.out a _).1, fun j hj => ?_, fun j hj => ?_⟩, hid (HB.out.trans (Only.set _))⟩
          · rw [List.getElem?_set]
            split
            · rw [if_pos (by omega)]; exact ⟨_, rfl⟩
            · exact HZ.out j hj
          · rw [List.getElem?_set]
            split
            · rename_i e; rw [if_pos (by omega), hk, e]
            · exact HM.out j (by omega)
        case measure => simp [intOf]; omega
      · have e : a = n := by omega
        subst e
        go_wp2
        go_ret
        obtain ⟨xs, ho, hz, hm⟩ := HO.out
        exact ⟨rfl, ⟨xs, ho, fun j hj => hm j (by omega)⟩, HB.out⟩

set_option maxHeartbeats 800000 in
theorem heldInt_own (B : Nat) (v : Value) (n : Nat) (k : Int) (w : World) (h0 : 0 ≤ k) (h1 : k + n ≤ 1099511627776) (h : MkdR w B 3 1 v n k) :
    Calls Tryz.prog 88 #[v, .int .i64 k] w fun e w' => e = .returned (.int .i64 (k + n)) ∧ w' = w := by
  obtain ⟨xs, ho, hm⟩ := h
  have HO := hid ho
  have HM := hid hm
  rcases ho.2 with ⟨rfl, rfl⟩ | ⟨g, cap, cur, rfl, _⟩
  · clear ho hm
    go_enter Tryz.func88, Tryz.ntmps88
    go_wp2
    go_loopw [1, 5] (fun kv i wr => wr = w ∧ i = .int .i64 0 ∧ kv = .int .i64 k) (fun _ _ _ => 0)
    case atStart => exact ⟨rfl, rfl, rfl⟩
    case round =>
      obtain ⟨rfl, rfl, rfl⟩ := hrel
      go_wp2
      go_ret
      exact ⟨by simp, rfl⟩
  · clear ho hm
    go_enter Tryz.func88, Tryz.ntmps88
    go_wp2
    go_loopw [1, 5] (fun kv i wr => wr = w ∧ ∃ a : Nat, a ≤ n ∧ i = .int .i64 a ∧ kv = .int .i64 (k + a)) (fun _ i _ => n - (intOf i).toNat)
    case atStart => exact ⟨rfl, 0, Nat.zero_le _, rfl, by simp⟩
    case round =>
      obtain ⟨rfl, a, ha, rfl, rfl⟩ := hrel
      by_cases hlt : a < n
      · have d0 := (World.ownsRow.cellAt HO.out a (by omega)).trans (HM.out a (by omega))
        have an : (a : Int) < (n : Int) := by omega
        obtain ⟨kk, hkk⟩ : ∃ kk, kk = k + (a : Int) := ⟨_, rfl⟩
        have HK := hid hkk
        have kb0 : 0 ≤ kk := by omega
        have kb1 : kk ≤ 1099511627776 := by omega
        rw [← hkk] at d0 ⊢
        clear hkk
        go_wp2
        go_roundw
        case rel =>
          have hk := HK.out
          exact ⟨by first | rfl | trivial, a + 1, by omega, by go_num, by congr 1; omega⟩
        case measure => simp [intOf]; omega
      · have e : a = n := by omega
        subst e
        go_wp2
        go_ret
        exact ⟨rfl, rfl⟩

end Go.Proofs.YtiimkhepplkocaaGreat
