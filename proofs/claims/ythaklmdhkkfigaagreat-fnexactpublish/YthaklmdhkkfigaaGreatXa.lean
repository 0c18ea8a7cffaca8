import Derived.Test.YthaklmdhkkfigaaGreatU7
import Derived.Deep.AppendLies
import Derived.Deep.LoopGhost
import Derived.Deep.DeepCutAuto
import Derived.Deep.RegionHeld3
import Derived.Deep.RegionLaw
import Derived.Lib.Builder
import Derived.Test.YthaklmdhkkfigaaGreatEa
namespace Go.Proofs.YthaklmdhkkfigaaGreat
open Go.RowKit Go.Sort
set_option linter.unusedVariables false
attribute [local go_sem ↓] Go.wp_at_zero Go.wp_at_succ

/-- Of what stood, the blocks of a set alone have turned. -/
structure Tn (S : Nat → Prop) (w w' : World) : Prop where
  os : w'.os = w.os
  tape : w'.tape = w.tape
  output : w'.output = w.output
  size : w.heap.size ≤ w'.heap.size
  block : ∀ b, b < w.heap.size → ¬ S b → w'.heap[b]? = w.heap[b]?
theorem Tn.refl (S : Nat → Prop) (w : World) : Tn S w w := ⟨rfl, rfl, rfl, Nat.le_refl _, fun _ _ _ => rfl⟩
theorem Tn.trans {S : Nat → Prop} {a b c : World} (h : Tn S a b) (k : Tn S b c) : Tn S a c :=
  ⟨k.os.trans h.os, k.tape.trans h.tape, k.output.trans h.output, Nat.le_trans h.size k.size, fun i hi hs => (k.block i (Nat.lt_of_lt_of_le hi h.size) hs).trans (h.block i hi hs)⟩
theorem Tn.mono {S R : Nat → Prop} {a b : World} (h : Tn S a b) (k : ∀ i, i < a.heap.size → S i → R i) : Tn R a b := ⟨h.os, h.tape, h.output, h.size, fun i hi hs => h.block i hi (fun e => hs (k i hi e))⟩
theorem Tn.of_below {S : Nat → Prop} {a b : World} (h : Below a.heap.size a b) : Tn S a b := ⟨h.os, h.tape, h.output, h.size, fun i hs _ => h.block i hs⟩
theorem Tn.set {S : Nat → Prop} {w : World} {b o : Nat} (h : S b) (v : Value) : Tn S w (w.setCell ⟨b, o, none⟩ v) := ⟨rfl, rfl, rfl, by simp, fun i _ hs => Below.heap_setCell _ _ _ _ (fun (e : i = b) => hs (by rw [e]; exact h))⟩
theorem Tn.one {w : World} {F o : Nat} (v : Value) : Tn (· = F) w (w.setCell ⟨F, o, none⟩ v) := Tn.set (S := (· = F)) rfl v
theorem Tn.below {S : Nat → Prop} {B : Nat} {a b : World} (h : Tn S a b) (hB : B ≤ a.heap.size) (hS : ∀ i, S i → B ≤ i) : Below B a b := ⟨h.os, h.tape, h.output, h.size, fun i hi => h.block i (by omega) (fun e => by have := hS i e; omega)⟩
theorem Tn.at {S : Nat → Prop} {a b : World} {i : Nat} {o : Obj} (h : Tn S a b) (hi : a.heap[i]? = some o) (hs : ¬ S i) : b.heap[i]? = some o := (h.block i (lt_of_block hi) hs).trans hi
theorem cell_same {a b : World} {i : Nat} (h : b.heap[i]? = a.heap[i]?) (o : Nat) : b.cell? ⟨i, o, none⟩ = a.cell? ⟨i, o, none⟩ := by
  unfold World.cell?
  simp only []
  rw [h]
theorem own_far2 {w : World} {B : Nat} {e : TypeId} {size : Nat} {v : Value} {n : Nat} {xs : List Value} (h : w.ownsRow B e size v n xs) {H : Nat} {cs : Array Value} {t : TypeId} {fr : Nat × Nat} (ht : t ≠ e) (hH : w.heap[H]? = some (.cells cs t fr)) : v.ownBlock ≠ some H := by
  intro e2
  rcases h.2 with ⟨h0, _⟩ | ⟨g, cap, cur, h1, h2, h3, h4⟩
  · rw [h0] at e2; cases e2
  · rw [h1] at e2
    simp [Value.ownBlock] at e2
    subst e2
    rw [hH] at h3
    simp at h3
    exact ht h3.2.1
theorem row_same {w w' : World} {B : Nat} {e : TypeId} {size : Nat} {v : Value} {n : Nat} {xs : List Value} (h : w.ownsRow B e size v n xs) (hb : ∀ b, b < w.heap.size → v.ownBlock = some b → w'.heap[b]? = w.heap[b]?) : w'.ownsRow B e size v n xs := by
  refine ⟨h.1, ?_⟩
  rcases h.2 with h0 | ⟨g, cap, cur, h1, h2, h3, h4⟩
  · exact .inl h0
  · exact .inr ⟨g, cap, cur, h1, h2, (hb g (lt_of_block h3) (by rw [h1]; rfl)).trans h3, h4⟩
theorem row_base {w : World} {b1 b2 : Nat} {e : TypeId} {size : Nat} {v : Value} {n : Nat} {xs : List Value} (h : w.ownsRow b1 e size v n xs) (hb : b2 ≤ b1) : w.ownsRow b2 e size v n xs := by
  refine ⟨h.1, ?_⟩
  rcases h.2 with h | ⟨g, cap, cur, h1, h2, h3⟩
  · exact .inl h
  · exact .inr ⟨g, cap, cur, h1, by omega, h3⟩
/-- A row stays when a row of another kind grows. -/
theorem row_grown {w w2 : World} {B1 B2 s1 s2 n1 n2 : Nat} {e1 e2 : TypeId} {v1 v2 : Value} {x1 x2 : List Value} (h1 : w.ownsRow B1 e1 s1 v1 n1 x1) (h2 : w.ownsRow B2 e2 s2 v2 n2 x2) (hne : e1 ≠ e2) (hg : w.grownBy w2 v2.ownBlock) : w2.ownsRow B1 e1 s1 v1 n1 x1 := by
  refine ⟨h1.1, ?_⟩
  rcases h1.2 with h | ⟨g, cap, cur, k1, k2, k3, k4⟩
  · exact .inl h
  · refine .inr ⟨g, cap, cur, k1, k2, (hg.block g (lt_of_block k3) ?_).trans k3, k4⟩
    intro e
    rcases h2.2 with ⟨h, _⟩ | ⟨g', cap', cur', j1, j2, j3, j4⟩
    · rw [h] at e; cases e
    · rw [j1] at e
      simp [Value.ownBlock] at e
      subst e
      rw [k3] at j3
      simp at j3
      exact hne j3.2
theorem row_len {w : World} {B : Nat} {e : TypeId} {size : Nat} {ao : Option Addr} {k cap n : Nat} {xs : List Value} (h : w.ownsRow B e size (.slice ao k cap) n xs) : k = n := by
  rcases h.2 with ⟨h1, h2⟩ | ⟨g, cap, cur, h1, _⟩
  · simp only [Value.slice.injEq] at h1; omega
  · simp only [Value.slice.injEq] at h1; exact h1.2.1
theorem row_form {w : World} {B : Nat} {e : TypeId} {size : Nat} {v : Value} {n : Nat} {xs : List Value} (h : w.ownsRow B e size v n xs) : ∃ ao n' cap, v = .slice ao n' cap := by
  rcases h.2 with ⟨hv, _⟩ | ⟨g, cap, cur, hv, _⟩
  · exact ⟨_, _, _, hv⟩
  · exact ⟨_, _, _, hv⟩

theorem news_1x (w : World) (x : Value) (t : TypeId) (hx : x.oneCell' = true) : ∀ (j : Nat) u, [x][j]? = some u → (w.alloc (.cells #[x] t)).cell? ((⟨w.heap.size, 0, none⟩ : Addr).add j) = some u := by
  intro j u hj
  match j, hj with
  | 0, hj => simp at hj; subst hj; simp [Addr.add]
/-- Behind an append to a row of the call's own. -/
theorem below_grown {B : Nat} {w0 w w2 : World} {e : TypeId} {size n : Nat} {v : Value} {xs : List Value} {o : Obj} (hb : Below B w0 w) (hB : B ≤ w0.heap.size) (h : w.ownsRow B e size v n xs) (hg : (w.alloc o).grownBy w2 v.ownBlock) : Below B w0 w2 := by
  refine hb.trans (((Below.refl B w).alloc (Nat.le_trans hB hb.size) o).grown hg (by have := hb.size; simp; omega) (fun k hk => (h.lt k hk).1))

theorem addr_plus (b off i : Nat) : (⟨b, off, none⟩ : Addr).add i = ⟨b, off + i, none⟩ := by
  by_cases h : i = 0
  · subst h; simp [Addr.add]
  · simp [Addr.add, h]
/-- A row that holds numbers; one whose numbers go up from k. -/
def IntsR (w : World) (B : Nat) (e : TypeId) (size : Nat) (v : Value) (n : Nat) : Prop := ∃ xs, w.ownsRow B e size v n xs ∧ ∀ j, j < n * size → ∃ z, xs[j]? = some (.int .i64 z)
def MkdR (w : World) (B : Nat) (e : TypeId) (size : Nat) (v : Value) (n : Nat) (k : Int) : Prop := ∃ xs, w.ownsRow B e size v n xs ∧ ∀ j, j < n * size → xs[j]? = some (.int .i64 (k + j))
/-- Only that row was written. -/
structure Only (v : Value) (w w' : World) : Prop where
  os : w'.os = w.os
  tape : w'.tape = w.tape
  output : w'.output = w.output
  size : w'.heap.size = w.heap.size
  block : ∀ q, v.ownBlock ≠ some q → w'.heap[q]? = w.heap[q]?
theorem Only.refl (v : Value) (w : World) : Only v w w := ⟨rfl, rfl, rfl, rfl, fun _ _ => rfl⟩
theorem Only.trans {v : Value} {a b c : World} (h : Only v a b) (k : Only v b c) : Only v a c := ⟨k.os.trans h.os, k.tape.trans h.tape, k.output.trans h.output, k.size.trans h.size, fun q hq => (k.block q hq).trans (h.block q hq)⟩
theorem Only.set {g n c o : Nat} {w : World} (u : Value) : Only (.slice (some ⟨g, 0, none⟩) n c) w (w.setCell ⟨g, o, none⟩ u) := ⟨rfl, rfl, rfl, by simp, fun q hq => Below.heap_setCell _ _ _ _ (fun e => hq (by simp [Value.ownBlock]; exact e.symm))⟩
theorem Only.below {v : Value} {w w' : World} {L : Nat} (h : Only v w w') (hL : ∀ b, v.ownBlock = some b → L ≤ b) : Below L w w' := ⟨h.os, h.tape, h.output, Nat.le_of_eq h.size.symm, fun k hk => h.block k (fun e => by have := hL k e; omega)⟩
theorem Only.own {v : Value} {w w' : World} {B : Nat} {e : TypeId} {size : Nat} {v2 : Value} {n : Nat} {xs : List Value} (h : Only v w w') (ho : w.ownsRow B e size v2 n xs) (hne : ∀ b, v2.ownBlock = some b → v.ownBlock ≠ some b) : w'.ownsRow B e size v2 n xs := row_same ho (fun b _ hb => h.block b (hne b hb))
theorem ints_of {w : World} {B : Nat} {v : Value} {zs : List Int} (h : w.ownsRow B 3 1 v zs.length (zs.map (Value.int .i64))) : IntsR w B 3 1 v zs.length := ⟨_, h, fun j hj => ⟨zs[j]'(by omega), by simp [show j < zs.length by omega]⟩⟩
set_option maxHeartbeats 800000 in
theorem markInt_own (B : Nat) (v : Value) (n : Nat) (k : Int) (w : World) (h0 : 0 ≤ k) (h1 : k + n ≤ 1099511627776) (h : IntsR w B 3 1 v n) :
    Calls Tryz.prog 51 #[v, .int .i64 k] w fun e w' => e = .returned (.int .i64 (k + n)) ∧ MkdR w' B 3 1 v n k ∧ Only v w w' := by
  have HR := hid h
  obtain ⟨xs, ho, hz⟩ := h
  rcases ho.2 with ⟨rfl, rfl⟩ | ⟨g, cap, cur, rfl, _⟩
  · clear ho hz
    go_enter Tryz.func51, Tryz.ntmps51
    go_wp2
    go_loopw [1, 5] (fun kv i wr => wr = w ∧ i = .int .i64 0 ∧ kv = .int .i64 k) (fun _ _ _ => 0)
    case atStart => exact ⟨rfl, rfl, rfl⟩
    case round =>
      obtain ⟨rfl, rfl, rfl⟩ := hrel
      go_wp2
      go_ret
      obtain ⟨xs, ho, _⟩ := HR.out
      exact ⟨by simp, ⟨xs, ho, fun j hj => by simp at hj⟩, Only.refl _ _⟩
  · clear ho hz
    go_enter Tryz.func51, Tryz.ntmps51
    go_wp2
    go_loopw [1, 5] (fun kv i wr => ∃ a : Nat, a ≤ n ∧ i = .int .i64 a ∧ kv = .int .i64 (k + a) ∧ Hid (∃ xs, wr.ownsRow B 3 1 (.slice (some ⟨g, 0, none⟩) n cap) n xs ∧ (∀ j, j < n * 1 → ∃ z, xs[j]? = some (.int .i64 z)) ∧ ∀ j, j < a → xs[j]? = some (.int .i64 (k + j))) ∧ Hid (Only (.slice (some ⟨g, 0, none⟩) n cap) w wr)) (fun _ i _ => n - (intOf i).toNat)
    case atStart =>
      obtain ⟨xs, ho, hz⟩ := HR.out
      exact ⟨0, Nat.zero_le _, rfl, by simp, hid ⟨xs, ho, hz, fun j hj => by omega⟩, hid (Only.refl _ _)⟩
    case round =>
      obtain ⟨a, ha, rfl, rfl, HO, HB⟩ := hrel
      by_cases hlt : a < n
      · obtain ⟨xs, ho, hz, hm⟩ := HO.out
        obtain ⟨z, hza⟩ := hz a (by omega)
        have d0 := World.ownsRow.cellAt ho a (by omega)
        rw [hza] at d0
        have f0 := World.ownsRow.frozenAt ho a
        have OO := hid ho
        have HZ := hid hz
        have HM := hid hm
        have HL := hid ho.1
        have an : (a : Int) < (n : Int) := by omega
        obtain ⟨kk, hkk⟩ : ∃ kk, kk = k + (a : Int) := ⟨_, rfl⟩
        have HK := hid hkk
        have kb0 : 0 ≤ kk := by omega
        have kb1 : kk ≤ 1099511627776 := by omega
        rw [← hkk]
        clear ho hz hm hza hkk
        go_wp2
        go_roundw
        case rel =>
          have hk := HK.out
          have hl := HL.out
          refine ⟨a + 1, by omega, by go_num, by congr 1; omega, hid ⟨_, (World.ownsRow.stored OO.out a _).1, fun j hj => ?_, fun j hj => ?_⟩, hid (HB.out.trans (Only.set _))⟩
          · rw [List.getElem?_set]
            split
            · rw [if_pos (by omega)]; exact ⟨_, rfl⟩
            · exact HZ.out j hj
          · rw [List.getElem?_set]
            split
            · rename_i e; rw [if_pos (by omega), hk, e]
            · exact HM.out j (by omega)
        case measure => simp [intOf]; omega
      · have e : a = n := by omega
        subst e
        go_wp2
        go_ret
        obtain ⟨xs, ho, hz, hm⟩ := HO.out
        exact ⟨rfl, ⟨xs, ho, fun j hj => hm j (by omega)⟩, HB.out⟩

set_option maxHeartbeats 800000 in
theorem heldInt_own (B : Nat) (v : Value) (n : Nat) (k : Int) (w : World) (h0 : 0 ≤ k) (h1 : k + n ≤ 1099511627776) (h : MkdR w B 3 1 v n k) :
    Calls Tryz.prog 54 #[v, .int .i64 k] w fun e w' => e = .returned (.int .i64 (k + n)) ∧ w' = w := by
  obtain ⟨xs, ho, hm⟩ := h
  have HO := hid ho
  have HM := hid hm
  rcases ho.2 with ⟨rfl, rfl⟩ | ⟨g, cap, cur, rfl, _⟩
  · clear ho hm
    go_enter Tryz.func54, Tryz.ntmps54
    go_wp2
    go_loopw [1, 5] (fun kv i wr => wr = w ∧ i = .int .i64 0 ∧ kv = .int .i64 k) (fun _ _ _ => 0)
    case atStart => exact ⟨rfl, rfl, rfl⟩
    case round =>
      obtain ⟨rfl, rfl, rfl⟩ := hrel
      go_wp2
      go_ret
      exact ⟨by simp, rfl⟩
  · clear ho hm
    go_enter Tryz.func54, Tryz.ntmps54
    go_wp2
    go_loopw [1, 5] (fun kv i wr => wr = w ∧ ∃ a : Nat, a ≤ n ∧ i = .int .i64 a ∧ kv = .int .i64 (k + a)) (fun _ i _ => n - (intOf i).toNat)
    case atStart => exact ⟨rfl, 0, Nat.zero_le _, rfl, by simp⟩
    case round =>
      obtain ⟨rfl, a, ha, rfl, rfl⟩ := hrel
      by_cases hlt : a < n
      · have d0 := (World.ownsRow.cellAt HO.out a (by omega)).trans (HM.out a (by omega))
        have an : (a : Int) < (n : Int) := by omega
        obtain ⟨kk, hkk⟩ : ∃ kk, kk = k + (a : Int) := ⟨_, rfl⟩
        have HK := hid hkk
        have kb0 : 0 ≤ kk := by omega
        have kb1 : kk ≤ 1099511627776 := by omega
        rw [← hkk] at d0 ⊢
        clear hkk
        go_wp2
        go_roundw
        case rel =>
          have hk := HK.out
          exact ⟨by first | rfl | trivial, a + 1, by omega, by go_num, by congr 1; omega⟩
        case measure => simp [intOf]; omega
      · have e : a = n := by omega
        subst e
        go_wp2
        go_ret
        exact ⟨rfl, rfl⟩

theorem own_any {w : World} {B : Nat} {e : TypeId} {size : Nat} {v : Value} {n : Nat} {xs : List Value} (h : w.ownsRow B e size v n xs) : ∃ ao c, v = .slice ao n c := by
  rcases h.2 with ⟨e, rfl⟩ | ⟨g, cap, cur, e, _⟩
  · exact ⟨none, 0, e⟩
  · exact ⟨_, cap, e⟩

end Go.Proofs.YthaklmdhkkfigaaGreat
namespace Go.Proofs.YthaklmdhkkfigaaGreat
open Go.RowKit Go.Sort
set_option linter.unusedVariables false
attribute [local go_sem ↓] Go.wp_at_zero Go.wp_at_succ

set_option maxRecDepth 100000 in
set_option maxHeartbeats 2000000 in
theorem markEv_own (B : Nat) (v : Value) (n : Nat) (k : Int) (w : World) (h0 : 0 ≤ k) (h1 : k + 2 * n ≤ 1099511627776) (h : IntsR w B 70 2 v n) :
    Calls Tryz.prog 86 #[v, .int .i64 k] w fun e w' => e = .returned (.int .i64 (k + 2 * n)) ∧ MkdR w' B 70 2 v n k ∧ Only v w w' := by
  have HR := hid h
  obtain ⟨xs, ho, hz⟩ := h
  rcases ho.2 with ⟨rfl, rfl⟩ | ⟨g, cap, cur, rfl, _⟩
  · clear ho hz
    go_enter Tryz.func86, Tryz.ntmps86
    go_wp2
    go_loopw [1, 5] (fun kv i wr => wr = w ∧ i = .int .i64 0 ∧ kv = .int .i64 k) (fun _ _ _ => 0)
    case atStart => exact ⟨rfl, rfl, rfl⟩
    case round =>
      obtain ⟨rfl, rfl, rfl⟩ := hrel
      go_wp2
      go_ret
      obtain ⟨xs, ho, _⟩ := HR.out
      exact ⟨by simp, ⟨xs, ho, fun j hj => by simp at hj⟩, Only.refl _ _⟩
  · clear ho hz
    go_enter Tryz.func86, Tryz.ntmps86
    go_wp2
    go_loopw [1, 5] (fun kv i wr => ∃ a : Nat, a ≤ n ∧ i = .int .i64 a ∧ kv = .int .i64 (k + 2 * a) ∧ Hid (∃ xs, wr.ownsRow B 70 2 (.slice (some ⟨g, 0, none⟩) n cap) n xs ∧ (∀ j, j < n * 2 → ∃ z, xs[j]? = some (.int .i64 z)) ∧ ∀ j, j < a * 2 → xs[j]? = some (.int .i64 (k + j))) ∧ Hid (Only (.slice (some ⟨g, 0, none⟩) n cap) w wr)) (fun _ i _ => n - (intOf i).toNat)
    case atStart =>
      obtain ⟨xs, ho, hz⟩ := HR.out
      exact ⟨0, Nat.zero_le _, rfl, by simp, hid ⟨xs, ho, hz, fun j hj => by omega⟩, hid (Only.refl _ _)⟩
    case round =>
      obtain ⟨a, ha, rfl, rfl, HO, HB⟩ := hrel
      by_cases hlt : a < n
      · obtain ⟨xs, ho, hz, hm⟩ := HO.out
        obtain ⟨z0, e0⟩ := hz (a * 2) (by omega)
        obtain ⟨z1, e1⟩ := hz (a * 2 + 1) (by omega)
        have d0 := (World.ownsRow.cellAt ho (a * 2) (by omega)).trans e0
        have d1 := (World.ownsRow.cellAt ho (a * 2 + 1) (by omega)).trans e1
        have f0 := World.ownsRow.frozenAt ho (a * 2)
        have f1 := World.ownsRow.frozenAt ho (a * 2 + 1)
        have OO := hid ho
        have HZ := hid hz
        have HM := hid hm
        have HL := hid ho.1
        have an : (a : Int) < (n : Int) := by omega
        obtain ⟨kk, hkk⟩ : ∃ kk, kk = k + 2 * (a : Int) := ⟨_, rfl⟩
        have HK := hid hkk
        have kb0 : 0 ≤ kk := by omega
        have kb1 : kk ≤ 1099511627776 := by omega
        rw [← hkk]
        clear ho hz hm e0 e1 hkk
        go_wp2
        go_roundw
        case rel =>
          have hk := HK.out
          have hl := HL.out
          refine ⟨a + 1, by omega, by go_num, by first | (congr 1; omega) | (simp; omega), hid ⟨_, (World.ownsRow.stored (World.ownsRow.stored OO.out (a * 2) _).1 (a * 2 + 1) _).1, fun j hj => ?_, fun j hj => ?_⟩, hid ((HB.out.trans (Only.set _)).trans (Only.set _))⟩
          · simp only [List.getElem?_set, List.length_set]
            split
            · rw [if_pos (by omega)]; exact ⟨_, rfl⟩
            · split
              · rw [if_pos (by omega)]; exact ⟨_, rfl⟩
              · exact HZ.out j hj
          · simp only [List.getElem?_set, List.length_set]
            split
            · rename_i e; rw [if_pos (by omega)]; congr 2; omega
            · split
              · rename_i e; rw [if_pos (by omega)]; congr 2; omega
              · exact HM.out j (by omega)
        case measure => simp [intOf]; omega
      · have e : a = n := by omega
        subst e
        go_wp2
        go_ret
        obtain ⟨xs, ho, hz, hm⟩ := HO.out
        exact ⟨rfl, ⟨xs, ho, fun j hj => hm j (by omega)⟩, HB.out⟩

set_option maxRecDepth 100000 in
set_option maxHeartbeats 2000000 in
theorem heldEv_own (B : Nat) (v : Value) (n : Nat) (k : Int) (w : World) (h0 : 0 ≤ k) (h1 : k + 2 * n ≤ 1099511627776) (h : MkdR w B 70 2 v n k) :
    Calls Tryz.prog 87 #[v, .int .i64 k] w fun e w' => e = .returned (.int .i64 (k + 2 * n)) ∧ w' = w := by
  obtain ⟨xs, ho, hm⟩ := h
  have HO := hid ho
  have HM := hid hm
  rcases ho.2 with ⟨rfl, rfl⟩ | ⟨g, cap, cur, rfl, _⟩
  · clear ho hm
    go_enter Tryz.func87, Tryz.ntmps87
    go_wp2
    go_loopw [1, 5] (fun kv i wr => wr = w ∧ i = .int .i64 0 ∧ kv = .int .i64 k) (fun _ _ _ => 0)
    case atStart => exact ⟨rfl, rfl, rfl⟩
    case round =>
      obtain ⟨rfl, rfl, rfl⟩ := hrel
      go_wp2
      go_ret
      exact ⟨by simp, rfl⟩
  · clear ho hm
    go_enter Tryz.func87, Tryz.ntmps87
    go_wp2
    go_loopw [1, 5] (fun kv i wr => wr = w ∧ ∃ a : Nat, a ≤ n ∧ i = .int .i64 a ∧ kv = .int .i64 (k + 2 * a)) (fun _ i _ => n - (intOf i).toNat)
    case atStart => exact ⟨rfl, 0, Nat.zero_le _, rfl, by simp⟩
    case round =>
      obtain ⟨rfl, a, ha, rfl, rfl⟩ := hrel
      by_cases hlt : a < n
      · obtain ⟨kk, hkk⟩ : ∃ kk, kk = k + 2 * (a : Int) := ⟨_, rfl⟩
        have d0 := (World.ownsRow.cellAt HO.out (a * 2) (by omega)).trans (HM.out (a * 2) (by omega))
        have d1 := (World.ownsRow.cellAt HO.out (a * 2 + 1) (by omega)).trans (HM.out (a * 2 + 1) (by omega))
        rw [show k + ((a * 2 : Nat) : Int) = kk by omega] at d0
        rw [show k + ((a * 2 + 1 : Nat) : Int) = kk + 1 by omega] at d1
        have an : (a : Int) < (n : Int) := by omega
        have HK := hid hkk
        have kb0 : 0 ≤ kk := by omega
        have kb1 : kk ≤ 1099511627776 := by omega
        rw [← hkk]
        clear hkk
        go_wp2
        go_roundw
        case rel =>
          have hk := HK.out
          exact ⟨by first | rfl | trivial, a + 1, by omega, by go_num, by first | (congr 1; omega) | (simp; omega)⟩
        case measure => simp [intOf]; omega
      · have e : a = n := by omega
        subst e
        go_wp2
        go_ret
        exact ⟨rfl, rfl⟩

set_option maxRecDepth 100000 in
set_option maxHeartbeats 2000000 in
theorem markRc_own (B : Nat) (v : Value) (n : Nat) (k : Int) (w : World) (h0 : 0 ≤ k) (h1 : k + 3 * n ≤ 1099511627776) (h : IntsR w B 106 3 v n) :
    Calls Tryz.prog 17 #[v, .int .i64 k] w fun e w' => e = .returned (.int .i64 (k + 3 * n)) ∧ MkdR w' B 106 3 v n k ∧ Only v w w' := by
  have HR := hid h
  obtain ⟨xs, ho, hz⟩ := h
  rcases ho.2 with ⟨rfl, rfl⟩ | ⟨g, cap, cur, rfl, _⟩
  · clear ho hz
    go_enter Tryz.func17, Tryz.ntmps17
    go_wp2
    go_loopw [1, 5] (fun kv i wr => wr = w ∧ i = .int .i64 0 ∧ kv = .int .i64 k) (fun _ _ _ => 0)
    case atStart => exact ⟨rfl, rfl, rfl⟩
    case round =>
      obtain ⟨rfl, rfl, rfl⟩ := hrel
      go_wp2
      go_ret
      obtain ⟨xs, ho, _⟩ := HR.out
      exact ⟨by simp, ⟨xs, ho, fun j hj => by simp at hj⟩, Only.refl _ _⟩
  · clear ho hz
    go_enter Tryz.func17, Tryz.ntmps17
    go_wp2
    go_loopw [1, 5] (fun kv i wr => ∃ a : Nat, a ≤ n ∧ i = .int .i64 a ∧ kv = .int .i64 (k + 3 * a) ∧ Hid (∃ xs, wr.ownsRow B 106 3 (.slice (some ⟨g, 0, none⟩) n cap) n xs ∧ (∀ j, j < n * 3 → ∃ z, xs[j]? = some (.int .i64 z)) ∧ ∀ j, j < a * 3 → xs[j]? = some (.int .i64 (k + j))) ∧ Hid (Only (.slice (some ⟨g, 0, none⟩) n cap) w wr)) (fun _ i _ => n - (intOf i).toNat)
    case atStart =>
      obtain ⟨xs, ho, hz⟩ := HR.out
      exact ⟨0, Nat.zero_le _, rfl, by simp, hid ⟨xs, ho, hz, fun j hj => by omega⟩, hid (Only.refl _ _)⟩
    case round =>
      obtain ⟨a, ha, rfl, rfl, HO, HB⟩ := hrel
      by_cases hlt : a < n
      · obtain ⟨xs, ho, hz, hm⟩ := HO.out
        obtain ⟨z0, e0⟩ := hz (a * 3) (by omega)
        obtain ⟨z1, e1⟩ := hz (a * 3 + 1) (by omega)
        obtain ⟨z2, e2⟩ := hz (a * 3 + 2) (by omega)
        have d0 := (World.ownsRow.cellAt ho (a * 3) (by omega)).trans e0
        have d1 := (World.ownsRow.cellAt ho (a * 3 + 1) (by omega)).trans e1
        have d2 := (World.ownsRow.cellAt ho (a * 3 + 2) (by omega)).trans e2
        have f0 := World.ownsRow.frozenAt ho (a * 3)
        have f1 := World.ownsRow.frozenAt ho (a * 3 + 1)
        have f2 := World.ownsRow.frozenAt ho (a * 3 + 2)
        have OO := hid ho
        have HZ := hid hz
        have HM := hid hm
        have HL := hid ho.1
        have an : (a : Int) < (n : Int) := by omega
        obtain ⟨kk, hkk⟩ : ∃ kk, kk = k + 3 * (a : Int) := ⟨_, rfl⟩
        have HK := hid hkk
        have kb0 : 0 ≤ kk := by omega
        have kb1 : kk ≤ 1099511627776 := by omega
        rw [← hkk]
        clear ho hz hm e0 e1 e2 hkk
        go_wp2
        go_roundw
        case rel =>
          have hk := HK.out
          have hl := HL.out
          refine ⟨a + 1, by omega, by go_num, by first | (congr 1; omega) | (simp; omega), hid ⟨_, (World.ownsRow.stored (World.ownsRow.stored (World.ownsRow.stored OO.out (a * 3) _).1 (a * 3 + 1) _).1 (a * 3 + 2) _).1, fun j hj => ?_, fun j hj => ?_⟩, hid (((HB.out.trans (Only.set _)).trans (Only.set _)).trans (Only.set _))⟩
          · simp only [List.getElem?_set, List.length_set]
            split
            · rw [if_pos (by omega)]; exact ⟨_, rfl⟩
            · split
              · rw [if_pos (by omega)]; exact ⟨_, rfl⟩
              · split
                · rw [if_pos (by omega)]; exact ⟨_, rfl⟩
                · exact HZ.out j hj
          · simp only [List.getElem?_set, List.length_set]
            split
            · rename_i e; rw [if_pos (by omega)]; congr 2; omega
            · split
              · rename_i e; rw [if_pos (by omega)]; congr 2; omega
              · split
                · rename_i e; rw [if_pos (by omega)]; congr 2; omega
                · exact HM.out j (by omega)
        case measure => simp [intOf]; omega
      · have e : a = n := by omega
        subst e
        go_wp2
        go_ret
        obtain ⟨xs, ho, hz, hm⟩ := HO.out
        exact ⟨rfl, ⟨xs, ho, fun j hj => hm j (by omega)⟩, HB.out⟩

set_option maxRecDepth 100000 in
set_option maxHeartbeats 2000000 in
theorem heldRc_own (B : Nat) (v : Value) (n : Nat) (k : Int) (w : World) (h0 : 0 ≤ k) (h1 : k + 3 * n ≤ 1099511627776) (h : MkdR w B 106 3 v n k) :
    Calls Tryz.prog 19 #[v, .int .i64 k] w fun e w' => e = .returned (.int .i64 (k + 3 * n)) ∧ w' = w := by
  obtain ⟨xs, ho, hm⟩ := h
  have HO := hid ho
  have HM := hid hm
  rcases ho.2 with ⟨rfl, rfl⟩ | ⟨g, cap, cur, rfl, _⟩
  · clear ho hm
    go_enter Tryz.func19, Tryz.ntmps19
    go_wp2
    go_loopw [1, 5] (fun kv i wr => wr = w ∧ i = .int .i64 0 ∧ kv = .int .i64 k) (fun _ _ _ => 0)
    case atStart => exact ⟨rfl, rfl, rfl⟩
    case round =>
      obtain ⟨rfl, rfl, rfl⟩ := hrel
      go_wp2
      go_ret
      exact ⟨by simp, rfl⟩
  · clear ho hm
    go_enter Tryz.func19, Tryz.ntmps19
    go_wp2
    go_loopw [1, 5] (fun kv i wr => wr = w ∧ ∃ a : Nat, a ≤ n ∧ i = .int .i64 a ∧ kv = .int .i64 (k + 3 * a)) (fun _ i _ => n - (intOf i).toNat)
    case atStart => exact ⟨rfl, 0, Nat.zero_le _, rfl, by simp⟩
    case round =>
      obtain ⟨rfl, a, ha, rfl, rfl⟩ := hrel
      by_cases hlt : a < n
      · obtain ⟨kk, hkk⟩ : ∃ kk, kk = k + 3 * (a : Int) := ⟨_, rfl⟩
        have d0 := (World.ownsRow.cellAt HO.out (a * 3) (by omega)).trans (HM.out (a * 3) (by omega))
        have d1 := (World.ownsRow.cellAt HO.out (a * 3 + 1) (by omega)).trans (HM.out (a * 3 + 1) (by omega))
        have d2 := (World.ownsRow.cellAt HO.out (a * 3 + 2) (by omega)).trans (HM.out (a * 3 + 2) (by omega))
        rw [show k + ((a * 3 : Nat) : Int) = kk by omega] at d0
        rw [show k + ((a * 3 + 1 : Nat) : Int) = kk + 1 by omega] at d1
        rw [show k + ((a * 3 + 2 : Nat) : Int) = kk + 1 + 1 by omega] at d2
        have an : (a : Int) < (n : Int) := by omega
        have HK := hid hkk
        have kb0 : 0 ≤ kk := by omega
        have kb1 : kk ≤ 1099511627776 := by omega
        rw [← hkk]
        clear hkk
        go_wp2
        go_roundw
        case rel =>
          have hk := HK.out
          exact ⟨by first | rfl | trivial, a + 1, by omega, by go_num, by first | (congr 1; omega) | (simp; omega)⟩
        case measure => simp [intOf]; omega
      · have e : a = n := by omega
        subst e
        go_wp2
        go_ret
        exact ⟨rfl, rfl⟩

/-- Lists of lists of the call's own, no two of which share memory. -/
structure NestO (w : World) (B : Nat) (te ti : TypeId) (sz : Nat) (v : Value) (vs : List Value) (ns : List Nat) : Prop where
  row : w.ownsRow B te 1 v vs.length vs
  inn : ∀ i, i < vs.length → IntsR w B ti sz (vs.getD i undef) (ns.getD i 0)
  far : ∀ i j, i < vs.length → j < vs.length → i ≠ j → ∀ b, (vs.getD i undef).ownBlock = some b → (vs.getD j undef).ownBlock ≠ some b
  tag : te ≠ ti
structure NestM (w : World) (B : Nat) (te ti : TypeId) (sz : Nat) (v : Value) (vs : List Value) (ns : List Nat) (k : Int) : Prop where
  row : w.ownsRow B te 1 v vs.length vs
  mkd : ∀ i, i < vs.length → MkdR w B ti sz (vs.getD i undef) (ns.getD i 0) (k + sz * (sumTo (fun i => ns.getD i 0) i : Nat))
/-- The first a of them are marked. -/
structure NestA (w : World) (B : Nat) (te ti : TypeId) (sz : Nat) (v : Value) (vs : List Value) (ns : List Nat) (k : Int) (a : Nat) : Prop where
  row : w.ownsRow B te 1 v vs.length vs
  mkd : ∀ i, i < a → i < vs.length → MkdR w B ti sz (vs.getD i undef) (ns.getD i 0) (k + sz * (sumTo (fun i => ns.getD i 0) i : Nat))
  un : ∀ i, a ≤ i → i < vs.length → IntsR w B ti sz (vs.getD i undef) (ns.getD i 0)
  far : ∀ i j, i < vs.length → j < vs.length → i ≠ j → ∀ b, (vs.getD i undef).ownBlock = some b → (vs.getD j undef).ownBlock ≠ some b
  tag : te ≠ ti
/-- Only those rows were written. -/
structure OnlyN (vs : List Value) (w w' : World) : Prop where
  os : w'.os = w.os
  tape : w'.tape = w.tape
  output : w'.output = w.output
  size : w'.heap.size = w.heap.size
  block : ∀ q, (∀ i, i < vs.length → (vs.getD i undef).ownBlock ≠ some q) → w'.heap[q]? = w.heap[q]?
theorem OnlyN.refl (vs : List Value) (w : World) : OnlyN vs w w := ⟨rfl, rfl, rfl, rfl, fun _ _ => rfl⟩
theorem OnlyN.step {vs : List Value} {a b c : World} {i : Nat} (h : OnlyN vs a b) (hi : i < vs.length) (k : Only (vs.getD i undef) b c) : OnlyN vs a c := ⟨k.os.trans h.os, k.tape.trans h.tape, k.output.trans h.output, k.size.trans h.size, fun q hq => (k.block q (hq i hi)).trans (h.block q hq)⟩
theorem Only.ints {v u : Value} {w w' : World} {B : Nat} {e : TypeId} {size n : Nat} (h : Only v w w') (hi : IntsR w B e size u n) (hf : ∀ b, u.ownBlock = some b → v.ownBlock ≠ some b) : IntsR w' B e size u n := by
  obtain ⟨xs, ho, hz⟩ := hi
  exact ⟨xs, h.own ho hf, hz⟩
theorem Only.mkd {v u : Value} {w w' : World} {B : Nat} {e : TypeId} {size n : Nat} {k : Int} (h : Only v w w') (hi : MkdR w B e size u n k) (hf : ∀ b, u.ownBlock = some b → v.ownBlock ≠ some b) : MkdR w' B e size u n k := by
  obtain ⟨xs, ho, hz⟩ := hi
  exact ⟨xs, h.own ho hf, hz⟩
theorem row_apart {w : World} {B1 B2 s1 s2 n1 n2 : Nat} {e1 e2 : TypeId} {v1 v2 : Value} {x1 x2 : List Value} (h1 : w.ownsRow B1 e1 s1 v1 n1 x1) (h2 : w.ownsRow B2 e2 s2 v2 n2 x2) (hne : e1 ≠ e2) : ∀ b, v1.ownBlock = some b → v2.ownBlock ≠ some b := by
  intro b hb
  rcases h1.2 with ⟨h, _⟩ | ⟨g, cap, cur, k1, k2, k3, k4⟩
  · rw [h] at hb; cases hb
  · rw [k1] at hb
    simp [Value.ownBlock] at hb
    subst hb
    exact own_far2 h2 hne k3
theorem NestO.start {w : World} {B : Nat} {te ti : TypeId} {sz : Nat} {v : Value} {vs : List Value} {ns : List Nat} (h : NestO w B te ti sz v vs ns) (k : Int) : NestA w B te ti sz v vs ns k 0 := ⟨h.row, fun i hi => by omega, fun i _ hi => h.inn i hi, h.far, h.tag⟩
theorem NestA.step {w w' : World} {B : Nat} {te ti : TypeId} {sz : Nat} {v : Value} {vs : List Value} {ns : List Nat} {k : Int} {a : Nat} (h : NestA w B te ti sz v vs ns k a) (ha : a < vs.length) (ho : Only (vs.getD a undef) w w') (hm : MkdR w' B ti sz (vs.getD a undef) (ns.getD a 0) (k + sz * (sumTo (fun i => ns.getD i 0) a : Nat))) : NestA w' B te ti sz v vs ns k (a + 1) := by
  obtain ⟨xs, hox, _⟩ := h.un a (Nat.le_refl _) ha
  refine ⟨ho.own h.row (row_apart h.row hox h.tag), fun i hi hl => ?_, fun i hi hl => ho.ints (h.un i (by omega) hl) (h.far i a hl ha (by omega)), h.far, h.tag⟩
  by_cases e : i = a
  · subst e; exact hm
  · exact ho.mkd (h.mkd i (by omega) hl) (h.far i a hl ha e)
theorem NestA.done {w : World} {B : Nat} {te ti : TypeId} {sz : Nat} {v : Value} {vs : List Value} {ns : List Nat} {k : Int} {a : Nat} (h : NestA w B te ti sz v vs ns k a) (ha : a = vs.length) : NestM w B te ti sz v vs ns k := ⟨h.row, fun i hi => h.mkd i (by omega) hi⟩
theorem sumTo_mono (f : Nat → Nat) {a b : Nat} (h : a ≤ b) : sumTo f a ≤ sumTo f b := by
  induction b with
  | zero => have : a = 0 := by omega
            subst this; exact Nat.le_refl _
  | succ b ih =>
    by_cases e : a = b + 1
    · subst e; exact Nat.le_refl _
    · have := ih (by omega)
      show _ ≤ sumTo f b + f b
      omega
theorem markIn1 (B : Nat) (v : Value) (n : Nat) (k : Int) (w : World) (h0 : 0 ≤ k) (h1 : k + 1 * (n : Int) ≤ 1099511627776) (h : IntsR w B 3 1 v n) :
    Calls Tryz.prog 51 #[v, .int .i64 k] w fun e w' => e = .returned (.int .i64 (k + 1 * (n : Int))) ∧ MkdR w' B 3 1 v n k ∧ Only v w w' := by
  rw [Int.one_mul] at h1 ⊢
  exact markInt_own B v n k w h0 h1 h
theorem heldIn1 (B : Nat) (v : Value) (n : Nat) (k : Int) (w : World) (h0 : 0 ≤ k) (h1 : k + 1 * (n : Int) ≤ 1099511627776) (h : MkdR w B 3 1 v n k) :
    Calls Tryz.prog 54 #[v, .int .i64 k] w fun e w' => e = .returned (.int .i64 (k + 1 * (n : Int))) ∧ w' = w := by
  rw [Int.one_mul] at h1 ⊢
  exact heldInt_own B v n k w h0 h1 h

set_option maxRecDepth 100000 in
set_option maxHeartbeats 2000000 in
theorem markInS_own (B : Nat) (v : Value) (vs : List Value) (ns : List Nat) (k : Int) (w : World) (h0 : 0 ≤ k) (h1 : k + 1 * (sumTo (fun i => ns.getD i 0) vs.length : Nat) ≤ 1099511627776) (hl : vs.length ≤ 1048576) (h : NestO w B 26 3 1 v vs ns) :
    Calls Tryz.prog 52 #[v, .int .i64 k] w fun e w' => e = .returned (.int .i64 (k + 1 * (sumTo (fun i => ns.getD i 0) vs.length : Nat))) ∧ NestM w' B 26 3 1 v vs ns k ∧ OnlyN vs w w' := by
  have H := hid h
  obtain ⟨ao, c, rfl⟩ := own_any h.row
  obtain ⟨N, hN⟩ : ∃ N, N = vs.length := ⟨_, rfl⟩
  rw [← hN] at h1 hl ⊢
  have HN := hid hN
  clear h hN
  go_enter Tryz.func52, Tryz.ntmps52
  go_wp2
  go_loopw [1, 5] (fun kv i wr => ∃ a : Nat, a ≤ N ∧ i = .int .i64 a ∧ kv = .int .i64 (k + 1 * (sumTo (fun i => ns.getD i 0) a : Nat)) ∧ Hid (NestA wr B 26 3 1 (.slice ao vs.length c) vs ns k a) ∧ Hid (OnlyN vs w wr)) (fun _ i _ => N - (intOf i).toNat)
  case atStart => exact ⟨0, Nat.zero_le _, rfl, by simp [sumTo], hid (H.out.start k), hid (OnlyN.refl _ _)⟩
  case round =>
    obtain ⟨a, ha, rfl, rfl, HA, HO⟩ := hrel
    by_cases hlt : a < N
    · have an : (a : Int) < (N : Int) := by omega
      have hav : a < vs.length := by rw [← HN.out]; exact hlt
      obtain ⟨g, cap, e1, hgB, hgl⟩ := World.ownsRow.form HA.out.row (by omega)
      simp only [Value.slice.injEq] at e1
      obtain ⟨rfl, _, rfl⟩ := e1
      have c1 := World.ownsRow.cellAt HA.out.row a (by omega)
      rw [List.getElem?_eq_getElem hav] at c1
      have hin := HA.out.un a (Nat.le_refl _) hav
      have eg : vs.getD a undef = vs[a] := by simp [List.getD_eq_getElem?_getD, hav]
      rw [eg] at hin
      obtain ⟨x, hx⟩ : ∃ x, x = vs[a] := ⟨_, rfl⟩
      rw [← hx] at c1 hin
      have hms := sumTo_mono (fun i => ns.getD i 0) (show a + 1 ≤ N by omega)
      have hst : sumTo (fun i => ns.getD i 0) (a + 1) = sumTo (fun i => ns.getD i 0) a + ns.getD a 0 := rfl
      obtain ⟨S, hS⟩ : ∃ S, S = sumTo (fun i => ns.getD i 0) a := ⟨_, rfl⟩
      obtain ⟨q, hq⟩ : ∃ q, q = ns.getD a 0 := ⟨_, rfl⟩
      rw [← hS, ← hq] at hst
      rw [← hq] at hin
      have C := hid (markIn1 B x q (k + 1 * (S : Nat)) wr (by omega) (by omega) hin)
      obtain ⟨xa, xm, xc, hxx⟩ : ∃ xa xm xc, x = .slice xa xm xc := by obtain ⟨_, ho, _⟩ := hin; obtain ⟨p, q, hpq⟩ := own_any ho; exact ⟨_, _, _, hpq⟩
      subst hxx
      have HX := hid hx
      have HQ := hid hq
      have HS := hid hS
      have HST := hid hst
      obtain ⟨kk, hkk⟩ : ∃ kk, kk = k + 1 * (S : Int) := ⟨_, rfl⟩
      rw [← hS, ← hkk]
      rw [← hkk] at C
      have HKK := hid hkk
      clear hin hx hms hst hS hq eg hkk
      go_wp2_with (go_at_call 51; with_reducible refine C.out.mono ?_; rintro e w1 ⟨rfl, hm1, ho1⟩; have M1 := hid hm1; have O1 := hid ho1; clear hm1 ho1)
      go_roundw
      case rel =>
        have hk2 : kk = k + ((1 : Nat) : Int) * (S : Int) := HKK.out
        have hs2 := HST.out
        have e0 : vs.getD a undef = .slice xa xm xc := by rw [HX.out]; simp [List.getD_eq_getElem?_getD, hav]
        refine ⟨a + 1, by omega, by go_num, by rw [show sumTo (fun i => ns.getD i 0) (a + 1) = sumTo (fun i => ns.getD i 0) a + ns.getD a 0 from rfl, ← HS.out, ← HQ.out]; first | (congr 1; push_cast; omega) | (simp; omega), hid (HA.out.step hav (by rw [e0]; exact O1.out) (by rw [e0, ← HQ.out, ← HS.out, ← hk2]; exact M1.out)), hid (HO.out.step hav (by rw [e0]; exact O1.out))⟩
      case measure => simp [intOf]; omega
    · have e : a = N := by omega
      subst e
      go_wp2
      go_ret
      exact ⟨rfl, by have := HA.out.done HN.out; rw [← HN.out] at this; exact this, HO.out⟩

set_option maxRecDepth 100000 in
set_option maxHeartbeats 2000000 in
theorem heldInS_own (B : Nat) (v : Value) (vs : List Value) (ns : List Nat) (k : Int) (w : World) (h0 : 0 ≤ k) (h1 : k + 1 * (sumTo (fun i => ns.getD i 0) vs.length : Nat) ≤ 1099511627776) (hl : vs.length ≤ 1048576) (h : NestM w B 26 3 1 v vs ns k) :
    Calls Tryz.prog 55 #[v, .int .i64 k] w fun e w' => e = .returned (.int .i64 (k + 1 * (sumTo (fun i => ns.getD i 0) vs.length : Nat))) ∧ w' = w := by
  have H := hid h
  obtain ⟨ao, c, rfl⟩ := own_any h.row
  obtain ⟨N, hN⟩ : ∃ N, N = vs.length := ⟨_, rfl⟩
  rw [← hN] at h1 hl ⊢
  have HN := hid hN
  clear h hN
  go_enter Tryz.func55, Tryz.ntmps55
  go_wp2
  go_loopw [1, 5] (fun kv i wr => wr = w ∧ ∃ a : Nat, a ≤ N ∧ i = .int .i64 a ∧ kv = .int .i64 (k + 1 * (sumTo (fun i => ns.getD i 0) a : Nat))) (fun _ i _ => N - (intOf i).toNat)
  case atStart => exact ⟨rfl, 0, Nat.zero_le _, rfl, by simp [sumTo]⟩
  case round =>
    obtain ⟨rfl, a, ha, rfl, rfl⟩ := hrel
    by_cases hlt : a < N
    · have an : (a : Int) < (N : Int) := by omega
      have hav : a < vs.length := by rw [← HN.out]; exact hlt
      obtain ⟨g, cap, e1, hgB, hgl⟩ := World.ownsRow.form H.out.row (by omega)
      simp only [Value.slice.injEq] at e1
      obtain ⟨rfl, _, rfl⟩ := e1
      have c1 := World.ownsRow.cellAt H.out.row a (by omega)
      rw [List.getElem?_eq_getElem hav] at c1
      have hin := H.out.mkd a hav
      have eg : vs.getD a undef = vs[a] := by simp [List.getD_eq_getElem?_getD, hav]
      rw [eg] at hin
      obtain ⟨x, hx⟩ : ∃ x, x = vs[a] := ⟨_, rfl⟩
      rw [← hx] at c1 hin
      have hms := sumTo_mono (fun i => ns.getD i 0) (show a + 1 ≤ N by omega)
      have hst : sumTo (fun i => ns.getD i 0) (a + 1) = sumTo (fun i => ns.getD i 0) a + ns.getD a 0 := rfl
      obtain ⟨S, hS⟩ : ∃ S, S = sumTo (fun i => ns.getD i 0) a := ⟨_, rfl⟩
      obtain ⟨q, hq⟩ : ∃ q, q = ns.getD a 0 := ⟨_, rfl⟩
      rw [← hS, ← hq] at hst
      rw [← hS, ← hq] at hin
      have C := hid (heldIn1 B x q (k + 1 * (S : Nat)) wr (by omega) (by omega) hin)
      obtain ⟨xa, xm, xc, hxx⟩ : ∃ xa xm xc, x = .slice xa xm xc := by obtain ⟨_, ho, _⟩ := hin; obtain ⟨p, q, hpq⟩ := own_any ho; exact ⟨_, _, _, hpq⟩
      subst hxx
      have HQ := hid hq
      have HS := hid hS
      have HST := hid hst
      obtain ⟨kk, hkk⟩ : ∃ kk, kk = k + 1 * (S : Int) := ⟨_, rfl⟩
      rw [← hS, ← hkk]
      rw [← hkk] at C
      have HKK := hid hkk
      have kk0 : ¬ kk + 1 * (q : Int) < 0 := by omega
      have kk1 : ¬ kk + (q : Int) < 0 := by omega
      clear hin hx hms hst hS hq eg hkk
      go_wp2_with (go_at_call 54; with_reducible refine C.out.mono ?_; rintro e w1 ⟨rfl, hw1⟩; obtain rfl := hw1.symm)
      go_roundw
      case rel =>
        have hk2 := HKK.out
        exact ⟨by first | rfl | trivial, a + 1, by omega, by go_num, by rw [show sumTo (fun i => ns.getD i 0) (a + 1) = sumTo (fun i => ns.getD i 0) a + ns.getD a 0 from rfl, ← HS.out, ← HQ.out]; first | (congr 1; push_cast; omega) | (simp; omega)⟩
      case measure => simp [intOf]; omega
    · have e : a = N := by omega
      subst e
      go_wp2
      go_ret
      exact ⟨rfl, rfl⟩

set_option maxRecDepth 100000 in
set_option maxHeartbeats 2000000 in
theorem markEvS_own (B : Nat) (v : Value) (vs : List Value) (ns : List Nat) (k : Int) (w : World) (h0 : 0 ≤ k) (h1 : k + 2 * (sumTo (fun i => ns.getD i 0) vs.length : Nat) ≤ 1099511627776) (hl : vs.length ≤ 1048576) (h : NestO w B 138 70 2 v vs ns) :
    Calls Tryz.prog 53 #[v, .int .i64 k] w fun e w' => e = .returned (.int .i64 (k + 2 * (sumTo (fun i => ns.getD i 0) vs.length : Nat))) ∧ NestM w' B 138 70 2 v vs ns k ∧ OnlyN vs w w' := by
  have H := hid h
  obtain ⟨ao, c, rfl⟩ := own_any h.row
  obtain ⟨N, hN⟩ : ∃ N, N = vs.length := ⟨_, rfl⟩
  rw [← hN] at h1 hl ⊢
  have HN := hid hN
  clear h hN
  go_enter Tryz.func53, Tryz.ntmps53
  go_wp2
  go_loopw [1, 5] (fun kv i wr => ∃ a : Nat, a ≤ N ∧ i = .int .i64 a ∧ kv = .int .i64 (k + 2 * (sumTo (fun i => ns.getD i 0) a : Nat)) ∧ Hid (NestA wr B 138 70 2 (.slice ao vs.length c) vs ns k a) ∧ Hid (OnlyN vs w wr)) (fun _ i _ => N - (intOf i).toNat)
  case atStart => exact ⟨0, Nat.zero_le _, rfl, by simp [sumTo], hid (H.out.start k), hid (OnlyN.refl _ _)⟩
  case round =>
    obtain ⟨a, ha, rfl, rfl, HA, HO⟩ := hrel
    by_cases hlt : a < N
    · have an : (a : Int) < (N : Int) := by omega
      have hav : a < vs.length := by rw [← HN.out]; exact hlt
      obtain ⟨g, cap, e1, hgB, hgl⟩ := World.ownsRow.form HA.out.row (by omega)
      simp only [Value.slice.injEq] at e1
      obtain ⟨rfl, _, rfl⟩ := e1
      have c1 := World.ownsRow.cellAt HA.out.row a (by omega)
      rw [List.getElem?_eq_getElem hav] at c1
      have hin := HA.out.un a (Nat.le_refl _) hav
      have eg : vs.getD a undef = vs[a] := by simp [List.getD_eq_getElem?_getD, hav]
      rw [eg] at hin
      obtain ⟨x, hx⟩ : ∃ x, x = vs[a] := ⟨_, rfl⟩
      rw [← hx] at c1 hin
      have hms := sumTo_mono (fun i => ns.getD i 0) (show a + 1 ≤ N by omega)
      have hst : sumTo (fun i => ns.getD i 0) (a + 1) = sumTo (fun i => ns.getD i 0) a + ns.getD a 0 := rfl
      obtain ⟨S, hS⟩ : ∃ S, S = sumTo (fun i => ns.getD i 0) a := ⟨_, rfl⟩
      obtain ⟨q, hq⟩ : ∃ q, q = ns.getD a 0 := ⟨_, rfl⟩
      rw [← hS, ← hq] at hst
      rw [← hq] at hin
      have C := hid (markEv_own B x q (k + 2 * (S : Nat)) wr (by omega) (by omega) hin)
      obtain ⟨xa, xm, xc, hxx⟩ : ∃ xa xm xc, x = .slice xa xm xc := by obtain ⟨_, ho, _⟩ := hin; obtain ⟨p, q, hpq⟩ := own_any ho; exact ⟨_, _, _, hpq⟩
      subst hxx
      have HX := hid hx
      have HQ := hid hq
      have HS := hid hS
      have HST := hid hst
      obtain ⟨kk, hkk⟩ : ∃ kk, kk = k + 2 * (S : Int) := ⟨_, rfl⟩
      rw [← hS, ← hkk]
      rw [← hkk] at C
      have HKK := hid hkk
      clear hin hx hms hst hS hq eg hkk
      go_wp2_with (go_at_call 86; with_reducible refine C.out.mono ?_; rintro e w1 ⟨rfl, hm1, ho1⟩; have M1 := hid hm1; have O1 := hid ho1; clear hm1 ho1)
      go_roundw
      case rel =>
        have hk2 : kk = k + ((2 : Nat) : Int) * (S : Int) := HKK.out
        have hs2 := HST.out
        have e0 : vs.getD a undef = .slice xa xm xc := by rw [HX.out]; simp [List.getD_eq_getElem?_getD, hav]
        refine ⟨a + 1, by omega, by go_num, by rw [show sumTo (fun i => ns.getD i 0) (a + 1) = sumTo (fun i => ns.getD i 0) a + ns.getD a 0 from rfl, ← HS.out, ← HQ.out]; first | (congr 1; push_cast; omega) | (simp; omega), hid (HA.out.step hav (by rw [e0]; exact O1.out) (by rw [e0, ← HQ.out, ← HS.out, ← hk2]; exact M1.out)), hid (HO.out.step hav (by rw [e0]; exact O1.out))⟩
      case measure => simp [intOf]; omega
    · have e : a = N := by omega
      subst e
      go_wp2
      go_ret
      exact ⟨rfl, by have := HA.out.done HN.out; rw [← HN.out] at this; exact this, HO.out⟩

set_option maxRecDepth 100000 in
set_option maxHeartbeats 2000000 in
theorem heldEvS_own (B : Nat) (v : Value) (vs : List Value) (ns : List Nat) (k : Int) (w : World) (h0 : 0 ≤ k) (h1 : k + 2 * (sumTo (fun i => ns.getD i 0) vs.length : Nat) ≤ 1099511627776) (hl : vs.length ≤ 1048576) (h : NestM w B 138 70 2 v vs ns k) :
    Calls Tryz.prog 56 #[v, .int .i64 k] w fun e w' => e = .returned (.int .i64 (k + 2 * (sumTo (fun i => ns.getD i 0) vs.length : Nat))) ∧ w' = w := by
  have H := hid h
  obtain ⟨ao, c, rfl⟩ := own_any h.row
  obtain ⟨N, hN⟩ : ∃ N, N = vs.length := ⟨_, rfl⟩
  rw [← hN] at h1 hl ⊢
  have HN := hid hN
  clear h hN
  go_enter Tryz.func56, Tryz.ntmps56
  go_wp2
  go_loopw [1, 5] (fun kv i wr => wr = w ∧ ∃ a : Nat, a ≤ N ∧ i = .int .i64 a ∧ kv = .int .i64 (k + 2 * (sumTo (fun i => ns.getD i 0) a : Nat))) (fun _ i _ => N - (intOf i).toNat)
  case atStart => exact ⟨rfl, 0, Nat.zero_le _, rfl, by simp [sumTo]⟩
  case round =>
    obtain ⟨rfl, a, ha, rfl, rfl⟩ := hrel
    by_cases hlt : a < N
    · have an : (a : Int) < (N : Int) := by omega
      have hav : a < vs.length := by rw [← HN.out]; exact hlt
      obtain ⟨g, cap, e1, hgB, hgl⟩ := World.ownsRow.form H.out.row (by omega)
      simp only [Value.slice.injEq] at e1
      obtain ⟨rfl, _, rfl⟩ := e1
      have c1 := World.ownsRow.cellAt H.out.row a (by omega)
      rw [List.getElem?_eq_getElem hav] at c1
      have hin := H.out.mkd a hav
      have eg : vs.getD a undef = vs[a] := by simp [List.getD_eq_getElem?_getD, hav]
      rw [eg] at hin
      obtain ⟨x, hx⟩ : ∃ x, x = vs[a] := ⟨_, rfl⟩
      rw [← hx] at c1 hin
      have hms := sumTo_mono (fun i => ns.getD i 0) (show a + 1 ≤ N by omega)
      have hst : sumTo (fun i => ns.getD i 0) (a + 1) = sumTo (fun i => ns.getD i 0) a + ns.getD a 0 := rfl
      obtain ⟨S, hS⟩ : ∃ S, S = sumTo (fun i => ns.getD i 0) a := ⟨_, rfl⟩
      obtain ⟨q, hq⟩ : ∃ q, q = ns.getD a 0 := ⟨_, rfl⟩
      rw [← hS, ← hq] at hst
      rw [← hS, ← hq] at hin
      have C := hid (heldEv_own B x q (k + 2 * (S : Nat)) wr (by omega) (by omega) hin)
      obtain ⟨xa, xm, xc, hxx⟩ : ∃ xa xm xc, x = .slice xa xm xc := by obtain ⟨_, ho, _⟩ := hin; obtain ⟨p, q, hpq⟩ := own_any ho; exact ⟨_, _, _, hpq⟩
      subst hxx
      have HQ := hid hq
      have HS := hid hS
      have HST := hid hst
      obtain ⟨kk, hkk⟩ : ∃ kk, kk = k + 2 * (S : Int) := ⟨_, rfl⟩
      rw [← hS, ← hkk]
      rw [← hkk] at C
      have HKK := hid hkk
      have kk0 : ¬ kk + 2 * (q : Int) < 0 := by omega
      have kk1 : ¬ kk + (q : Int) < 0 := by omega
      clear hin hx hms hst hS hq eg hkk
      go_wp2_with (go_at_call 87; with_reducible refine C.out.mono ?_; rintro e w1 ⟨rfl, hw1⟩; obtain rfl := hw1.symm)
      go_roundw
      case rel =>
        have hk2 := HKK.out
        exact ⟨by first | rfl | trivial, a + 1, by omega, by go_num, by rw [show sumTo (fun i => ns.getD i 0) (a + 1) = sumTo (fun i => ns.getD i 0) a + ns.getD a 0 from rfl, ← HS.out, ← HQ.out]; first | (congr 1; push_cast; omega) | (simp; omega)⟩
      case measure => simp [intOf]; omega
    · have e : a = N := by omega
      subst e
      go_wp2
      go_ret
      exact ⟨rfl, rfl⟩
end Go.Proofs.YthaklmdhkkfigaaGreat
namespace Go.Proofs.YthaklmdhkkfigaaGreat
open Go.RowKit Go.Sort
set_option linter.unusedVariables false
attribute [local go_sem ↓] Go.wp_at_zero Go.wp_at_succ

/-- Events as cells. -/
def evC : List (Int × Int) → List Value
  | [] => []
  | e :: r => .int .i64 e.1 :: .int .i64 e.2 :: evC r
theorem evC_append (a b : List (Int × Int)) : evC (a ++ b) = evC a ++ evC b := by
  induction a with
  | nil => rfl
  | cons e r ih => simp [evC, ih]
theorem evC_len (a : List (Int × Int)) : (evC a).length = a.length * 2 := by
  induction a with
  | nil => rfl
  | cons e r ih => simp [evC, ih]; omega
theorem evC_get : ∀ (es : List (Int × Int)) (k : Nat), k < es.length → (evC es)[k * 2]? = some (.int .i64 (es.getD k (0, 0)).1) ∧ (evC es)[k * 2 + 1]? = some (.int .i64 (es.getD k (0, 0)).2)
  | [], k, h => by simp at h
  | e :: r, 0, _ => ⟨rfl, rfl⟩
  | e :: r, k + 1, h => by
    obtain ⟨h1, h2⟩ := evC_get r k (by simpa using h)
    refine ⟨?_, ?_⟩
    · rw [show (k + 1) * 2 = k * 2 + 2 by omega]; simpa [evC] using h1
    · rw [show (k + 1) * 2 + 1 = k * 2 + 1 + 2 by omega]; simpa [evC] using h2
theorem evC_one (es : List (Int × Int)) : ∀ u ∈ evC es, u.oneCell' = true := by
  induction es with
  | nil => intro u hu; cases hu
  | cons e r ih =>
    intro u hu
    simp only [evC, List.mem_cons] at hu
    rcases hu with rfl | rfl | hu
    · rfl
    · rfl
    · exact ih u hu
abbrev EvRow (w : World) (B : Nat) (v : Value) (es : List (Int × Int)) : Prop := w.ownsRow B 70 2 v es.length (evC es)
/-- A row of the call's own, as a list of events. -/
theorem EvRow.items {w : World} {B n cap : Nat} {ao : Option Addr} {es : List (Int × Int)} (h : EvRow w B (.slice ao n cap) es) : ItemsOf w ao n es := by
  rcases h.2 with ⟨h0, h1⟩ | ⟨g, cap', cur, h1, h2, h3, h4⟩
  · simp only [Value.slice.injEq] at h0
    obtain ⟨rfl, rfl, rfl⟩ := h0
    exact ⟨h1, fun h => absurd h (by omega)⟩
  · simp only [Value.slice.injEq] at h1
    obtain ⟨rfl, rfl, rfl⟩ := h1
    refine ⟨rfl, fun hn => ⟨g, 0, rfl, lt_of_block h3, fun i hi => ?_⟩⟩
    obtain ⟨e1, e2⟩ := evC_get es i hi
    have c1 := World.ownsRow.cells (g := g) h rfl _ _ e1
    have c2 := World.ownsRow.cells (g := g) h rfl _ _ e2
    rw [addr_plus] at c1 c2
    exact ⟨c1, by rw [show 0 + i * 2 + 1 = 0 + (i * 2 + 1) by omega]; exact c2⟩
theorem news_ev {w w' : World} {ao : Option Addr} {n : Nat} {es : List (Int × Int)} (h : ItemsOf w ao n es) (hb : Below w.heap.size w w') : NewsAt w' ao n (evC es) := by
  refine ⟨fun e => ?_, fun ad e j u hj => ?_⟩
  · by_cases h0 : 0 < n
    · obtain ⟨b, off, e2, _⟩ := h.2 h0
      rw [e] at e2; cases e2
    · omega
  · have hj' : j < n * 2 := by have := (List.getElem?_eq_some_iff.1 hj).1; rw [evC_len, h.1] at this; exact this
    obtain ⟨b, off, e2, hlt, hc⟩ := h.2 (by omega)
    rw [e] at e2
    obtain rfl : ad = ⟨b, off, none⟩ := by simpa using e2
    rw [addr_plus]
    have hi : j / 2 < n := by omega
    obtain ⟨g1, g2⟩ := evC_get es (j / 2) (by rw [h.1]; exact hi)
    obtain ⟨k1, k2⟩ := hc (j / 2) hi
    have hm : j % 2 = 0 ∨ j % 2 = 1 := by omega
    rcases hm with hm | hm
    · have ej : j = j / 2 * 2 := by omega
      rw [← ej] at g1 k1
      rw [hj] at g1
      rw [(hb.cell (p := ⟨b, off + j, none⟩) hlt).trans k1, ← g1]
    · have ej : j = j / 2 * 2 + 1 := by omega
      rw [← ej] at g2
      rw [show off + j / 2 * 2 + 1 = off + j by omega] at k2
      rw [hj] at g2
      rw [(hb.cell (p := ⟨b, off + j, none⟩) hlt).trans k2, ← g2]

theorem EvRow.max {w : World} {B : Nat} {v : Value} {es : List (Int × Int)} (h : EvRow w B v es) : es.length ≤ 9223372036854775807 := by
  rcases h.2 with ⟨_, h1⟩ | ⟨g, cap', cur, h1, h2, h3, h4, h5, _⟩
  · omega
  · unfold maxLen at h5; omega
/-- Lists of events, all of the call's own. -/
structure NestQ (w : World) (B : Nat) (v : Value) (vs : List Value) (qs : List (List (Int × Int))) : Prop where
  row : w.ownsRow B 138 1 v vs.length vs
  len : vs.length = qs.length
  inn : ∀ i, i < vs.length → EvRow w B (vs.getD i undef) (qs.getD i [])
theorem NestQ.below {w w' : World} {B : Nat} {v : Value} {vs : List Value} {qs : List (List (Int × Int))} (h : NestQ w B v vs qs) (hb : Below w.heap.size w w') : NestQ w' B v vs qs :=
  ⟨ownsRow_below h.row hb, h.len, fun i hi => ownsRow_below (h.inn i hi) hb⟩
theorem NestQ.base {w : World} {B B' : Nat} {v : Value} {vs : List Value} {qs : List (List (Int × Int))} (h : NestQ w B v vs qs) (hb : B' ≤ B) : NestQ w B' v vs qs := ⟨row_base h.row hb, h.len, fun i hi => row_base (h.inn i hi) hb⟩
theorem NestQ.nest {w : World} {B n cap : Nat} {ao : Option Addr} {vs : List Value} {qs : List (List (Int × Int))} (h : NestQ w B (.slice ao n cap) vs qs) : NestE w ao n qs := by
  obtain rfl := row_len h.row
  refine ⟨h.len.symm, fun h0 => ?_⟩
  obtain ⟨g, cap2, e1, hgB, hgl⟩ := World.ownsRow.form h.row (by omega)
  simp only [Value.slice.injEq] at e1
  obtain ⟨rfl, _, rfl⟩ := e1
  refine ⟨g, 0, rfl, hgl, fun i hi => ?_⟩
  have hi' : i < vs.length := by omega
  have h1 := h.inn i hi'
  obtain ⟨co, cn, cc, h2⟩ := row_form h1
  have c1 := World.ownsRow.cellAt h.row i (by omega)
  rw [List.getElem?_eq_getElem hi'] at c1
  have : vs[i] = vs.getD i undef := by simp [List.getD_eq_getElem?_getD, hi']
  rw [this, h2] at c1
  have h3 := h1
  rw [h2] at h3
  exact ⟨co, cn, cc, by simpa using c1, by have := row_len h3; have := h1.max; omega, EvRow.items h3⟩
theorem getD_snoc_lt {α : Type} {l : List α} {x d : α} {i : Nat} (h : i < l.length) : (l ++ [x]).getD i d = l.getD i d := by
  simp [List.getD_eq_getElem?_getD, List.getElem?_append_left h]
theorem getD_snoc_eq {α : Type} {l : List α} {x d : α} : (l ++ [x]).getD l.length d = x := by simp [List.getD_eq_getElem?_getD]
theorem take_snocA {α : Type} {l : List α} {k : Nat} (d : α) (h : k < l.length) : l.take (k + 1) = l.take k ++ [l.getD k d] := by
  rw [List.take_add_one]
  simp [List.getD_eq_getElem?_getD, h]
theorem NestQ.snoc {w' : World} {B : Nat} {v' x : Value} {vs : List Value} {qs : List (List (Int × Int))} {q : List (Int × Int)} (hl : vs.length = qs.length) (hi : ∀ i, i < vs.length → EvRow w' B (vs.getD i undef) (qs.getD i [])) (hr : w'.ownsRow B 138 1 v' (vs.length + 1) (vs ++ [x])) (hq : EvRow w' B x q) : NestQ w' B v' (vs ++ [x]) (qs ++ [q]) := by
  refine ⟨by simpa using hr, by simp [hl], fun i h2 => ?_⟩
  by_cases e : i < vs.length
  · rw [getD_snoc_lt e, getD_snoc_lt (by rw [← hl]; exact e)]; exact hi i e
  · have ei : i = vs.length := by simp at h2; omega
    subst ei
    rw [getD_snoc_eq, hl, getD_snoc_eq]; exact hq
theorem Tryz.infoEv : (Tryz.prog.info? 70).map (fun i => (i.zero, i.size, i.bytes)) = some (some (.agg #[.int .i64 0, .int .i64 0]), 2, 16) := by kernel_rfl
theorem Tryz.infoEvS : (Tryz.prog.info? 138).map (fun i => (i.zero, i.size, i.bytes)) = some (some (.slice none 0 0), 1, 24) := by kernel_rfl
theorem one_slice (a : Option Addr) (n c : Nat) : ∀ u ∈ [Value.slice a n c], u.oneCell' = true := by intro u hu; simp at hu; subst hu; rfl

set_option maxRecDepth 100000 in
set_option maxHeartbeats 1600000 in
theorem l4CopyEvents_any (ao : Option Addr) (n c : Nat) (qs : List (List (Int × Int))) (w : World) (hf : FitsN qs) (hs : NestE w ao n qs) :
    Calls Tryz.prog 66 #[.slice ao n c] w fun e w' => ∃ v vs, e = .returned v ∧ NestQ w' w.heap.size v vs qs ∧ Below w.heap.size w w' := by
  obtain ⟨i0, hi, hz0, hz1, hz2⟩ := info_parts Tryz.infoEv
  obtain ⟨j0, hj, hj0, hj1, hj2⟩ := info_parts Tryz.infoEvS
  have HS := hid hs
  have HF := hid hf
  have hn : n ≤ 1048576 := by have := hf.1; have := hs.1; omega
  have HL := hid hs.1
  clear hs hf
  go_enter Tryz.func66, Tryz.ntmps66
  go_wp2
  go_loopw [3, 9] (fun p i wr => ∃ (k : Nat) (vs : List Value), k ≤ n ∧ i = .int .i64 k ∧ Hid (NestQ wr w.heap.size p vs (qs.take k)) ∧ Hid (Below w.heap.size w wr)) (fun _ i _ => n - (intOf i).toNat)
  case atStart => exact ⟨0, [], Nat.zero_le _, rfl, hid ⟨World.ownsRow_lit w #[] 0 (Nat.le_refl _) (by decide) rfl, rfl, fun i hi => by simp at hi⟩, hid (below1 _ _)⟩
  case round =>
    obtain ⟨k, vs, hk, rfl, hQ, hB⟩ := hrel
    obtain ⟨pa, pm, pc, rfl⟩ := row_form hQ.out.row
    by_cases hlt : k < n
    · have hlt' : (k : Int) < (n : Int) := by omega
      obtain ⟨b, off, rfl, hbl, hc⟩ := (HS.out.below hB.out).2 (by omega)
      obtain ⟨co, cn, cc, c1, hcn, hit⟩ := hc k hlt
      have hkq : k < qs.length := by rw [HL.out]; exact hlt
      have hcl : cn ≤ 1048576 := by have := HF.out.2 k hkq; have := hit.1; omega
      have hvl : Hid (vs.length = k) := hid (by have := hQ.out.len; simp at this; omega)
      have HI := hid hit
      have TK := hid (take_snocA [] hkq)
      obtain ⟨q, hq⟩ : ∃ q, q = qs.getD k [] := ⟨_, rfl⟩
      rw [← hq] at HI TK
      have hqn : Hid (q.length = cn) := hid HI.out.1
      clear hc hit hq
      go_wp2_with (first
        | (at_builtin; refine wpList_append_opt _ rfl (.tmp 14) (.tmp 15) 138 rfl w.heap.size 70 i0 (.agg #[.int .i64 0, .int .i64 0]) 2 16 Tryz.underlying138 hi hz0 hz1 hz2 rfl (by decide) (.slice (some ⟨wr.heap.size, 0, none⟩) 0 0) 0 [] rfl (World.ownsRow_lit wr #[] 0 hB.out.size (by decide) rfl) co cn cc (evC q) rfl (by rw [evC_len, hqn.out]) (news_ev HI.out (below1 _ _)) (evC_one q) (by unfold maxLen; omega) (by omega) (by have := hB.out.size; simp; omega) ?_; intro v1 w1 hown1 hgrow1 _; obtain ⟨ya, ym, yc, rfl⟩ := row_form hown1; have E1 : Hid (EvRow w1 w.heap.size (.slice ya ym yc) q) := hid (by unfold EvRow; rw [hqn.out]; simpa using hown1); have B1 := hid ((below1 wr (.cells #[] 70)).grown hgrow1 (by simp) (fun j hj => Nat.le_of_eq (by simpa [Value.ownBlock] using hj))); clear hown1 hgrow1)
        | (at_builtin; refine wpList_append_own _ rfl (.tmp 13) (.tmp 17) 33 rfl w.heap.size 138 j0 (.slice none 0 0) 1 24 Tryz.underlying33 hj hj0 hj1 hj2 rfl (by decide) (.slice pa pm pc) vs.length vs rfl (ownsRow_below (ownsRow_below hQ.out.row B1.out) (below1 _ _)) ⟨w1.heap.size, 0, none⟩ 1 1 [.slice ya ym yc] rfl rfl (news_1x w1 _ _ rfl) (one_slice _ _ _) (by have := hvl.out; unfold maxLen; omega) (by have := hvl.out; omega) (by have := hB.out.size; have := B1.out.size; simp; omega) ?_))
      intro v2 w2 hown2 hgrow2 _
      obtain ⟨za, zm, zc, rfl⟩ := row_form hown2
      have R2 := ownsRow_below hQ.out.row B1.out
      have BB := hB.out.trans (B1.out.mono hB.out.size)
      have Q2 : Hid (NestQ w2 w.heap.size (.slice za zm zc) (vs ++ [.slice ya ym yc]) (qs.take (k + 1))) := hid (by
        rw [TK.out]
        exact NestQ.snoc hQ.out.len (fun i hi => row_grown (ownsRow_below (ownsRow_below (hQ.out.inn i hi) B1.out) (below1 _ _)) (ownsRow_below R2 (below1 _ _)) (by decide) hgrow2) hown2 (row_grown (ownsRow_below E1.out (below1 _ _)) (ownsRow_below R2 (below1 _ _)) (by decide) hgrow2))
      have B2 := hid (below_grown BB (Nat.le_refl _) R2 hgrow2)
      clear hown2 hgrow2 R2 BB
      go_wp2
      go_roundw
      case rel => exact ⟨k + 1, _, hlt, by go_num, Q2, B2⟩
      case measure => simp [intOf]; omega
    · have ek : k = n := by omega
      subst ek
      have Q3 : Hid (NestQ wr w.heap.size (.slice pa pm pc) vs qs) := hid (by have := hQ.out; rw [List.take_of_length_le (by rw [HL.out]; exact Nat.le_refl _)] at this; exact this)
      go_wp2
      go_ret
      exact ⟨_, vs, rfl, Q3.out, hB.out⟩
end Go.Proofs.YthaklmdhkkfigaaGreat
