import Derived.Test.YtdpejnacganadaaH7
namespace Go.Proofs.Ytdpejnacganadaa
open Go.RowKit Go.Sort
attribute [local go_sem ↓] Go.wp_at_zero Go.wp_at_succ

def BytesOf (w : World) (ao : Option Addr) (n : Nat) : Prop := 0 < n → ∃ b off, ao = some ⟨b, off, none⟩ ∧ b < w.heap.size ∧ ∀ i, i < n → ∃ z, w.cell? ⟨b, off + i, none⟩ = some (.int .u8 z)
theorem BytesOf.below {w w' : World} {ao : Option Addr} {n : Nat} (h : BytesOf w ao n) (hb : Below w.heap.size w w') : BytesOf w' ao n := fun hn => by
  obtain ⟨b, off, e, hlt, hc⟩ := h hn
  exact ⟨b, off, e, Nat.lt_of_lt_of_le hlt hb.size, fun i hi => by obtain ⟨z, hz⟩ := hc i hi; exact ⟨z, (hb.cell (p := ⟨b, off + i, none⟩) hlt).trans hz⟩⟩

set_option maxHeartbeats 800000 in
theorem pick_any (ao : Option Addr) (n c : Nat) (i : Nat) (w : World) (hn : n ≤ 1048576) (hi : i < 8) (h : BytesOf w ao n) :
    Calls Try.prog 8 #[.slice ao n c, .int .i64 i, .int .i64 256] w fun e w' => ∃ v : Int, e = .returned (.int .i64 v) ∧ w' = w := by
  by_cases h0 : n = 0
  · subst h0
    go_enter Try.func8, Try.ntmps8
    go_wp2
    go_ret
    exact ⟨_, rfl, rfl⟩
  · obtain ⟨b, off, rfl, hlt, hc⟩ := h (by omega)
    obtain ⟨z, hz⟩ := hc (i % n) (Nat.mod_lt _ (by omega))
    have e1 : ((n : Int) == 0) = false := by simp; omega
    have e2 : (i : Int).tmod n = ((i % n : Nat) : Int) := by rw [Int.tmod_eq_emod_of_nonneg (by omega)]; simp
    have e3 : ((i % n : Nat) : Int) < n := by have := Nat.mod_lt i (show n > 0 by omega); omega
    obtain ⟨j, hj⟩ : ∃ j, j = i % n := ⟨_, rfl⟩
    rw [← hj] at hz e2 e3
    clear hj hc
    go_enter Try.func8, Try.ntmps8
    go_wp2
    go_ret
    exact ⟨_, rfl, rfl⟩
end Go.Proofs.Ytdpejnacganadaa
