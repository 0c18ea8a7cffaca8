import Derived.Test.YtdpejnacganadaaF3
namespace Go.Proofs.Ytdpejnacganadaa
open Go.RowKit Go.Sort

theorem bank2 (k y : Int) (h1 : 1 ≤ k) (h7 : k ≤ 7) : bankB [k, 4] [0, y] = true := by
  have hk : k = 1 ∨ k = 2 ∨ k = 3 ∨ k = 4 ∨ k = 5 ∨ k = 6 ∨ k = 7 := by omega
  simp only [bankB, decide_eq_true_eq]
  refine ⟨by simp, by simp, ?_⟩
  intro i hi
  have hi' : i = 0 ∨ i = 1 := by simp at hi; omega
  rcases hi' with rfl | rfl <;> rcases hk with rfl | rfl | rfl | rfl | rfl | rfl | rfl <;> simp [conv, kOk]
theorem wrap_div (v m : Int) (hm : m ∣ 18446744073709551616) : (wrap64 v) % m = v % m := by
  obtain ⟨c, hc⟩ := hm
  have h : wrap64 v = v + 18446744073709551616 * (-((v + 9223372036854775808) / 18446744073709551616)) := by
    have := Int.emod_add_mul_ediv (v + 9223372036854775808) 18446744073709551616
    simp only [wrap64]
    omega
  rw [h, hc, Int.mul_assoc, Int.add_mul_emod_self_left]
theorem conv_is (k : Int) (h1 : 1 ≤ k) (h7 : k ≤ 7) (h4 : k ≠ 4) : ∃ m o : Int, m ∣ 18446744073709551616 ∧ 0 < m ∧ ∀ v, conv k v = (v + o) % m - o := by
  have hk : k = 1 ∨ k = 2 ∨ k = 3 ∨ k = 5 ∨ k = 6 ∨ k = 7 := by omega
  rcases hk with rfl | rfl | rfl | rfl | rfl | rfl
  · exact ⟨256, 128, by decide, by decide, fun v => by simp [conv]⟩
  · exact ⟨65536, 32768, by decide, by decide, fun v => by simp [conv]⟩
  · exact ⟨4294967296, 2147483648, by decide, by decide, fun v => by simp [conv]⟩
  · exact ⟨256, 0, by decide, by decide, fun v => by simp [conv]⟩
  · exact ⟨65536, 0, by decide, by decide, fun v => by simp [conv]⟩
  · exact ⟨4294967296, 0, by decide, by decide, fun v => by simp [conv]⟩
theorem conv_eq_of {m o : Int} (a b : Int) (h : a % m = b % m) : (a + o) % m - o = (b + o) % m - o := by
  rw [Int.add_emod, h, ← Int.add_emod]
theorem conv_mod {m o : Int} (v : Int) : ((v + o) % m - o) % m = v % m := by
  rw [Int.sub_emod, Int.emod_emod, ← Int.sub_emod]; congr 1; omega
theorem conv_idem (k v : Int) (h1 : 1 ≤ k) (h7 : k ≤ 7) : conv k (conv k v) = conv k v := by
  by_cases h4 : k = 4
  · subst h4; simp [conv]
  · obtain ⟨m, o, _, _, h⟩ := conv_is k h1 h7 h4
    rw [h (conv k v), h v]; exact conv_eq_of _ _ (conv_mod v)
theorem conv_bin (k x y op : Int) (h1 : 1 ≤ k) (h7 : k ≤ 7) (hop : op = 4 ∨ op = 5 ∨ op = 6) : conv k (binV op x y) = conv k (binV op (conv k x) (conv k y)) := by
  by_cases h4 : k = 4
  · subst h4; simp [conv]
  · obtain ⟨m, o, hd, _, h⟩ := conv_is k h1 h7 h4
    rw [h, h]
    apply conv_eq_of
    have ex : conv k x % m = x % m := by rw [h]; exact conv_mod x
    have ey : conv k y % m = y % m := by rw [h]; exact conv_mod y
    rcases hop with rfl | rfl | rfl
    · simp only [binV, if_true]
      rw [wrap_div _ _ hd, wrap_div _ _ hd, Int.add_emod x, Int.add_emod (conv k x), ex, ey]
    · simp [binV]
      rw [wrap_div _ _ hd, wrap_div _ _ hd, Int.sub_emod x, Int.sub_emod (conv k x), ex, ey]
    · simp [binV]
      rw [wrap_div _ _ hd, wrap_div _ _ hd, Int.mul_emod x, Int.mul_emod (conv k x), ex, ey]
theorem ev_bin1 (k x y op : Int) (h1 : 1 ≤ k) (h7 : k ≤ 7) (hop : op = 4 ∨ op = 5 ∨ op = 6) : evI [(3, 0), (2, 1), (op, 0), (19, k)] [k, 4] [0, y] x = conv k (binV op x y) := by
  unfold evI
  rw [if_pos (bank2 k y h1 h7)]
  rcases hop with rfl | rfl | rfl <;> simp [liftT, runT, stepT, onlyT, h1, h7, evalT, Tree.arg, Tree.var, Tree.bin, Tree.conv, binOk]
theorem ev_bin2 (k x y op : Int) (h1 : 1 ≤ k) (h7 : k ≤ 7) (hop : op = 4 ∨ op = 5 ∨ op = 6) : evI [(3, 0), (19, k), (2, 1), (19, k), (op, 0), (19, k)] [k, 4] [0, y] x = conv k (binV op (conv k x) (conv k y)) := by
  unfold evI
  rw [if_pos (bank2 k y h1 h7)]
  rcases hop with rfl | rfl | rfl <;> simp [liftT, runT, stepT, onlyT, h1, h7, evalT, Tree.arg, Tree.var, Tree.bin, Tree.conv, binOk]
theorem ev_one (k x y : Int) (h1 : 1 ≤ k) (h7 : k ≤ 7) : evI [(3, 0), (19, k)] [k, 4] [0, y] x = conv k x := by
  unfold evI
  rw [if_pos (bank2 k y h1 h7)]
  simp [liftT, runT, stepT, onlyT, h1, h7, evalT, Tree.arg, Tree.conv]
theorem ev_two (k x y : Int) (h1 : 1 ≤ k) (h7 : k ≤ 7) : evI [(3, 0), (19, k), (19, k)] [k, 4] [0, y] x = conv k x := by
  unfold evI
  rw [if_pos (bank2 k y h1 h7)]
  simp [liftT, runT, stepT, onlyT, h1, h7, evalT, Tree.arg, Tree.conv]
  exact conv_idem k x h1 h7
def lowK (k : Int) : Int := [0, -128, -32768, -2147483648, 0, 0, 0, 0].getD k.toNat 0
def highK (k : Int) : Int := [0, 127, 32767, 2147483647, 0, 255, 65535, 4294967295].getD k.toNat 0
/-- The number stored is in the range of the kind and differs by a multiple of the width's size. -/
theorem conv_range (k x : Int) (h1 : 1 ≤ k) (h7 : k ≤ 7) (h4 : k ≠ 4) : ¬ conv k x < lowK k ∧ ¬ highK k < conv k x ∧ (wrap64 (x - conv k x)).tmod (highK k - lowK k + 1) = 0 := by
  have hk : k = 1 ∨ k = 2 ∨ k = 3 ∨ k = 5 ∨ k = 6 ∨ k = 7 := by omega
  have key : ∀ m v : Int, m ∣ 18446744073709551616 → 0 < m → v % m = 0 → (wrap64 v).tmod m = 0 := fun m v hd hm hv => by
    have := wrap_div v m hd
    rw [hv] at this
    exact Int.tmod_eq_zero_of_dvd (Int.dvd_of_emod_eq_zero this)
  rcases hk with rfl | rfl | rfl | rfl | rfl | rfl <;> simp [conv, lowK, highK] <;> refine ⟨by omega, by omega, ?_⟩ <;> refine key _ _ (by decide) (by decide) (by omega)
end Go.Proofs.Ytdpejnacganadaa
