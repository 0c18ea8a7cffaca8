import Derived.Test.YtcdcjpejlhcdnaaDoorSr14
import Derived.WalkMore
namespace Go.Proofs.YtcdcjpejlhcdnaaDoor
open Go.RowKit Go.Sort
set_option linter.unusedVariables false
attribute [local go_sem ↓] Go.wp_at_zero Go.wp_at_succ

def skipF (fs : List (List UInt8)) : Bool := decide (fs.length = 1 ∧ fs.getD 0 [] = []) || (fs.getD 0 []).head? == some 35
theorem pre_is (l : List UInt8) : Lib.hasPrefix l [35] = (l.head? == some 35) := by
  cases l with
  | nil => rfl
  | cons x r => simp [Lib.hasPrefix, List.isPrefixOf]; exact Bool.beq_comm

set_option maxRecDepth 100000 in
set_option maxHeartbeats 800000 in
theorem isSkipped_any (b off n c : Nat) (fs : List (List UInt8)) (w : World) (hn : n + 1 ≤ 1048576) (h : StrsOf w (some ⟨b, off, none⟩) (n + 1) fs) :
    Calls Tryd.prog 35 #[.slice (some ⟨b, off, none⟩) (n + 1) c] w fun e w' => e = .returned (.bool (skipF fs)) ∧ w' = w := by
  obtain ⟨c0, hbl, _⟩ := h.one
  have hfl := h.1
  obtain ⟨s, hs⟩ : ∃ s : ByteArray, s = ⟨(fs.getD 0 []).toArray⟩ := ⟨_, rfl⟩
  have c0' : w.cell? ⟨b, off, none⟩ = some (.string s) := by rw [hs]; exact c0
  have hb : fs.getD 0 [] = bl s := ba_bl.1 hs.symm
  have C0 := Tryd.strings_HasPrefix s ⟨#[35]⟩ w
  obtain ⟨p, hp⟩ : ∃ p, p = ((fs.getD 0 []).head? == some 35) := ⟨_, rfl⟩
  have C : Hid (Calls Tryd.prog 44 #[.string s, .string ⟨#[35]⟩] w fun e w' => e = .returned (.bool p) ∧ w' = w) := hid (by
    have e : Lib.hasPrefix (bl s) [35] = p := by rw [pre_is, hp, hb]
    rw [← e]; exact C0)
  have SF : Hid (skipF fs = (decide (n = 0 ∧ s.size = 0) || p)) := hid (by
    unfold skipF
    rw [hp]
    congr 1
    apply decide_eq_decide.2
    constructor
    · rintro ⟨h1, h2⟩
      refine ⟨by omega, ?_⟩
      rw [← bl_len, ← hb, h2]; rfl
    · rintro ⟨h1, h2⟩
      refine ⟨by omega, ?_⟩
      rw [hb]
      exact List.length_eq_zero_iff.1 (by rw [bl_len]; exact h2))
  rw [SF.out]
  clear h c0 hs hb C0 hp hfl SF
  by_cases h0 : n = 0
  · subst h0
    by_cases hz : s.size = 0
    · have hte : s = ⟨#[]⟩ := by apply ByteArray.ext; exact Array.eq_empty_of_size_eq_zero hz
      subst hte
      clear hz
      go_enter Tryd.func35, Tryd.ntmps35
      go_wp2
      go_ret
      exact ⟨ret_bool (by simp), rfl⟩
    · have hte0 : ¬ s.toList = [] := by rw [ByteArray.toList_eq]; intro e; exact hz (by rw [← bl_len]; show (s.data.toList).length = 0; rw [e]; rfl)
      have hte' : s.toList.isEmpty = false := by cases hq : s.toList with | nil => exact absurd hq hte0 | cons a r => rfl
      have HZ := hid hz
      clear hz
      go_enter Tryd.func35, Tryd.ntmps35
      go_wp2_with (go_at_call 44; with_reducible refine C.out.mono ?_; rintro e w1 ⟨rfl, hw1⟩; obtain rfl := hw1.symm)
      go_ret
      exact ⟨ret_bool (by simp [HZ.out]), rfl⟩
  · have h0' : ((n : Int) + 1 == 1) = false := by simp; omega
    have H0 := hid h0
    clear h0
    go_enter Tryd.func35, Tryd.ntmps35
    go_wp2_with (go_at_call 44; with_reducible refine C.out.mono ?_; rintro e w1 ⟨rfl, hw1⟩; obtain rfl := hw1.symm)
    go_ret
    exact ⟨ret_bool (by simp [H0.out]), rfl⟩
end Go.Proofs.YtcdcjpejlhcdnaaDoor
