import Derived.Test.YtjeckanjekgkkaaS3
namespace Go.Proofs.Ytjeckanjekgkkaa
open Go.RowKit Go.Sort
attribute [local go_sem ↓] Go.wp_at_zero Go.wp_at_succ

set_option maxHeartbeats 800000 in
theorem l2Down_any (so to : Option Addr) (n sc tn tc : Nat) (ss : List StD) (G : GoodT ss tn) : ∀ d k : Nat, k < n → n - k = d → ∀ w, StatesOf w so n ss →
    Calls Try.prog 35 #[.agg #[.slice so n sc, .slice to tn tc], .int .i64 k] w fun e w' => ∃ g cap, e = .returned (.slice (some ⟨g, 0, none⟩) (down ss k).length cap) ∧ OwnI w w' (.slice (some ⟨g, 0, none⟩) (down ss k).length cap) (down ss k) ∧ Below w.heap.size w w' := by
  intro d
  induction d using Nat.strongRecOn with
  | ind d ih =>
    intro k hk hd w hs
    have hl := hs.1
    have hn : n ≤ 200 := by have := G.n2; omega
    obtain ⟨b, off, rfl, hbl, hc⟩ := hs.2 (by omega)
    have k2 : w.cell? ⟨b, off + k * 4 + 1, none⟩ = some (.int .i64 (ini ss k)) := (hc k hk).2.1
    have k0 : (k : Int) < (n : Int) := by omega
    by_cases h0 : ini ss k < 0
    · have E : Hid (down ss k = []) := hid (down_leaf h0)
      rw [E.out]
      obtain ⟨iv, hiv⟩ : ∃ iv, iv = ini ss k := ⟨_, rfl⟩
      rw [← hiv] at k2 h0
      clear ih hs hc hiv
      go_enter Try.func35, Try.ntmps35
      go_wp2
      go_ret
      refine ⟨_, _, rfl, ?_, below2 _ _ _⟩
      have := World.ownsRow_lit (base := w.heap.size) (e := 3) (size := 1) (w.alloc (.cells #[.slice (some ⟨b, off, none⟩) n sc, .slice to tn tc] 32)) #[] 0 (by simp) (by unfold maxLen; omega) rfl
      simpa [OwnI, ints] using this
    · rcases ini_good G (k := k) (by omega) with e | ⟨h1, h2⟩
      · omega
      obtain ⟨p, hp⟩ : ∃ p : Nat, ini ss k = p := ⟨(ini ss k).toNat, by omega⟩
      have hlen := down_len G (n - p) p (by omega) (by omega)
      have E : Hid (down ss k = [p] ++ down ss p) := hid (by rw [down_in G (by omega) h0, hp, Int.toNat_natCast]; rfl)
      have E2 : Hid ((down ss k).length = 1 + (down ss p).length ∧ ints (down ss k) = [.int .i64 (p : Int)] ++ ints (down ss p)) := hid (by rw [E.out]; constructor <;> simp [ints]; omega)
      have NL : Hid ((ints (down ss p)).length = (down ss p).length * 1) := hid (by rw [ints_len]; omega)
      have NO := hid (ints_one (down ss p))
      have F63 : Hid (1 + (down ss p).length ≤ maxLen ∧ (1 + (down ss p).length) * 8 ≤ 140737488355328) := hid (by unfold maxLen; omega)
      have HS : Hid (∀ w', Below w.heap.size w w' → StatesOf w' (some ⟨b, off, none⟩) n ss) := fun w' h => hs.below h
      have C := hid (fun w hw => ih (n - p) (by omega) p (by omega) rfl w hw)
      have OL := hid (own_lit w (w.alloc (.cells #[.slice (some ⟨b, off, none⟩) n sc, .slice to tn tc] 32)) p (by simp))
      obtain ⟨i0, hi0, hz0, hz1, hz2⟩ := info_parts Try.info3
      have hnn : ¬ (p : Int) < 0 := by omega
      rw [hp] at k2
      clear ih hs hc h0 h1 h2 hp hlen
      go_enter Try.func35, Try.ntmps35
      go_wp2_with (first | (go_at_call 35; refine (C.out _ (HS.out _ (below2 _ _ _))).mono ?_; rintro e w1 ⟨g, cap, rfl, ho, hb1⟩; have O1 := hid ho; have O9 := hid (ownsRow_below OL.out hb1); have B1 := hid ((below2 _ _ _).trans (hb1.mono (by simp; omega))); clear ho hb1) | (at_builtin; refine wpList_append_own _ rfl (.tmp 16) (.tmp 19) 27 rfl w.heap.size 3 i0 _ 1 8 Try.underlying27 hi0 hz0 hz1 hz2 rfl (by decide) (.slice (some ⟨w.heap.size + 1, 0, none⟩) 1 1) 1 [.int .i64 (p : Int)] rfl (by simpa using O9.out) ⟨g, 0, none⟩ (down ss p).length cap (ints (down ss p)) rfl NL.out (World.ownsRow.cells O1.out rfl) NO.out F63.out.1 F63.out.2 B1.out.size ?_))
      intro v' w2 hown hgrow _
      obtain ⟨gg, cap', rfl, _, _⟩ := World.ownsRow.form hown (by omega)
      have O2 := hid hown
      have B2 := hid (B1.out.grown hgrow B1.out.size (fun kk e => by simp [Value.ownBlock] at e; omega))
      clear hown hgrow
      go_wp2
      go_ret
      refine ⟨gg, cap', by rw [E2.out.1]; rfl, ?_, B2.out⟩
      unfold OwnI
      rw [E2.out.1, E2.out.2]
      exact O2.out
end Go.Proofs.Ytjeckanjekgkkaa
