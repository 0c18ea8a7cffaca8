import Derived.Test.YtjeckanjekgkkaaS1
namespace Go.Proofs.Ytjeckanjekgkkaa
open Go.RowKit Go.Sort
attribute [local go_sem ↓] Go.wp_at_zero Go.wp_at_succ

theorem lt_alloc (w : World) (o : Obj) : w.heap.size < (w.alloc o).heap.size := by simp
theorem ownI_alloc {w w' : World} {v : Value} {l : List Nat} (h : OwnI w w' v l) (o : Obj) : OwnI w (w'.alloc o) v l := World.ownsRow.alloc h o
theorem own_lit (w w1 : World) (x : Nat) (h : w.heap.size ≤ w1.heap.size) : (w1.alloc (.cells #[.int .i64 (x : Int)] 3)).ownsRow w.heap.size 3 1 (.slice (some ⟨w1.heap.size, 0, none⟩) 1 1) 1 [.int .i64 (x : Int)] :=
  World.ownsRow_lit w1 #[.int .i64 (x : Int)] 1 h (by unfold maxLen; omega) rfl

theorem undrew {B : Nat} {w w' : World} (h : Below B w.drew w') : Below B w w' := ⟨h.os, h.tape, h.output, h.size, h.block⟩

theorem grown_cell {w w' : World} {row : Option Nat} (h : w.grownBy w' row) {b o : Nat} (hb : b < w.heap.size) (hr : row ≠ some b) : w'.cell? ⟨b, o, none⟩ = w.cell? ⟨b, o, none⟩ := World.cell?_of_block (a := ⟨b, o, none⟩) (grown_block h hb hr)
theorem after_lit {w w1 : World} {lit : Obj} {a c : Value} {t : TypeId} (hb1 : Below ((w.alloc (.cells #[a, c] t)).alloc lit).drew.heap.size ((w.alloc (.cells #[a, c] t)).alloc lit).drew w1) :
    Below w.heap.size w w1 ∧ (w1.cell? ⟨w.heap.size, 0, none⟩ = some a ∧ w1.cell? ⟨w.heap.size, 1, none⟩ = some c) ∧ w.heap.size + 1 < w1.heap.size := by
  have h := (undrew hb1)
  have h2 : Below (w.alloc (.cells #[a, c] t)).heap.size (w.alloc (.cells #[a, c] t)) w1 := (below1 _ lit).trans (h.mono (by simp))
  exact ⟨(below1 _ _).trans (h2.mono (by simp)), two_cells (block_below (heap_alloc_new w _) h2), by have h := h.size; simp at h; omega⟩

theorem after_app {w w1 w2 : World} {H : Nat} (hgrow : w1.grownBy w2 (some H)) (hH : H = w.heap.size + 1) (Z1 : w.heap.size + 1 < w1.heap.size) {b o : Nat} (hbl : b < w.heap.size) {a c d : Value}
    (SX : w1.cell? ⟨w.heap.size, 0, none⟩ = some a ∧ w1.cell? ⟨w.heap.size, 1, none⟩ = some c ∧ w1.cell? ⟨b, o, none⟩ = some d) (B1 : Below w.heap.size w w1) :
    (w2.cell? ⟨w.heap.size, 0, none⟩ = some a ∧ w2.cell? ⟨w.heap.size, 1, none⟩ = some c ∧ w2.cell? ⟨b, o, none⟩ = some d) ∧ Below w.heap.size w w2 := by
  subst hH
  have h1 : ∀ q, q < w.heap.size + 1 → ∀ o, w2.cell? ⟨q, o, none⟩ = w1.cell? ⟨q, o, none⟩ := fun q hq o => grown_cell hgrow (by omega) (by simp; omega)
  exact ⟨⟨(h1 _ (by omega) _).trans SX.1, (h1 _ (by omega) _).trans SX.2.1, (h1 _ (by omega) _).trans SX.2.2⟩, B1.grown hgrow B1.size (fun kk e => by simp at e; omega)⟩

theorem after_box {w w1 : World} {a c : Value} {t : TypeId} (hb1 : Below (w.alloc (.cells #[a, c] t)).drew.heap.size (w.alloc (.cells #[a, c] t)).drew w1) :
    Below w.heap.size w w1 ∧ (w1.cell? ⟨w.heap.size, 0, none⟩ = some a ∧ w1.cell? ⟨w.heap.size, 1, none⟩ = some c) ∧ w.heap.size < w1.heap.size := by
  have h2 := undrew hb1
  exact ⟨(below1 _ _).trans (h2.mono (by simp)), two_cells (block_below (heap_alloc_new w _) h2), by have h := h2.size; simp at h; omega⟩
theorem after_app2 {w w1 w2 : World} {lit : Obj} (hgrow : (w1.alloc lit).grownBy w2 (some w1.heap.size)) (Z1 : w.heap.size < w1.heap.size) {b o : Nat} (hbl : b < w.heap.size) {a c d : Value}
    (SX : w1.cell? ⟨w.heap.size, 0, none⟩ = some a ∧ w1.cell? ⟨w.heap.size, 1, none⟩ = some c ∧ w1.cell? ⟨b, o, none⟩ = some d) (B1 : Below w.heap.size w w1) :
    (w2.cell? ⟨w.heap.size, 0, none⟩ = some a ∧ w2.cell? ⟨w.heap.size, 1, none⟩ = some c ∧ w2.cell? ⟨b, o, none⟩ = some d) ∧ Below w.heap.size w w2 := by
  have h1 : ∀ q, q < w.heap.size + 1 → ∀ o, w2.cell? ⟨q, o, none⟩ = w1.cell? ⟨q, o, none⟩ := fun q hq o => (grown_cell hgrow (by simp; omega) (by simp; omega)).trans ((below1 w1 lit).cell (p := ⟨q, o, none⟩) (show q < w1.heap.size by omega))
  have B2 : Below w.heap.size w (w1.alloc lit) := B1.alloc (by omega) _
  exact ⟨⟨(h1 _ (by omega) _).trans SX.1, (h1 _ (by omega) _).trans SX.2.1, (h1 _ (by omega) _).trans SX.2.2⟩, B2.grown hgrow B2.size (fun kk e => by simp at e; omega)⟩

set_option maxRecDepth 100000 in
set_option maxHeartbeats 3200000 in
theorem l2Up_any (so to : Option Addr) (n sc tn tc : Nat) (ss : List StD) (T : TreeOK ss) (hn : n ≤ 200) : ∀ k : Nat, k < n → ∀ w, StatesOf w so n ss →
    Calls Try.prog 22 #[.agg #[.slice so n sc, .slice to tn tc], .int .i64 k] w fun e w' => ∃ g cap, e = .returned (.slice (some ⟨g, 0, none⟩) (up ss k).length cap) ∧ OwnI w w' (.slice (some ⟨g, 0, none⟩) (up ss k).length cap) (up ss k) ∧ (k = 0 → cap = 1) ∧ Below w.heap.size w w' := by
  intro k
  induction k using Nat.strongRecOn with
  | ind k ih =>
    intro hk w hs
    by_cases h0 : k = 0
    · subst h0
      clear ih hs
      rw [up_zero]
      go_enter Try.func22, Try.ntmps22
      go_wp2
      go_ret
      exact ⟨_, _, rfl, by simpa [OwnI, ints] using own_lit w (w.alloc (.cells #[.slice so n sc, .slice to tn tc] 32)) 0 (by simp), fun _ => rfl, below2 _ _ _⟩
    · have hl := hs.1
      have ht := T.2 k (by omega) (by omega)
      obtain ⟨p, hp⟩ : ∃ p : Nat, par ss k = p := ⟨(par ss k).toNat, by omega⟩
      have hpk : p < k := by omega
      have hlen := up_len T p (by omega)
      have hpos : 0 < (up ss p).length := by rw [up_form T (k := p) (by omega)]; simp
      have E : Hid (up ss k = [k] ++ up ss p) := hid (by rw [up_pos T (by omega) (by omega), hp, Int.toNat_natCast]; rfl)
      obtain ⟨b, off, rfl, hbl, hc⟩ := hs.2 (by omega)
      have k1 : w.cell? ⟨b, off + k * 4, none⟩ = some (.int .i64 (p : Int)) := by rw [← hp]; exact (hc k hk).1
      have k00 : (0 : Int) ≤ (k : Int) := by omega
      have k0 : (k : Int) < (n : Int) := by omega
      have kz : ((k : Int) == 0) = false := by simpa using h0
      have C := hid (fun w hw => ih p hpk (by omega) w hw)
      have HS : Hid (∀ w', Below w.heap.size w w' → StatesOf w' (some ⟨b, off, none⟩) n ss) := fun w' h => hs.below h
      have m0 : 0 < (up ss p).length := hpos
      have NL : Hid ((ints (up ss p)).length = (up ss p).length * 1) := hid (by rw [ints_len]; omega)
      have NO := hid (ints_one (up ss p))
      have m1 : (up ss p).length ≤ 200 := by omega
      have F63 : Hid (1 + (up ss p).length ≤ maxLen ∧ (1 + (up ss p).length) * 8 ≤ 140737488355328) := hid (by unfold maxLen; omega)
      have E2 : Hid ((up ss k).length = 1 + (up ss p).length ∧ ints (up ss k) = [.int .i64 (k : Int)] ++ ints (up ss p)) := hid (by rw [E.out]; constructor <;> simp [ints]; omega)
      have nb := World.new_ne w ⟨b, off + k * 4, none⟩ k1
      obtain ⟨i0, hi0, hz0, hz1, hz2⟩ := info_parts Try.info3
      obtain ⟨ob, hob⟩ : ∃ ob : Obj, ob = .cells #[.slice (some ⟨b, off, none⟩) n sc, .slice to tn tc] 32 := ⟨_, rfl⟩
      have OL := hid (own_lit w (w.alloc ob) k (by simp))
      rw [hob] at OL
      clear ih hs hc ht hp hlen hl hpk hob
      go_enter Try.func22, Try.ntmps22
      go_wp2_with fail
      go_region_held3 (fun w' => w'.cell? ⟨w.heap.size, 0, none⟩ = some (.slice (some ⟨b, off, none⟩) n sc) ∧ w'.cell? ⟨w.heap.size, 1, none⟩ = some (.slice to tn tc) ∧ w'.cell? ⟨b, off + k * 4, none⟩ = some (.int .i64 (p : Int))) (first | go_keep | exact SY.out | exact SX.out)
        (first
          | (go_at_call 22; refine (C.out _ (HS.out _ (below2 _ _ _).drew)).mono ?_; rintro e w1 ⟨g, cap, rfl, ho, _, hb1⟩; have O1 := hid ho; have O9 := hid (ownsRow_below OL.out (undrew hb1)); have AF := after_lit hb1; have Z1 := hid AF.2.2; have B1 := hid AF.1; have SX := hid (And.intro AF.2.1.1 (And.intro AF.2.1.2 ((AF.1.cell (p := ⟨b, off + k * 4, none⟩) hbl).trans k1))); clear ho hb1 AF)
          | (go_at_call 22; refine (C.out _ (HS.out _ (below1 _ _).drew)).mono ?_; rintro e w1 ⟨g, cap, rfl, ho, _, hb1⟩; have O1 := hid ho; have AF := after_box hb1; have Z1 := hid AF.2.2; have B1 := hid AF.1; have SX := hid (And.intro AF.2.1.1 (And.intro AF.2.1.2 ((AF.1.cell (p := ⟨b, off + k * 4, none⟩) hbl).trans k1))); clear ho hb1 AF)
          | (refine step_append_lies _ (by rfl) _ _ _ (by rfl) w.heap.size 3 i0 _ 1 8 Try.underlying27 hi0 hz0 hz1 hz2 rfl (by omega) (.slice (some ⟨(w.alloc (.cells #[.slice (some ⟨b, off, none⟩) n sc, .slice to tn tc] 32)).heap.size, 0, none⟩) 1 1) 1 [.int .i64 (k : Int)] (by simp [Act.eval]) O9.out ⟨g, 0, none⟩ (up ss p).length cap (ints (up ss p)) (by simp [Act.eval]) NL.out (World.ownsRow.cells O1.out rfl) NO.out m0 F63.out.1 F63.out.2 B1.out.size w1.heap.size rfl ?_; intro gg cap' w2 hown1 hgrow hat hlt; have AP := after_app (H := (w.alloc (.cells #[.slice (some ⟨b, off, none⟩) n sc, .slice to tn tc] 32)).heap.size) hgrow (World.size_alloc _ _) Z1.out hbl SX.out B1.out; have SY := hid AP.1; have B2 := hid AP.2; have O2 := hid hown1; clear AP hown1 hgrow hat)
          | (refine step_append_lies _ (by rfl) _ _ _ (by rfl) w.heap.size 3 i0 _ 1 8 Try.underlying27 hi0 hz0 hz1 hz2 rfl (by omega) (.slice (some ⟨w1.heap.size, 0, none⟩) 1 1) 1 [.int .i64 (k : Int)] (by simp [Act.eval]) (own_lit w w1 k B1.out.size) ⟨g, 0, none⟩ (up ss p).length cap (ints (up ss p)) (by simp [Act.eval]) NL.out (World.ownsRow.cells (ownI_alloc O1.out _) rfl) NO.out m0 F63.out.1 F63.out.2 (Nat.le_trans B1.out.size (Nat.le_of_lt (lt_alloc _ _))) (w1.heap.size + 1) (World.size_alloc _ _) ?_; intro gg cap' w2 hown1 hgrow hat hlt; have AP := after_app2 hgrow Z1.out hbl SX.out B1.out; have SY := hid AP.1; have B2 := hid AP.2; have O2 := hid hown1; clear AP hown1 hgrow hat)
          )
      all_goals
       go_wp2
       go_ret
       refine ⟨gg, cap', by rw [E2.out.1]; rfl, ?_, fun h => absurd h h0, B2.out⟩
       unfold OwnI
       rw [E2.out.1, E2.out.2]
       exact O2.out
end Go.Proofs.Ytjeckanjekgkkaa
