import Derived.Test.YtcdcjpejlhcdnaaDoorSr5
namespace Go.Proofs.YtcdcjpejlhcdnaaDoor
open Go.RowKit Go.Sort
set_option linter.unusedVariables false
attribute [local go_sem ↓] Go.wp_at_zero Go.wp_at_succ

def scCells : List ScI → List Value
  | [] => []
  | e :: r => .int .i64 e.k :: .int .i64 e.o :: .int .i64 e.s :: .int .i64 e.v :: scCells r
theorem scCells_append (a b : List ScI) : scCells (a ++ b) = scCells a ++ scCells b := by
  induction a with
  | nil => rfl
  | cons e r ih => simp [scCells, ih]
theorem scCells_len (a : List ScI) : (scCells a).length = a.length * 4 := by
  induction a with
  | nil => rfl
  | cons e r ih => simp [scCells, ih]; omega
abbrev ScRow (w : World) (B : Nat) (v : Value) (xs : List ScI) : Prop := w.ownsRow B 31 4 v xs.length (scCells xs)
theorem Tryd.infoSc : (Tryd.prog.info? 31).map (fun i => (i.zero, i.size, i.bytes)) = some (some (.agg #[.int .i64 0, .int .i64 0, .int .i64 0, .int .i64 0]), 4, 32) := by kernel_rfl
/-- What a script comes to: its items and 0, or the number of the first line that is wrong. -/
def scr : List (List UInt8) → Nat → List ScI → List ScI × Int
  | [], _, acc => (acc, 0)
  | l :: r, n, acc => if skipB l then scr r (n + 1) acc else match itemOf (cut 32 l) with
    | none => ([], (n : Int) + 1)
    | some it => if acc.length = 4000 then ([], (n : Int) + 1) else scr r (n + 1) (acc ++ [it])
def scrT (t : List UInt8) : List ScI × Int := if 30000 < t.length then ([], -1) else scr (cut 10 t) 0 []
theorem row_base {w : World} {b1 b2 : Nat} {e : TypeId} {size : Nat} {v : Value} {n : Nat} {xs : List Value} (h : w.ownsRow b1 e size v n xs) (hb : b2 ≤ b1) : w.ownsRow b2 e size v n xs := by
  refine ⟨h.1, ?_⟩
  rcases h.2 with h | ⟨g, cap, cur, h1, h2, h3⟩
  · exact .inl h
  · exact .inr ⟨g, cap, cur, h1, by omega, h3⟩
/-- A row stays when a row of another kind grows. -/
theorem row_grown {w w2 : World} {B1 B2 s1 s2 n1 n2 : Nat} {e1 e2 : TypeId} {v1 v2 : Value} {x1 x2 : List Value} (h1 : w.ownsRow B1 e1 s1 v1 n1 x1) (h2 : w.ownsRow B2 e2 s2 v2 n2 x2) (hne : e1 ≠ e2) (hg : w.grownBy w2 v2.ownBlock) : w2.ownsRow B1 e1 s1 v1 n1 x1 := by
  refine ⟨h1.1, ?_⟩
  rcases h1.2 with h | ⟨g, cap, cur, k1, k2, k3, k4⟩
  · exact .inl h
  · refine .inr ⟨g, cap, cur, k1, k2, (hg.block g (lt_of_block k3) ?_).trans k3, k4⟩
    intro e
    rcases h2.2 with ⟨h, _⟩ | ⟨g', cap', cur', j1, j2, j3, j4⟩
    · rw [h] at e; cases e
    · rw [j1] at e
      simp [Value.ownBlock] at e
      subst e
      rw [k3] at j3
      simp at j3
      exact hne j3.2
theorem TxRow.form {w : World} {B : Nat} {v : Value} {fs : List (List UInt8)} (h : TxRow w B v fs) (h0 : fs ≠ []) : ∃ g n c, v = .slice (some ⟨g, 0, none⟩) (n + 1) c ∧ fs.length = n + 1 ∧ n + 1 ≤ c ∧ B ≤ g ∧ StrsOf w (some ⟨g, 0, none⟩) (n + 1) fs := by
  have hl : fs.length ≠ 0 := fun e => h0 (List.length_eq_zero_iff.1 e)
  obtain ⟨m, hm⟩ : ∃ m, fs.length = m + 1 := ⟨fs.length - 1, by omega⟩
  rcases h.2 with ⟨_, h1⟩ | ⟨g, cap, cur, h1, h2, h3, h4, _⟩
  · exact absurd h1 hl
  · subst h1
    have hs := (TxRow.strs h).1
    rw [hm] at hs h4
    exact ⟨g, m, cap, by rw [hm], hm, h4, h2, hs⟩
theorem row_len {w : World} {B : Nat} {e : TypeId} {size : Nat} {ao : Option Addr} {k cap n : Nat} {xs : List Value} (h : w.ownsRow B e size (.slice ao k cap) n xs) : k = n := by
  rcases h.2 with ⟨h1, h2⟩ | ⟨g, cap, cur, h1, _⟩
  · simp only [Value.slice.injEq] at h1; omega
  · simp only [Value.slice.injEq] at h1; exact h1.2.1
theorem one4 (a b c d : Int) : ∀ u ∈ [Value.int .i64 a, .int .i64 b, .int .i64 c, .int .i64 d], u.oneCell' = true := by intro u hu; simp at hu; rcases hu with rfl | rfl | rfl | rfl <;> rfl
theorem news_four (w : World) (a b c d : Value) (t : TypeId) : ∀ (j : Nat) u, [a, b, c, d][j]? = some u → (w.alloc (.cells #[a, b, c, d] t)).cell? ((⟨w.heap.size, 0, none⟩ : Addr).add j) = some u := by
  intro j u hj
  rw [addr_plus]
  refine new_cell _ _ _ _ _ ?_
  simpa using hj
theorem sc_none {w : World} {o : Obj} {B : Nat} (h : B ≤ w.heap.size) : ScRow ((w.alloc o).alloc (.cells #[] 31)) B (.slice (some ⟨w.heap.size + 1, 0, none⟩) 0 0) [] := by
  have := World.ownsRow_lit (base := B) (e := 31) (size := 4) (w.alloc o) #[] 0 (by simp; omega) (by decide) rfl
  rw [show (w.alloc o).heap.size = w.heap.size + 1 by simp] at this
  exact this
theorem skip_head (a : List UInt8) : skipB a = true ↔ a = [] ∨ a.getD 0 0 = 35 := by
  cases a with
  | nil => simp [skipB]
  | cons x r => simp [skipB]
theorem scr_skip {ls : List (List UInt8)} {k : Nat} {acc : List ScI} (h : k < ls.length) (hs : skipB (ls.getD k []) = true) : scr (ls.drop k) k acc = scr (ls.drop (k + 1)) (k + 1) acc := by
  rw [drop_getD_cons h, scr, if_pos hs]
theorem scr_item {ls : List (List UInt8)} {k : Nat} {acc : List ScI} {it : ScI} (h : k < ls.length) (hs : skipB (ls.getD k []) = false) (hi : itemOf (cut 32 (ls.getD k [])) = some it) (ha : ¬ acc.length = 4000) : scr (ls.drop k) k acc = scr (ls.drop (k + 1)) (k + 1) (acc ++ [it]) := by
  rw [drop_getD_cons h, scr, if_neg (by rw [hs]; decide), hi]
  simp only []
  rw [if_neg ha]
theorem scr_wrong {ls : List (List UInt8)} {k : Nat} {acc : List ScI} (h : k < ls.length) (hs : skipB (ls.getD k []) = false) (hi : itemOf (cut 32 (ls.getD k [])) = none ∨ acc.length = 4000) : scr (ls.drop k) k acc = ([], (k : Int) + 1) := by
  rw [drop_getD_cons h, scr, if_neg (by rw [hs]; decide)]
  split
  · rfl
  · rename_i it he
    rcases hi with h2 | h2
    · rw [he] at h2; cases h2
    · rw [if_pos h2]

set_option maxRecDepth 100000 in
set_option maxHeartbeats 3200000 in
/-- A script read (the model's). -/
theorem specScript_any (s : ByteArray) (w : World) :
    Calls Tryd.prog 4 #[.string s] w fun e w' => ∃ v, e = .returned (.tuple #[v, .int .i64 (scrT (bl s)).2]) ∧ ScRow w' w.heap.size v (scrT (bl s)).1 ∧ Below w.heap.size w w' := by
  obtain ⟨i0, hi, hz0, hz1, hz2⟩ := info_parts Tryd.infoSc
  by_cases hbig : 30000 < s.size
  · have hbig' : (30000 : Int) < (s.size : Int) := by omega
    have E : Hid (scrT (bl s) = ([], -1)) := hid (by unfold scrT; rw [if_pos (by rw [bl_len]; exact hbig)])
    rw [E.out]
    clear hbig
    go_enter Tryd.func4, Tryd.ntmps4
    go_wp2
    go_ret2
    exact ⟨_, rfl, World.ownsRow_lit w #[] 0 (Nat.le_refl _) (by decide) rfl, below1 _ _⟩
  · have hbig' : ¬ (30000 : Int) < (s.size : Int) := by omega
    have E : Hid (scrT (bl s) = scr (cut 10 (bl s)) 0 []) := hid (by unfold scrT; rw [if_neg (by rw [bl_len]; exact hbig)])
    rw [E.out]
    have SP := hid (fun W => l5Split_any s 10 W (by omega))
    have LL : Hid ((cut 10 (bl s)).length ≤ 30001) := hid (by have := cut_len 10 (bl s); rw [bl_len] at this; omega)
    have LE : Hid (∀ f ∈ cut 10 (bl s), f.length ≤ 30000) := hid (fun f hf => by have := cut_each 10 (bl s) f hf; rw [bl_len] at this; omega)
    obtain ⟨ls, hls⟩ : ∃ l, l = cut 10 (bl s) := ⟨_, rfl⟩
    rw [← hls] at SP LL LE ⊢
    have SP' : Hid (∀ W, Calls Tryd.prog 9 #[.string s, .int .u8 10] W fun e w' => ∃ v, e = .returned v ∧ TxRow w' W.heap.size v ls ∧ Below W.heap.size W w') := hid SP.out
    clear hls E SP hbig
    go_enter Tryd.func4, Tryd.ntmps4
    go_wp2_with (go_at_call 9; with_reducible refine (SP'.out _).mono ?_; rintro e w1 ⟨lv, rfl, hl1, hb1⟩; obtain ⟨la, ln, lc, rfl⟩ := row_form hl1; have T1 := hid hl1; have B1 := hid hb1; clear hl1 hb1)
    have hln : ln = ls.length := (TxRow.strs T1.out).1.1.symm
    have hln2 : ln ≤ 30001 := by have := LL.out; omega
    have I1 := hid (ownsRow_below (World.ownsRow_lit (e := 31) (size := 4) w #[] 0 (Nat.le_refl _) (by decide) rfl) B1.out)
    have BB : Hid (Below w.heap.size w w1) := hid ((below1 w _).trans (B1.out.mono (by simp)))
    have T1' : Hid (TxRow w1 w.heap.size (.slice la ln lc) ls) := hid (row_base T1.out (by simp))
    have HLN := hid hln
    clear T1 B1 hln
    go_loopw [4, 17] (fun p i wr => ∃ (k : Nat) (acc : List ScI), k ≤ ln ∧ i = .int .i64 k ∧ Hid (scr ls 0 [] = scr (ls.drop k) k acc) ∧ Hid (acc.length ≤ k ∧ acc.length ≤ 4000) ∧ Hid (ScRow wr w.heap.size p acc) ∧ Hid (TxRow wr w.heap.size (.slice la ln lc) ls) ∧ Hid (Below w.heap.size w wr)) (fun _ i _ => ln - (intOf i).toNat)
    case atStart => exact ⟨0, [], Nat.zero_le _, rfl, hid (by simp), hid (by simp), I1, T1', BB⟩
    case round =>
      obtain ⟨k, acc, hk, rfl, hS, hA, hR, hT, hB⟩ := hrel
      obtain ⟨ia, im, ic, rfl⟩ := row_form hR.out
      by_cases hlt : k < ln
      · have hlt' : (k : Int) < (ln : Int) := by omega
        obtain ⟨b, off, rfl, hbl, hc⟩ := (TxRow.strs hT.out).1.2 (by omega)
        have c1 := hc k hlt
        have hkf : k < ls.length := by rw [← HLN.out]; exact hlt
        have hxl : (ls.getD k []).length ≤ 30000 := LE.out _ (by simp [List.getD_eq_getElem?_getD, hkf])
        have SK := hid (fun h => scr_skip (acc := acc) hkf h)
        have SI := hid (fun it h1 h2 h3 => scr_item (acc := acc) (it := it) hkf h1 h2 h3)
        have SW := hid (fun h1 h2 => scr_wrong (acc := acc) hkf h1 h2)
        obtain ⟨x, hx⟩ : ∃ x, x = ls.getD k [] := ⟨_, rfl⟩
        rw [← hx] at c1 hxl SK SI SW
        obtain ⟨t, ht⟩ : ∃ t : ByteArray, t = ⟨x.toArray⟩ := ⟨_, rfl⟩
        have c1' : wr.cell? ⟨b, off + k, none⟩ = some (.string t) := by rw [ht]; exact c1
        have hbt : x = bl t := ba_bl.1 ht.symm
        have hts : t.size ≤ 30000 := by rw [← bl_len, ← hbt]; exact hxl
        subst hbt
        clear c1 hc hx ht hxl hkf
        by_cases he : t.size = 0
        · have hte : t = ⟨#[]⟩ := by apply ByteArray.ext; exact Array.eq_empty_of_size_eq_zero he
          have Q := hid (SK.out (by rw [hte]; rfl))
          subst hte
          clear SK SI SW
          go_wp2
          go_roundw
          case rel => exact ⟨k + 1, acc, hlt, by go_num, hid (by rw [hS.out, Q.out]), hid (by have := hA.out; omega), hR, hT, hB⟩
          case measure => simp [intOf]; omega
        · have hp : 0 < t.size := by omega
          have hte : ¬ t = ⟨#[]⟩ := fun e => he (by rw [e]; rfl)
          have hte0 : ¬ t.toList = [] := by rw [ByteArray.toList_eq]; intro e; exact he (by rw [← bl_len]; show (t.data.toList).length = 0; rw [e]; rfl)
          have hte' : t.toList.isEmpty = false := by cases hq : t.toList with | nil => exact absurd hq hte0 | cons a r => rfl
          have hbg := bl_get t 0 hp
          by_cases h35 : t[0] = 35
          · have h35' : (t[0].toNat : Int) = 35 := by rw [h35]; rfl
            have Q := hid (SK.out ((skip_head _).2 (.inr (by rw [hbg]; exact h35))))
            clear SK SI SW hte he h35 hbg
            go_wp2
            go_roundw
            case rel => exact ⟨k + 1, acc, hlt, by go_num, hid (by rw [hS.out, Q.out]), hid (by have := hA.out; omega), hR, hT, hB⟩
            case measure => simp [intOf]; omega
          · have h35' : ((t[0].toNat : Int) == 35) = false := by simp; intro h; exact h35 (UInt8.toNat_inj.1 (by have : (35 : UInt8).toNat = 35 := rfl; omega))
            have SF : Hid (skipB (bl t) = false) := hid (by
              cases hq : skipB (bl t) with
              | false => rfl
              | true =>
                rcases (skip_head _).1 hq with h | h
                · exact absurd (by rw [← bl_len, h]; rfl) he
                · rw [hbg] at h; exact absurd h h35)
            have SP2 : Hid (∀ W, Calls Tryd.prog 9 #[.string t, .int .u8 32] W fun e w' => ∃ v, e = .returned v ∧ TxRow w' W.heap.size v (cut 32 (bl t)) ∧ Below W.heap.size W w') := hid (fun W => l5Split_any t 32 W (by omega))
            have FL : Hid ((cut 32 (bl t)).length ≤ 30001) := hid (by have := cut_len 32 (bl t); rw [bl_len] at this; omega)
            have FE : Hid (∀ f ∈ cut 32 (bl t), f.length ≤ 1048576) := hid (fun f hf => by have := cut_each 32 (bl t) f hf; rw [bl_len] at this; omega)
            have FN := hid (cut_ne 32 (bl t))
            have SI' := hid (fun it h2 h3 => SI.out it SF.out h2 h3)
            have SW' := hid (fun h2 => SW.out SF.out h2)
            obtain ⟨fs, hfs⟩ : ∃ fs, fs = cut 32 (bl t) := ⟨_, rfl⟩
            rw [← hfs] at SP2 FL FE FN SI' SW'
            have him := row_len hR.out
            subst him
            have HIL : acc.length ≤ 4000 := hA.out.2
            clear SK SI SW hte he h35 hbg hfs SF hte0
            cases hit : itemOf fs with
            | none =>
              have Q := hid (SW'.out (.inl hit))
              have IT : Hid (∀ (g n c : Nat) W, n + 1 ≤ 30001 → n + 1 ≤ c → StrsOf W (some ⟨g, 0, none⟩) (n + 1) fs → Calls Tryd.prog 10 #[.slice (some ⟨g, 0, none⟩) (n + 1) c] W fun e w' => (∃ x : ScI, e = .returned (.tuple #[.agg #[.int .i64 x.k, .int .i64 x.o, .int .i64 x.s, .int .i64 x.v], .bool false])) ∧ Below W.heap.size W w') := hid (fun g n c W h1 h2 h3 => (l5ScriptItem_any g 0 n c fs W (by omega) h2 FE.out h3).mono (by
                rintro e w' ⟨⟨x, h4, _⟩, h5⟩
                rw [hit] at h4
                exact ⟨⟨x, h4⟩, h5⟩))
              clear SI' SW' hit
              go_wp2_with (first
                | (go_at_call_of 9 (Value.string t); with_reducible refine (SP2.out _).mono ?_; rintro e w2 ⟨lv2, rfl, hl2, hb2⟩; obtain ⟨g2, n2, c2, rfl, hn2, hc2, hg2, hS2⟩ := TxRow.form hl2 FN.out; have T2 := hid hS2; have B2 := hid hb2; have N2 := hid (show n2 + 1 ≤ 30001 by rw [← hn2]; exact FL.out); have C2 := hid hc2; clear hl2 hb2 hn2 hS2 hc2)
                | (go_at_call 10; with_reducible refine (IT.out _ _ _ _ N2.out C2.out T2.out).mono ?_; rintro e w3 ⟨⟨x, rfl⟩, hb3⟩; have B3 := hid hb3; clear hb3))
              go_ret2
              rw [hS.out, Q.out]
              have BB3 : Below w.heap.size w w3 := (hB.out.trans (B2.out.mono hB.out.size)).trans (B3.out.mono (Nat.le_trans hB.out.size B2.out.size))
              exact ⟨.slice (some ⟨w3.heap.size + 1, 0, none⟩) 0 0, rfl, sc_none BB3.size, (BB3.alloc BB3.size _).alloc (by have := BB3.size; simp; omega) _⟩
            | some it =>
              have IT : Hid (∀ (g n c : Nat) W, n + 1 ≤ 30001 → n + 1 ≤ c → StrsOf W (some ⟨g, 0, none⟩) (n + 1) fs → Calls Tryd.prog 10 #[.slice (some ⟨g, 0, none⟩) (n + 1) c] W fun e w' => e = .returned (.tuple #[.agg #[.int .i64 it.k, .int .i64 it.o, .int .i64 it.s, .int .i64 it.v], .bool true]) ∧ Below W.heap.size W w') := hid (fun g n c W h1 h2 h3 => (l5ScriptItem_any g 0 n c fs W (by omega) h2 FE.out h3).mono (by
                rintro e w' ⟨⟨x, h4, h6⟩, h5⟩
                obtain rfl := h6 it hit
                rw [hit] at h4
                exact ⟨h4, h5⟩))
              by_cases h4 : acc.length = 4000
              · have h4' : (acc.length : Int) = 4000 := by omega
                have Q := hid (SW'.out (.inr h4))
                clear SI' SW' hit h4
                go_wp2_with (first
                  | (go_at_call_of 9 (Value.string t); with_reducible refine (SP2.out _).mono ?_; rintro e w2 ⟨lv2, rfl, hl2, hb2⟩; obtain ⟨g2, n2, c2, rfl, hn2, hc2, hg2, hS2⟩ := TxRow.form hl2 FN.out; have T2 := hid hS2; have B2 := hid hb2; have N2 := hid (show n2 + 1 ≤ 30001 by rw [← hn2]; exact FL.out); have C2 := hid hc2; clear hl2 hb2 hn2 hS2 hc2)
                  | (go_at_call 10; with_reducible refine (IT.out _ _ _ _ N2.out C2.out T2.out).mono ?_; rintro e w3 ⟨rfl, hb3⟩; have B3 := hid hb3; clear hb3))
                go_ret2
                rw [hS.out, Q.out]
                have BB3 : Below w.heap.size w w3 := (hB.out.trans (B2.out.mono hB.out.size)).trans (B3.out.mono (Nat.le_trans hB.out.size B2.out.size))
                exact ⟨.slice (some ⟨w3.heap.size + 1, 0, none⟩) 0 0, rfl, sc_none BB3.size, (BB3.alloc BB3.size _).alloc (by have := BB3.size; simp; omega) _⟩
              · have h4' : (acc.length : Int) < 4000 := by omega
                have Q := hid (SI'.out it hit h4)
                clear SI' SW' hit h4
                go_wp2_with (first
                  | (go_at_call_of 9 (Value.string t); with_reducible refine (SP2.out _).mono ?_; rintro e w2 ⟨lv2, rfl, hl2, hb2⟩; obtain ⟨g2, n2, c2, rfl, hn2, hc2, hg2, hS2⟩ := TxRow.form hl2 FN.out; have T2 := hid hS2; have B2 := hid hb2; have N2 := hid (show n2 + 1 ≤ 30001 by rw [← hn2]; exact FL.out); have C2 := hid hc2; clear hl2 hb2 hn2 hS2 hc2)
                  | (go_at_call 10; with_reducible refine (IT.out _ _ _ _ N2.out C2.out T2.out).mono ?_; rintro e w3 ⟨rfl, hb3⟩; have B3 := hid (B2.out.trans (hb3.mono B2.out.size)); clear hb3)
                  | (at_builtin; refine wpList_append_own _ rfl (.tmp 45) (.tmp 47) 22 rfl w.heap.size 31 i0 (.agg #[.int .i64 0, .int .i64 0, .int .i64 0, .int .i64 0]) 4 32 Tryd.underlying22 hi hz0 hz1 hz2 rfl (by decide) _ acc.length (scCells acc) rfl (ownsRow_below (ownsRow_below (ownsRow_below hR.out B3.out) (below1 _ _)) (below1 _ _)) ⟨w3.heap.size + 1, 0, none⟩ 1 1 [.int .i64 it.k, .int .i64 it.o, .int .i64 it.s, .int .i64 it.v] rfl rfl ?c1 (one4 _ _ _ _) (by unfold maxLen; omega) (by omega) ?c5 ?_))
                case c1 => simpa using news_four (w3.alloc (.cells #[.int .i64 it.k, .int .i64 it.o, .int .i64 it.s, .int .i64 it.v] 31)) _ _ _ _ _
                case c5 => have := hB.out.size; have := B3.out.size; simp; omega
                intro v' w4 hown' hgrow hnil
                obtain ⟨ao4, n4, cap4, rfl⟩ := row_form hown'
                have R4 : Hid (ScRow w4 w.heap.size (.slice ao4 n4 cap4) (acc ++ [it])) := hid (by unfold ScRow; rw [scCells_append]; simpa [scCells] using hown')
                have B34 := (below1 w3 (.cells #[.int .i64 it.k, .int .i64 it.o, .int .i64 it.s, .int .i64 it.v] 31))
                have BX : Below w.heap.size w (w3.alloc (.cells #[.int .i64 it.k, .int .i64 it.o, .int .i64 it.s, .int .i64 it.v] 31)) := (hB.out.trans (B3.out.mono hB.out.size)).alloc (Nat.le_trans hB.out.size B3.out.size) _
                have B4 := hid (below_grown BX (Nat.le_refl _) (ownsRow_below (ownsRow_below hR.out B3.out) B34) hgrow)
                have T4 := hid (row_grown (ownsRow_below (ownsRow_below (ownsRow_below hT.out B3.out) B34) (below1 _ _)) (ownsRow_below (ownsRow_below (ownsRow_below hR.out B3.out) B34) (below1 _ _)) (by decide) hgrow)
                clear hown' hgrow hnil B34 BX
                go_wp2
                go_roundw
                case rel => exact ⟨k + 1, acc ++ [it], hlt, by go_num, hid (by rw [hS.out, Q.out]), hid (by have := hA.out; simp; omega), R4, T4, B4⟩
                case measure => simp [intOf]; omega
      · have ek : k = ln := by omega
        subst ek
        have hA2 := hid hA.out
        rw [List.drop_of_length_le (by rw [HLN.out]; exact Nat.le_refl _)] at hS
        have E2 : Hid (scr ls 0 [] = (acc, 0)) := hid (by rw [hS.out]; rfl)
        go_wp2
        go_ret2
        rw [E2.out]
        exact ⟨_, rfl, hR.out, hB.out⟩
end Go.Proofs.YtcdcjpejlhcdnaaDoor
