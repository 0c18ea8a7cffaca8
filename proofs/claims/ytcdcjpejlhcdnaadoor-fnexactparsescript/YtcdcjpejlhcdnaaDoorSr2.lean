import Derived.Test.YtcdcjpejlhcdnaaDoorSr1
import Derived.Deep.AppendLies
import Derived.Deep.LoopGhost
import Derived.Deep.DeepCutAuto
import Derived.Deep.RegionHeld3
import Derived.Deep.RegionLaw
namespace Go.Proofs.YtcdcjpejlhcdnaaDoor
open Go.RowKit Go.Sort
set_option linter.unusedVariables false
attribute [local go_sem ↓] Go.wp_at_zero Go.wp_at_succ

abbrev bl (s : ByteArray) : List UInt8 := s.data.toList
theorem bl_len (s : ByteArray) : (bl s).length = s.size := Array.length_toList
theorem bl_get (s : ByteArray) (k : Nat) (h : k < s.size) : (bl s).getD k 0 = s[k] := by
  have h' : k < s.data.size := h
  rw [List.getD_eq_getElem?_getD, Array.getElem?_toList, Array.getElem?_eq_getElem h']
  rfl
theorem ext_is (s : ByteArray) (b i : Nat) (h : i ≤ s.size) : s.extract b i = ⟨(((bl s).drop b).take (i - b)).toArray⟩ := by
  apply ba_of
  rw [ByteArray.data_extract]
  simp [List.extract_eq_take_drop]
theorem Tryd.infoStr : (Tryd.prog.info? 9).map (fun i => (i.zero, i.size, i.bytes)) = some (some (.string ⟨#[]⟩), 1, 16) := by kernel_rfl
/-- A list of texts of the call's own. -/
abbrev TxRow (w : World) (B : Nat) (v : Value) (fs : List (List UInt8)) : Prop := w.ownsRow B 9 1 v fs.length (fs.map tx)
theorem row_form {w : World} {B : Nat} {e : TypeId} {size : Nat} {v : Value} {n : Nat} {xs : List Value} (h : w.ownsRow B e size v n xs) : ∃ ao n' cap, v = .slice ao n' cap := by
  rcases h.2 with ⟨hv, _⟩ | ⟨g, cap, cur, hv, _⟩
  · exact ⟨_, _, _, hv⟩
  · exact ⟨_, _, _, hv⟩

theorem news_one (w : World) (x : Value) (t : TypeId) (hx : x.oneCell' = true) : ∀ (j : Nat) u, [x][j]? = some u → (w.alloc (.cells #[x] t)).cell? ((⟨w.heap.size, 0, none⟩ : Addr).add j) = some u := by
  intro j u hj
  match j, hj with
  | 0, hj => simp at hj; subst hj; simp [Addr.add]
theorem one_tx (l : List UInt8) : ∀ u ∈ [tx l], u.oneCell' = true := by intro u hu; simp at hu; subst hu; rfl
/-- Behind an append to a row of the call's own. -/
theorem below_grown {B : Nat} {w0 w w2 : World} {e : TypeId} {size n : Nat} {v : Value} {xs : List Value} {o : Obj} (hb : Below B w0 w) (hB : B ≤ w0.heap.size) (h : w.ownsRow B e size v n xs) (hg : (w.alloc o).grownBy w2 v.ownBlock) : Below B w0 w2 := by
  refine hb.trans (((Below.refl B w).alloc (Nat.le_trans hB hb.size) o).grown hg (by have := hb.size; simp; omega) (fun k hk => (h.lt k hk).1))

set_option maxRecDepth 100000 in
set_option maxHeartbeats 1600000 in
theorem l5Split_any (s : ByteArray) (c : UInt8) (w : World) (hs : s.size ≤ 1048576) :
    Calls Tryd.prog 9 #[.string s, .int .u8 c.toNat] w fun e w' => ∃ v, e = .returned v ∧ TxRow w' w.heap.size v (cut c (bl s)) ∧ Below w.heap.size w w' := by
  obtain ⟨i0, hi, hz0, hz1, hz2⟩ := info_parts Tryd.infoStr
  go_enter Tryd.func9, Tryd.ntmps9
  go_wp2
  go_loopw [5, 6, 7] (fun p f i wr => ∃ (b k : Nat) (fs : List (List UInt8)), k ≤ s.size ∧ b ≤ k ∧ f = .int .i64 b ∧ i = .int .i64 k ∧ Hid (PartsAt c (bl s) fs b k) ∧ Hid (TxRow wr w.heap.size p fs) ∧ Hid (Below w.heap.size w wr)) (fun _ _ i _ => s.size - (intOf i).toNat)
  case atStart => exact ⟨0, 0, [], Nat.zero_le _, Nat.le_refl _, rfl, rfl, hid (PartsAt.start _ _), hid (World.ownsRow_lit w #[] 0 (Nat.le_refl _) (by decide) rfl), hid (below1 _ _)⟩
  case round =>
    obtain ⟨b, k, fs, hk, hbk, rfl, rfl, hP, hT, hB⟩ := hrel
    have hl := hid (bl_len s)
    have hfl := hid hP.out.len
    obtain ⟨ao, n', cap, rfl⟩ := row_form hT.out
    by_cases hlt : k < s.size
    · have hlt' : (k : Int) < (s.size : Int) := by omega
      have hg := hid (bl_get s k hlt)
      by_cases hc : s[k] = c
      · have hc' : ((s[k].toNat : Int) == (c.toNat : Int)) = true := by simp [hc]
        have E := ext_is s b k hk
        have HC := hid hc
        have Q := hid (hP.out.part (by rw [hl.out]; exact hlt) (by rw [hg.out]; exact hc))
        obtain ⟨x, hx⟩ : ∃ x, x = ((bl s).drop b).take (k - b) := ⟨_, rfl⟩
        rw [← hx] at E Q
        have HB := hid (show fs.length + 1 ≤ 1048577 by have := hfl.out; have := hl.out; omega)
        clear hc hx hP hfl hl hg
        go_wp2_with (at_builtin; refine wpList_append_own _ rfl (.tmp 20) (.tmp 25) 28 rfl w.heap.size 9 i0 (.string ⟨#[]⟩) 1 16 Tryd.underlying28 hi hz0 hz1 hz2 rfl (by decide) _ fs.length (fs.map tx) rfl (ownsRow_below hT.out (below1 _ _)) ⟨wr.heap.size, 0, none⟩ 1 1 [tx x] rfl rfl (news_one wr _ _ rfl) (one_tx x) (by have := HB.out; unfold maxLen; omega) (by have := HB.out; omega) (by have := hB.out.size; simp; omega) ?_)
        intro v' w2 hown' hgrow hnil
        obtain ⟨ao2, n2, cap2, rfl⟩ := row_form hown'
        have T2 : Hid (TxRow w2 w.heap.size (.slice ao2 n2 cap2) (fs ++ [x])) := hid (by unfold TxRow; simpa using hown')
        have B2 := hid (below_grown hB.out (Nat.le_refl _) hT.out hgrow)
        clear hown' hgrow hnil
        go_wp2
        go_roundw
        case rel => exact ⟨k + 1, k + 1, fs ++ [x], hlt, Nat.le_refl _, by go_num, by go_num, Q, T2, B2⟩
        case measure => simp [intOf]; omega
      · have hc' : ((s[k].toNat : Int) == (c.toNat : Int)) = false := by simp; intro h; exact hc (UInt8.toNat_inj.1 (by exact_mod_cast h))
        have HC := hid hc
        clear hc
        go_wp2
        go_roundw
        case rel => exact ⟨b, k + 1, fs, hlt, by omega, rfl, by go_num, hid (hP.out.next (by rw [hl.out]; exact hlt) (by rw [hg.out]; exact HC.out)), hT, hB⟩
        case measure => simp [intOf]; omega
    · have ek : k = s.size := by omega
      have E := ext_is s b s.size (Nat.le_refl _)
      subst ek
      have Q := hid (hP.out.last hl.out.symm)
      obtain ⟨x, hx⟩ : ∃ x, x = ((bl s).drop b).take (s.size - b) := ⟨_, rfl⟩
      rw [← hx] at E Q
      have HB := hid (show fs.length + 1 ≤ 1048577 by have := hfl.out; have := hl.out; omega)
      clear hx hP hfl hl
      go_wp2_with (at_builtin; refine wpList_append_own _ rfl (.tmp 29) (.tmp 33) 28 rfl w.heap.size 9 i0 (.string ⟨#[]⟩) 1 16 Tryd.underlying28 hi hz0 hz1 hz2 rfl (by decide) _ fs.length (fs.map tx) rfl (ownsRow_below hT.out (below1 _ _)) ⟨wr.heap.size, 0, none⟩ 1 1 [tx x] rfl rfl (news_one wr _ _ rfl) (one_tx x) (by have := HB.out; unfold maxLen; omega) (by have := HB.out; omega) (by have := hB.out.size; simp; omega) ?_)
      intro v' w2 hown' hgrow hnil
      obtain ⟨ao2, n2, cap2, rfl⟩ := row_form hown'
      have T2 : Hid (TxRow w2 w.heap.size (.slice ao2 n2 cap2) (fs ++ [x])) := hid (by unfold TxRow; simpa using hown')
      have B2 := hid (below_grown hB.out (Nat.le_refl _) hT.out hgrow)
      rw [Q.out] at T2
      clear hown' hgrow hnil
      go_wp2
      go_ret
      exact ⟨_, rfl, T2.out, B2.out⟩
end Go.Proofs.YtcdcjpejlhcdnaaDoor
