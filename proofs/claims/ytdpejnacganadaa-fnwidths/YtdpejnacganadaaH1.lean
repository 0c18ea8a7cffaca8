import Derived.Test.YtdpejnacganadaaF3
import Derived.Laws.OwnMore
namespace Go.Proofs.Ytdpejnacganadaa
open Go.RowKit Go.Sort

/-- A list of numbers that the call itself made. -/
def Own (w : World) (base : Nat) (v : Value) (zs : List Int) : Prop := w.ownsRow base 3 1 v zs.length (zs.map (Value.int .i64)) ∧ v ≠ .slice none 0 0

theorem Own.form {w : World} {base : Nat} {v : Value} {zs : List Int} (h : Own w base v zs) : ∃ g cap, v = .slice (some ⟨g, 0, none⟩) zs.length cap ∧ base ≤ g ∧ g < w.heap.size := by
  rcases h.1.2 with ⟨e, _⟩ | ⟨g, cap, cur, e, hb, hh, _⟩
  · exact absurd e h.2
  · exact ⟨g, cap, e, hb, lt_of_block hh⟩

theorem Own.slice {w : World} {base : Nat} {zs : List Int} {ao : Option Addr} {n cap : Nat} (h : Own w base (.slice ao n cap) zs) : SliceOf w ao n zs := by
  obtain ⟨g, cap', e, hb, hg⟩ := h.form
  simp only [Value.slice.injEq] at e
  obtain ⟨rfl, rfl, rfl⟩ := e
  refine ⟨rfl, fun _ => ⟨g, 0, rfl, hg, fun i hi => ?_⟩⟩
  have := h.1.cellAt i (by omega)
  rw [Nat.zero_add, this]
  simp [hi, List.getD]

set_option maxHeartbeats 400000 in
theorem copyInts_any (b off n c : Nat) (zs : List Int) (w : World) (hn : n ≤ 1048576) (hs : SliceOf w (some ⟨b, off, none⟩) n zs) :
    Calls Try.prog 61 #[.slice (some ⟨b, off, none⟩) n c] w fun e w' => ∃ v, e = .returned v ∧ Own w' w.heap.size v zs ∧ Below w.heap.size w w' := by
  obtain ⟨i0, hi, hz0, hz1, hz2⟩ := info_parts Try.info3
  have HS := hid hs
  have HL := hid hs.1
  clear hs
  go_enter Try.func61, Try.ntmps61
  go_wp2_with (at_builtin; refine wpList_append_own _ rfl (.tmp 3) (.tmp 4) 24 rfl w.heap.size 3 i0 (.int .i64 0) 1 8 Try.underlying24 hi hz0 hz1 hz2 rfl (by decide) _ 0 [] rfl ?c0 ⟨b, off, none⟩ n c (zs.map (Value.int .i64)) rfl ?c6 ?c1 ?c2 ?c3 ?c4 ?c5 ?_)
  case c0 => exact World.ownsRow_lit w #[] 0 (Nat.le_refl _) (by decide) rfl
  case c6 => simp [HL.out]
  case c1 =>
    intro j u hj
    have hj' : j < n := by have := (List.getElem?_eq_some_iff.1 hj).1; simp [HL.out] at this; exact this
    obtain ⟨b', off', e, hlt, hc⟩ := HS.out.2 (by omega)
    simp only [Option.some.injEq, Addr.mk.injEq] at e
    obtain ⟨rfl, rfl, _⟩ := e
    have h1 := (List.getElem?_eq_some_iff.1 hj).2
    simp only [List.getElem_map] at h1
    rw [← h1]
    rw [show (⟨b, off, none⟩ : Addr).add j = ⟨b, off + j, none⟩ by simp [Addr.add]]
    rw [((below1 w (.cells #[] 3)).cell (p := ⟨b, off + j, none⟩) hlt).trans (hc j hj')]
    simp [List.getD, HL.out, hj']
  case c2 => intro u hu; simp at hu; obtain ⟨z, _, rfl⟩ := hu; rfl
  case c3 => unfold maxLen; omega
  case c4 => omega
  case c5 => simp
  · intro v' w1 hown' hgrow hnil
    have O := hid hown'
    have G := hid hgrow
    have N := hid hnil
    clear hown' hgrow hnil
    go_wp2
    go_ret
    exact ⟨_, rfl, ⟨by rw [HL.out]; simpa using O.out, by simpa using N.out⟩, (below1 _ _).grown G.out (by simp) (fun k hk => by simp [Value.ownBlock] at hk; omega)⟩
end Go.Proofs.Ytdpejnacganadaa
