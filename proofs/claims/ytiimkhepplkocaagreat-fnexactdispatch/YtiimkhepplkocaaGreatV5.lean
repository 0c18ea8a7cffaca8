import Derived.Test.YtiimkhepplkocaaGreatV4
namespace Go.Proofs.YtiimkhepplkocaaGreat
open Go.RowKit Go.Sort
attribute [local go_sem ↓] Go.wp_at_zero Go.wp_at_succ

theorem nodesR_len (l : LimD) : ∀ (ss : List StmD) (nodes : List Value), nodesR l ss = some nodes → nodes.length = ss.length := by
  intro ss
  induction ss with
  | nil => intro nodes h; simp [nodesR] at h; subst h; rfl
  | cons s r ih =>
    intro nodes h
    simp only [nodesR] at h
    cases h1 : nodeOf l s with
    | none => simp [h1] at h
    | some v =>
      cases h2 : nodesR l r with
      | none => simp [h1, h2] at h
      | some vs => simp [h1, h2] at h; subst h; simp [ih vs h2]
theorem nodesR_get (l : LimD) : ∀ (ss : List StmD) (nodes : List Value) (k : Nat), nodesR l ss = some nodes → k < ss.length → ∃ v, nodeOf l (ss.getD k stm0) = some v ∧ nodes[k]? = some v := by
  intro ss
  induction ss with
  | nil => intro nodes k _ hk; simp at hk
  | cons s r ih =>
    intro nodes k h hk
    simp only [nodesR] at h
    cases h1 : nodeOf l s with
    | none => simp [h1] at h
    | some v =>
      cases h2 : nodesR l r with
      | none => simp [h1, h2] at h
      | some vs =>
        simp [h1, h2] at h
        subst h
        cases k with
        | zero => exact ⟨v, by simpa using h1, rfl⟩
        | succ k => simpa using ih vs k h2 (by simpa using hk)
theorem execS_take (n : Int) (ks : List Int) (arg : Int) (vs : List Int) (ss : List StmD) (k : Nat) (hk : k < ss.length) : execS n ks arg vs (ss.take (k + 1)) = ((stepS n ks arg (execS n ks arg vs (ss.take k)).1 (ss.getD k stm0)).1, (execS n ks arg vs (ss.take k)).2 ++ (stepS n ks arg (execS n ks arg vs (ss.take k)).1 (ss.getD k stm0)).2) := by
  rw [takeS hk, execS_append]
  simp [execS]

set_option maxRecDepth 100000 in
set_option maxHeartbeats 4000000 in
theorem carryOutAll_any (l : LimD) (ss : List StmD) (nodes : List Value) (val : Value) (mb B : Nat) (ks vs : List Int) (arg : Int) (es : List EffD) (w : World) (hno : nodesR l ss = some nodes) (hl : l.v = vs.length) (hkv : ks.length = vs.length) (hk : ∀ i, i < ks.length → 1 ≤ ks.getD i 0 ∧ ks.getD i 0 ≤ 7)
    (he : es.length + ss.length ≤ 1000000) (hB : B ≤ w.heap.size) (hrow : w.ownsRow 0 212 1 val nodes.length nodes) (h : Mom w B mb ks vs arg es) :
    Calls Tryz.prog 68 #[.pointer (some ⟨mb, 0, none⟩), val] w fun e w' => e = .returned (.tuple #[]) ∧ Mom w' B mb ks (execS l.v ks arg vs ss).1 arg (es ++ (execS l.v ks arg vs ss).2) ∧ Stir B w w' := by
  have hnl := nodesR_len l ss nodes hno
  obtain ⟨n, hn⟩ : ∃ n, n = ss.length := ⟨_, rfl⟩
  obtain ⟨ao, c, rfl⟩ : ∃ ao c, val = .slice ao n c := by
    rcases hrow.2 with ⟨e, e0⟩ | ⟨g, cap, cur, e, _⟩
    · exact ⟨none, 0, by rw [e, hn, ← hnl, e0]⟩
    · exact ⟨_, cap, by rw [e, hn, ← hnl]⟩
  have NO := hid hno
  have NL := hid hnl
  have N := hid hn
  have ROW := hid hrow
  have HM := hid h
  have KV := hid hkv
  have HK := hid hk
  have HLV := hid hl
  have hn1 : n ≤ 1000000 := by omega
  clear hno hnl hrow h hkv hk hl hn
  go_enter Tryz.func68, Tryz.ntmps68
  go_wp2_with fail
  go_loopg [8] n (fun mm i wr => ∃ k : Nat, k ≤ n ∧ mm = n - k ∧ i = .int .i64 k ∧ Mom wr B mb ks (execS l.v ks arg vs (ss.take k)).1 arg (es ++ (execS l.v ks arg vs (ss.take k)).2) ∧ Stir B w wr)
  case atStart => exact ⟨0, Nat.zero_le _, by omega, rfl, by simpa [execS] using HM.out, Stir.refl _ _⟩
  case round =>
    obtain ⟨k, hk, rfl, rfl, hm, hst⟩ := hrel
    have MM := hid hm
    have ST := hid hst
    by_cases hlt : k < n
    · obtain ⟨v, hv, hvk⟩ := nodesR_get l ss nodes k NO.out (by rw [← N.out]; exact hlt)
      obtain ⟨y, x, f, rfl, hcm, hcall⟩ := carry_any hv mb
      have hr2 := hst.own ROW.out (by decide) (by decide) (by decide)
      rw [NL.out, ← N.out] at hr2
      obtain ⟨g, cap, e, _, _⟩ := World.ownsRow.form hr2 (by omega)
      simp only [Value.slice.injEq] at e
      obtain ⟨rfl, _, rfl⟩ := e
      have cn := World.ownsRow.cellAt hr2 k (by omega)
      rw [hvk] at cn
      have l2 := execS_len l.v ks arg (ss.take k) vs
      have e2 : (es ++ (execS l.v ks arg vs (ss.take k)).2).length ≤ 1000000 := by
        have h1 := l2.2
        have h2 := N.out
        simp only [List.length_append, List.length_take] at h1 ⊢
        omega
      have C := hid (hcall B ks (execS l.v ks arg vs (ss.take k)).1 arg (es ++ (execS l.v ks arg vs (ss.take k)).2) wr (by rw [l2.1]; exact HLV.out) (by rw [l2.1]; exact KV.out) HK.out e2 (Nat.le_trans hB hst.size) hm)
      have ET := hid (execS_take l.v ks arg vs ss k (by rw [← N.out]; exact hlt))
      have M2 : ∀ w : World, ((Sem.run Tryz.prog (method 434 y x "loop.example/s0063/impl.carryOut") w).andThen fun a w' => Sem.run Tryz.prog (callFunc a.fst #[a.snd, Value.pointer (some ⟨mb, 0, none⟩)]) w') = .ok (.enter f #[x, .pointer (some ⟨mb, 0, none⟩)]) w := fun w => by
        have := hcm w
        simpa [callMethod, cname, go_sem] using this
      have an : (k : Int) < (n : Int) := by omega
      clear hm hst hv hvk hcm hcall hr2 l2 e2
      go_wp2_with (refine C.out.mono ?_; rintro e w6 ⟨rfl, hm6, hs6⟩; have M6 := hid hm6; have S6 := hid hs6; clear hm6 hs6)
      go_roundg (n - (k + 1))
      case measure => omega
      case rel =>
        refine ⟨k + 1, by omega, rfl, by go_num, ?_, ST.out.trans S6.out⟩
        rw [ET.out, ← List.append_assoc]
        exact M6.out
    · have e : k = n := by omega
      subst e
      clear hm hst
      go_wp2
      go_end0
      have := N.out
      rw [show ss.take k = ss by rw [this]; exact List.take_length] at MM
      exact ⟨rfl, MM.out, ST.out⟩
end Go.Proofs.YtiimkhepplkocaaGreat
