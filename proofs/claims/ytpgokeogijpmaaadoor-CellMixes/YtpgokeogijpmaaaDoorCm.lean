/-
  taskmilllaw.CellMixes, put together.
-/
import Derived.Test.YtpgokeogijpmaaaDoorCl
namespace Go.Proofs.YtpgokeogijpmaaaDoor.Mx
open Go.RowKit

set_option maxRecDepth 100000 in
set_option maxHeartbeats 4000000 in
theorem mixes_all (w : World) (a0 : Option Addr) (m c0 : Nat) (at1 : Option Addr) (n ct : Nat) (ap : Option Addr) (p cp : Nat) (zs : List Int) (uts : List Sl) (tss : List (List Op4)) (ps : List Int) (hmem : IsInts w (.slice a0 m c0) zs) (hmm : zs.length = m) (hm8 : m * 8 ≤ 140737488355328) (hT : IsTs w (.slice at1 n ct) uts tss) (hP : IsL KI w (.slice ap p cp) ps) (hp8 : p * 8 ≤ 140737488355328) : Calls Tryd.prog 4 #[.slice a0 m c0, .slice at1 n ct, .slice ap p cp] w fun e w' => e = .returned (.bool true) ∧ Below w.heap.size w w' := by
  by_cases hn : 1000 < n
  · exact mixes_vast w a0 m c0 at1 n ct ap p cp fun W _ => vast_big W at1 n ct hn
  by_cases hv : ∃ i, i < n ∧ 10000 < (tss.getD i []).length
  · exact mixes_vast w a0 m c0 at1 n ct ap p cp fun W hW => vast_any W at1 n ct uts tss hn (hT.below hW) true ⟨fun _ => hv, fun _ => rfl⟩
  have hV : ∀ W, Below w.heap.size w W → Calls Tryd.prog 18 #[.slice at1 n ct] W fun e w' => e = .returned (.bool false) ∧ Below W.heap.size W w' := fun W hW => vast_any W at1 n ct uts tss hn (hT.below hW) false ⟨fun h => (by cases h), fun h => absurd h hv⟩
  have hl : ∀ i, i < n → (tss.getD i []).length ≤ 10000 := fun i hi => Nat.le_of_not_lt fun h => hv ⟨i, hi, h⟩
  have hlp : ps.length = p := hP.len
  have hmL : m ≤ maxLen := by unfold maxLen; omega
  have hlL : ∀ i, i < n → (tss.getD i []).length ≤ maxLen := fun i hi => by have := hl i hi; unfold maxLen; omega
  have hO1 : ∀ W, Below w.heap.size w W → Calls Tryd.prog 9 #[.slice a0 m c0] W fun e w' => ∃ a' c', e = .returned (.slice a' m c') ∧ IsInts w' (.slice a' m c') zs ∧ Below W.heap.size W w' := fun W hW => by
    refine (own_any W (.slice a0 m c0) zs.length _ (Rd.below hmem hW) (ints_one zs) (by omega)).mono ?_
    rintro e w' ⟨v', rfl, h2, h3⟩
    have h4 := ints_isl h2
    obtain ⟨a', c', rfl⟩ := h4.form
    rw [hmm] at h4 ⊢
    exact ⟨a', c', rfl, isl_ints h4.isl, h3⟩
  have hO2 : ∀ W, Below w.heap.size w W → Calls Tryd.prog 9 #[.slice ap p cp] W fun e w' => ∃ a' c', e = .returned (.slice a' p c') ∧ IsL KI w' (.slice a' p c') ps ∧ Below W.heap.size W w' := fun W hW => by
    refine (own_any W (.slice ap p cp) ps.length _ (isl_ints (hP.below hW)) (ints_one ps) (by omega)).mono ?_
    rintro e w' ⟨v', rfl, h2, h3⟩
    have h4 := ints_isl h2
    obtain ⟨a', c', rfl⟩ := h4.form
    rw [hlp] at h4 ⊢
    exact ⟨a', c', rfl, h4.isl, h3⟩
  have hTF : ∀ W, Below w.heap.size w W → Calls Tryd.prog 21 #[.slice a0 m c0, .slice at1 n ct] W fun e w' => e = .returned (.agg #[.int .i64 (tasksF m tss).1, .int .i64 (tasksF m tss).2]) ∧ Below W.heap.size W w' := fun W hW => tasksFault_any W a0 m c0 at1 n ct uts tss (by omega) (hT.below hW) hmL (fun i hi => by have := hl i hi; omega)
  have hSf : ∀ u v, mixF m n tss ps = (u, v) → u ≠ 0 → ∀ W a' c' a'' c'', Below w.heap.size w W → IsInts W (.slice a' m c') zs → IsL KI W (.slice a'' p c'') ps → Calls Tryd.prog 19 #[.slice a' m c', .slice at1 n ct, .slice a'' p c''] W fun e w' => ∃ x7 x8, e = .returned (.tuple #[x7, x8, .agg #[.int .i64 u, .int .i64 v]]) ∧ (fun (_ : World) x7 x8 => x7 = Value.slice none 0 0 ∧ x8 = Value.slice none 0 0) w' x7 x8 ∧ Below W.heap.size W w' := fun u v hf hu W a' c' a'' c'' hW _ h2 => by
    refine (mix_fault W a' m c' at1 n ct a'' p c'' uts tss ps (hT.below hW) hmL hlL h2 u v hf hu).mono ?_
    rintro e w' ⟨rfl, hb⟩
    exact ⟨_, _, rfl, ⟨rfl, rfl⟩, hb⟩
  by_cases h1 : 64 < n
  · refine mixes_n w a0 m c0 at1 n ct ap p cp zs ps tss 2 0 (fun _ x7 x8 => x7 = .slice none 0 0 ∧ x8 = .slice none 0 0) (2, 0) (fun _ _ _ _ h _ => h) h1 hV hO1 hO2 (hSf 2 0 (by unfold mixF; rw [if_pos (Or.inl h1)]) (by decide)) hTF hP (Or.inl ⟨by decide, rfl⟩) ?_
    intros
    rename_i x7 x8 R9 R W' b r hc hb h9 hR hY
    obtain ⟨rfl, rfl⟩ := hY
    exact mixes_fault w _ at1 n ct ap p cp R9 R 2 0 (by decide) W' hb h9 hR b r hc
  by_cases h2 : 5000 < p
  · refine mixes_p w a0 m c0 at1 n ct ap p cp zs ps tss 2 0 (fun _ x7 x8 => x7 = .slice none 0 0 ∧ x8 = .slice none 0 0) (2, 0) (fun _ _ _ _ h _ => h) h1 h2 hV hO1 hO2 (hSf 2 0 (by unfold mixF; rw [if_pos (Or.inr (by omega))]) (by decide)) hTF hP (Or.inl ⟨by decide, rfl⟩) ?_
    intros
    rename_i x7 x8 R9 R W' b r hc hb h9 hR hY
    obtain ⟨rfl, rfl⟩ := hY
    exact mixes_fault w _ at1 n ct ap p cp R9 R 2 0 (by decide) W' hb h9 hR b r hc
  obtain ⟨⟨u, v⟩, hf⟩ : ∃ q, mixF m n tss ps = q := ⟨_, rfl⟩
  have hf' : (((tasksF m tss).1 ≠ 0 ∧ (u, v) = tasksF m tss) ∨ (tasksF m tss = (0, 0) ∧ pickF n ps p 0 = (u, v))) := by
    have := hf
    unfold mixF at this
    rw [if_neg (by omega), hlp] at this
    by_cases h3 : (tasksF m tss).1 ≠ 0
    · rw [if_pos h3] at this
      exact Or.inl ⟨h3, this.symm⟩
    · rw [if_neg h3] at this
      exact Or.inr ⟨tasksF_zero (by omega), this⟩
  by_cases hu : u ≠ 0
  · refine mixes_t w a0 m c0 at1 n ct ap p cp zs ps tss u v (fun _ x7 x8 => x7 = .slice none 0 0 ∧ x8 = .slice none 0 0) (u, v) (fun _ _ _ _ h _ => h) h1 h2 hV hO1 hO2 (hSf u v hf hu) hTF hP hf' ?_
    intros
    rename_i x7 x8 R9 R W' b r hc hb h9 hR hY
    obtain ⟨rfl, rfl⟩ := hY
    exact mixes_fault w _ at1 n ct ap p cp R9 R u v hu W' hb h9 hR b r hc
  have hu0 : u = 0 := by omega
  subst hu0
  rcases hf' with ⟨h3, h4⟩ | ⟨h3, h4⟩
  · rw [← h4] at h3
    exact absurd rfl h3
  have h5 := pickF_none (n := n) (ps := ps) p 0 (by rw [h4])
  have hv0 : v = 0 := by
    have := h4.symm.trans h5.1
    injection this
  subst hv0
  have hlt : tss.length = n := by have := hT.len; have := hT.row.len; omega
  have hfa : ∀ i, i < n → fault m (tss.getD i []) = (0, 0) := fun i hi => tasksF_none h3 i (by omega)
  have hin : ∀ j, j < p → 0 ≤ ps.getD j 0 ∧ ps.getD j 0 < n := fun j hj => h5.2 j (Nat.zero_le _) (by omega)
  obtain ⟨⟨ZF, tF⟩, hA⟩ : ∃ q, mixAll tss ps (zs, List.replicate n []) = q := ⟨_, rfl⟩
  refine mixes_t w a0 m c0 at1 n ct ap p cp zs ps tss 0 0 (fun W x7 x8 => ∃ wm G9 B9 Rm Bm us9, x8 = .slice (some ⟨G9, 0, none⟩) n n ∧ Mi wm W B9 Rm Bm G9 n m x7 ZF us9 tF) (0, 0) ?_ h1 h2 hV hO1 hO2 ?_ hTF hP (Or.inr ⟨h3, h4⟩) ?_
  · rintro W W' x7 x8 ⟨wm, G9, B9, Rm, Bm, us9, e, hM⟩ hb
    exact ⟨wm, G9, B9, Rm, Bm, us9, e, hM.keep hb⟩
  · intro W a' c' a'' c'' hW hi hp
    refine (mix_ok W a' m c' at1 n ct a'' p c'' zs uts tss ps (by omega) (by omega) hi hmm (hT.below hW) hm8 hfa hp hin ZF tF hA).mono ?_
    rintro e w' ⟨v9, G, B, R, Bm, us, rfl, hM⟩
    exact ⟨_, _, rfl, ⟨W, G, B, R, Bm, us, rfl, hM⟩, hM.be⟩
  · intros
    rename_i x7 x8 R9 R W' b r hc hb h9 hR hY
    obtain ⟨wm, G9, B9, Rm, Bm, us9, rfl, hM⟩ := hY
    exact mixes_ok w a0 m c0 zs at1 n ct ap p cp x7 G9 R9 R uts tss ps (by omega) (by omega) hm8 hmem hmm hT hfa hP hin ZF tF hA wm W' hb h9 hR B9 Rm Bm us9 hM b r hc

end Go.Proofs.YtpgokeogijpmaaaDoor.Mx
