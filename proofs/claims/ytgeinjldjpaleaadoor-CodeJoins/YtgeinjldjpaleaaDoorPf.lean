/-
  taskmilllaw.CodeJoins returns true.
-/
import Derived.Test.YtgeinjldjpaleaaDoorPd
import Derived.Test.YtgeinjldjpaleaaDoorPe
namespace Go.Proofs.YtgeinjldjpaleaaDoor
open Go.RowKit

theorem parse_len : ∀ (n : Nat) (t : List UInt8) (acc : List In) (j : Nat), (parseL n t acc j).1.length ≤ acc.length + t.length
  | 0, _, _, _ => by simp [parseL]
  | n + 1, t, acc, j => by
    unfold parseL
    by_cases h0 : t = []
    · rw [if_pos h0]; simp
    · rw [if_neg h0]
      by_cases hk : (enOf t && lineOk (lnOf t)) = true
      · rw [if_pos hk]
        have he : enOf t = true := by
          cases hq : enOf t
          · rw [hq] at hk; cases hk
          · rfl
        have h1 := (cut_small t he).1
        have := parse_len n (rsOf t) (acc ++ [lineI (lnOf t)]) (j + 1)
        rw [List.length_append] at this
        simp at this
        omega
      · rw [if_neg hk]; simp
theorem parse_at : ∀ (n : Nat) (t : List UInt8) (acc : List In) (j : Nat), 0 ≤ (parseL n t acc j).2.2 ∧ (parseL n t acc j).2.2 ≤ j + t.length
  | 0, _, _, _ => by simp [parseL]; omega
  | n + 1, t, acc, j => by
    unfold parseL
    by_cases h0 : t = []
    · rw [if_pos h0]; simp; omega
    · rw [if_neg h0]
      by_cases hk : (enOf t && lineOk (lnOf t)) = true
      · rw [if_pos hk]
        have he : enOf t = true := by
          cases hq : enOf t
          · rw [hq] at hk; cases hk
          · rfl
        have h1 := (cut_small t he).1
        have := parse_at n (rsOf t) (acc ++ [lineI (lnOf t)]) (j + 1)
        omega
      · rw [if_neg hk]; simp; omega

theorem joins_walk (w : World) (ht : Tabs w) (hl : Libs w) (a b : ByteArray) (ha : a.size ≤ 140737488355328) (hb : b.size ≤ 140737488355328) :
    Calls Tryd.prog 6 #[.string a, .string b] w fun e w' => e = .returned (.bool true) ∧ Below w.heap.size w w' := by
  by_cases h : 20000 < a.size + b.size
  · exact joins_long w ht a b ha hb h
  have sa : a.data.toList.length = a.size := rfl
  have sb : b.data.toList.length = b.size := rfl
  have sab : (a ++ b).data.toList = a.data.toList ++ b.data.toList := by simp
  have sab2 : (a ++ b).size = a.size + b.size := by simp
  obtain ⟨⟨XL, F0, F1⟩, eX⟩ : ∃ R, parseL (a.size + 1) a.data.toList [] 0 = R := ⟨_, rfl⟩
  obtain ⟨⟨YL, G0, G1⟩, eY⟩ : ∃ R, parseL (b.size + 1) b.data.toList [] 0 = R := ⟨_, rfl⟩
  obtain ⟨⟨ZL, H0, H1⟩, eZ⟩ : ∃ R, parseL ((a ++ b).size + 1) (a ++ b).data.toList [] 0 = R := ⟨_, rfl⟩
  have lX := parse_len (a.size + 1) a.data.toList [] 0
  have lY := parse_len (b.size + 1) b.data.toList [] 0
  have tY := parse_at (b.size + 1) b.data.toList [] 0
  rw [eX] at lX
  rw [eY] at lY tY
  simp at lX lY tY
  have lX' : XL.length ≤ a.size := lX
  have lY' : YL.length ≤ b.size := lY
  rcases parse_code (a.size + 1) a.data.toList [] 0 with ⟨c1, c2⟩ | ⟨c1, c2⟩
  · rw [eX] at c1 c2
    simp only [Prod.mk.injEq] at c1 c2
    obtain ⟨rfl, rfl⟩ := c2
    have hj := join_ok b.data.toList (a.size + 1) a.data.toList [] (by omega) (by rw [show ([] : List In).length = 0 from rfl, eX]) ((a ++ b).size + 1) (by rw [← sab]; exact Nat.lt_succ_self _)
    rw [show ([] : List In).length = 0 from rfl, eX, ← sab, eZ] at hj
    have hsh := parse_shift XL (b.data.toList.length + 1) b.data.toList [] 0
    rw [List.append_nil, sb, eY] at hsh
    rw [sb] at hj
    simp only [Nat.add_zero] at hsh
    simp only at hj
    rw [hsh] at hj
    rcases parse_code (b.size + 1) b.data.toList [] 0 with ⟨d1, d2⟩ | ⟨d1, d2⟩
    · rw [eY] at d1 d2
      simp only [Prod.mk.injEq] at d1 d2
      obtain ⟨rfl, rfl⟩ := d2
      simp at hj
      obtain ⟨rfl, rfl, rfl⟩ := hj
      exact joins_fine w ht hl a b h XL YL (by rw [List.length_append]; omega) eX eY eZ
    · rw [eY] at d1 d2
      simp only at d1 d2
      subst d1 d2
      simp at hj
      obtain ⟨rfl, rfl, rfl⟩ := hj
      exact joins_second w ht hl a b h XL [] [] 1 G1 (by decide) (by omega) (by omega) (by omega) eX eY eZ
  · rw [eX] at c1 c2
    simp only at c1 c2
    subst c1 c2
    by_cases hs : H0 = 1 ∧ H1 = F1
    · obtain ⟨rfl, rfl⟩ := hs
      exact joins_same w ht hl a b h [] YL ZL H1 G0 G1 eX eY eZ
    · rcases join_bad b.data.toList (a.size + 1) a.data.toList [] 0 (by omega) (by rw [eX]; simp) with ⟨x, hx, hx10⟩ | hr
      · have hp0 : 0 < a.size := by
          cases hq : a.data.toList with
          | nil => rw [hq] at hx; cases hx
          | cons y l => rw [← sa, hq]; simp
        have hp : a.size - 1 < a.size := by omega
        have hxx : (a[a.size - 1]'hp) = x := by
          have h2 : a.data.toList[a.size - 1]? = some x := by rw [← sa, ← List.getLast?_eq_getElem?]; exact hx
          have h3 : a.data[a.size - 1]? = some x := by simpa using h2
          exact (Array.getElem?_eq_some_iff.1 h3).2
        have hx11 : ¬ (a[a.size - 1]'hp).toNat = 10 := by
          rw [hxx]
          intro e
          exact hx10 (UInt8.toNat_inj.1 e)
        rcases parse_code ((a ++ b).size + 1) (a ++ b).data.toList [] 0 with ⟨k1, k2⟩ | ⟨k1, k2⟩
        · rw [eZ] at k1 k2
          simp only [Prod.mk.injEq] at k1 k2
          obtain ⟨rfl, rfl⟩ := k2
          exact joins_last0 w ht hl a b h [] YL ZL F1 G0 G1 hp0 hp _ rfl hx11 eX eY eZ
        · rw [eZ] at k1 k2
          simp only at k1 k2
          subst k1 k2
          exact joins_last1 w ht hl a b h [] YL [] F1 G0 G1 H1 (fun e => hs ⟨rfl, e⟩) hp0 hp _ rfl hx11 eX eY eZ
      · have := hr ((a ++ b).size + 1) (by rw [← sab]; exact Nat.lt_succ_self _)
        rw [← sab, eZ, eX] at this
        simp at this
        exact absurd ⟨this.2.1, this.2.2⟩ hs
end Go.Proofs.YtgeinjldjpaleaaDoor
