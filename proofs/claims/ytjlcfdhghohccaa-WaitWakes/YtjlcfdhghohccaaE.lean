/-
  Functions that go through lines: vastLines, countTasks, Waiting, AtLine, SameLines.
-/
import Derived.Test.YtjlcfdhghohccaaD
namespace Go.Proofs.Ytjlcfdhghohccaa
open Go.RowKit

theorem waitL_bound {ls : List Ln} {M : Nat} (h : ∀ j, j < ls.length → (lAt ls j).2.length ≤ M) : ∀ j, j ≤ ls.length → (waitL (ls.take j)).length ≤ j * M
  | 0, _ => by simp [waitL]
  | j + 1, hj => by
    rw [waitL_take (by omega), List.length_append, Nat.succ_mul]
    have := waitL_bound h j (by omega)
    have := h j (by omega)
    omega

/-- What vastLines answers. -/
def Vast (r : Bool) (n : Nat) (ls : List Ln) : Prop := r = false → n ≤ 6000 ∧ (waitL ls).length ≤ 6000
def Summed (n : Nat) (ls : List Ln) (j : Nat) (z : Int) : Prop := n ≤ 6000 → z = (waitL (ls.take j)).length

set_option maxRecDepth 100000 in
set_option maxHeartbeats 1000000 in
theorem vast_any (w : World) (a : Option Addr) (n c : Nat) (ls : List Ln) (hl : ls.length = n) (h : IsLs w (.slice a n c) ls) (hm : n ≤ maxLen) (ht : ∀ j, j < n → (lAt ls j).2.length ≤ 17592186044416) :
    Calls Try.prog 9 #[.slice a n c] w fun e w' => ∃ r, e = .returned (.bool r) ∧ Vast r n ls ∧ w' = w := by
  unfold maxLen at hm
  have HA := hide (h.opens hl)
  have HB := hide (waitL_bound (by rw [hl]; exact ht))
  have HL := hide hl
  clear h ht hl
  go_enter Try.func9, Try.ntmps9
  go_wp2
  go_loopw [3, 4] (fun s i wr => ∃ (j : Nat) (z : Int), j ≤ n ∧ s = .int .i64 z ∧ i = .int .i64 j ∧ wr = w ∧ Summed n ls j z) (fun _ i _ => n - (intOf i).toNat)
  case atStart => exact ⟨0, 0, Nat.zero_le _, rfl, rfl, rfl, fun _ => by simp [waitL]⟩
  case round =>
    obtain ⟨j, z, hj, rfl, rfl, rfl, hz⟩ := hrel
    have HZ := hide hz
    clear hz
    by_cases hlt : j < n
    · obtain ⟨b, off, rfl, hb, hc⟩ := unhide HA (by omega)
      obtain ⟨k0, av, cv, k1, _⟩ := hc j (by rw [unhide HL]; exact hlt)
      have i0 : (0 : Int) ≤ (j : Int) := by omega
      have i1 : (j : Int) < (n : Int) := by omega
      obtain ⟨m, em⟩ : ∃ m, (lAt ls j).2.length = m := ⟨_, rfl⟩
      rw [em] at k1
      have HS : Hid (Summed n ls (j + 1) (IntKind.i64.wrap (z + m))) := fun h6 => by
        have h1 := unhide HZ h6
        have h2 := unhide HB (j + 1) (by rw [unhide HL]; omega)
        rw [waitL_take (by rw [unhide HL]; exact hlt), List.length_append, em] at h2 ⊢
        have h3 : (j + 1) * 17592186044416 ≤ 6000 * 17592186044416 := Nat.mul_le_mul_right _ (by omega)
        rw [h1]
        simp [IntKind.wrap, IntKind.bits, IntKind.signed]
        omega
      obtain ⟨y, ey⟩ : ∃ y, IntKind.i64.wrap (z + m) = y := ⟨_, rfl⟩
      rw [ey] at HS
      clear em hc hb
      go_wp2
      go_roundw
      case rel => exact ⟨j + 1, y, by omega, rfl, by go_num, by first | rfl | trivial, unhide HS⟩
      case measure => simp [intOf]; omega
    · have e : j = n := by omega
      subst e
      by_cases h6 : 6000 < j
      · have c1 : (6000 : Int) < (j : Int) := by omega
        go_wp2
        go_ret
        exact ⟨true, rfl, fun h => Bool.noConfusion h, rfl⟩
      · have c1 : ¬ (6000 : Int) < (j : Int) := by omega
        have h1 := unhide HZ (by omega)
        rw [List.take_of_length_le (by rw [unhide HL]; omega)] at h1
        have HH := hide h1
        clear h1
        by_cases h7 : (6000 : Int) < z
        · go_wp2
          go_ret
          exact Or.inr ⟨rfl, fun h => Bool.noConfusion h, rfl⟩
        · go_wp2
          go_ret
          exact Or.inl ⟨rfl, fun _ => ⟨by omega, by have := unhide HH; omega⟩, rfl⟩

set_option maxRecDepth 100000 in
set_option maxHeartbeats 1000000 in
theorem count_any (w : World) (a : Option Addr) (n c : Nat) (ls : List Ln) (hl : ls.length = n) (h : IsLs w (.slice a n c) ls) (hm : n ≤ 100000) (ht : (waitL ls).length ≤ 100000) :
    Calls Try.prog 43 #[.slice a n c] w fun e w' => e = .returned (.int .i64 (waitL ls).length) ∧ Below w.heap.size w w' := by
  have HA := hide (h.opens hl)
  have HL := hide hl
  have HT := hide ht
  clear h ht hl
  go_enter Try.func43, Try.ntmps43
  go_wp2
  go_loopw [3, 8] (fun s i wr => ∃ j : Nat, j ≤ n ∧ s = .int .i64 (waitL (ls.take j)).length ∧ i = .int .i64 j ∧ Below w.heap.size w wr) (fun _ i _ => n - (intOf i).toNat)
  case atStart => exact ⟨0, Nat.zero_le _, rfl, rfl, Below.refl _ _⟩
  case round =>
    obtain ⟨j, hj, rfl, rfl, hnx⟩ := hrel
    by_cases hlt : j < n
    · obtain ⟨b, off, rfl, hb, hc⟩ := unhide HA (by omega)
      obtain ⟨k0, av, cv, k1, _⟩ := hc.below hnx hb j (by rw [unhide HL]; exact hlt)
      have i0 : (0 : Int) ≤ (j : Int) := by omega
      have i1 : (j : Int) < (n : Int) := by omega
      have h2 := waitL_take_le ls (j + 1)
      have h3 : (waitL (ls.take (j + 1))).length = (waitL (ls.take j)).length + (lAt ls j).2.length := by rw [waitL_take (by rw [unhide HL]; exact hlt), List.length_append]
      obtain ⟨m, em⟩ : ∃ m, (lAt ls j).2.length = m := ⟨_, rfl⟩
      obtain ⟨q, eq⟩ : ∃ q, (waitL (ls.take j)).length = q := ⟨_, rfl⟩
      obtain ⟨x, ex⟩ : ∃ x, (lAt ls j).1 = x := ⟨_, rfl⟩
      rw [em] at k1
      rw [ex] at k0
      rw [em, eq] at h3
      rw [eq]
      have hq : q + m ≤ 100000 := by have := unhide HT; omega
      have HQ := hide h3
      have HX := hide hnx
      clear em hc hb ex h2 h3 eq hnx
      go_wp2
      go_roundw
      case rel => exact ⟨j + 1, by omega, by rw [unhide HQ]; go_num, by go_num, (unhide HX).alloc (unhide HX).size _⟩
      case measure => simp [intOf]; omega
    · have e : j = n := by omega
      subst e
      rw [List.take_of_length_le (by rw [unhide HL]; omega)]
      have HX := hide hnx
      clear hnx
      go_wp2
      go_ret
      exact ⟨rfl, unhide HX⟩

set_option maxRecDepth 100000 in
set_option maxHeartbeats 1000000 in
theorem waiting_any (w : World) (a : Option Addr) (n c : Nat) (ls : List Ln) (hl : ls.length = n) (h : IsLs w (.slice a n c) ls) (hm : n ≤ 100000) (ht : (waitL ls).length ≤ 100000) :
    Calls Try.prog 17 #[.slice a n c] w fun e w' => ∃ a' c', e = .returned (.slice a' (waitL ls).length c') ∧ IsInts w' (.slice a' (waitL ls).length c') (waitL ls) ∧ Below w.heap.size w w' := by
  have HA := hide (h.opens hl)
  have HL := hide hl
  have HT := hide ht
  clear h ht hl
  go_enter Try.func17, Try.ntmps17
  go_wp2
  go_loopw [3, 4] (fun s i wr => ∃ (j : Nat) (a' : Option Addr) (c' : Nat), j ≤ n ∧ s = .slice a' (waitL (ls.take j)).length c' ∧ i = .int .i64 j ∧ Own w.heap.size wr (.slice a' (waitL (ls.take j)).length c') (waitL (ls.take j)) ∧ Below w.heap.size w wr) (fun _ i _ => n - (intOf i).toNat)
  case atStart => exact ⟨0, none, 0, Nat.zero_le _, rfl, rfl, own_nil _ _, Below.refl _ _⟩
  case round =>
    obtain ⟨j, a', c', hj, rfl, rfl, ho, hnx⟩ := hrel
    by_cases hlt : j < n
    · obtain ⟨b, off, rfl, hb, hc⟩ := unhide HA (by omega)
      obtain ⟨k0, av, cv, k1, hi⟩ := hc.below hnx hb j (by rw [unhide HL]; exact hlt)
      have i0 : (0 : Int) ≤ (j : Int) := by omega
      have i1 : (j : Int) < (n : Int) := by omega
      have h2 := waitL_take_le ls (j + 1)
      have h3 : waitL (ls.take (j + 1)) = waitL (ls.take j) ++ (lAt ls j).2 := waitL_take (by rw [unhide HL]; exact hlt)
      obtain ⟨zs, ez⟩ : ∃ zs, (lAt ls j).2 = zs := ⟨_, rfl⟩
      obtain ⟨qs, eq⟩ : ∃ q, waitL (ls.take j) = q := ⟨_, rfl⟩
      rw [ez] at k1 hi h3
      rw [eq] at h3 ho
      rw [eq]
      rw [h3, List.length_append] at h2
      have hq : qs.length + zs.length ≤ 100000 := by have := unhide HT; omega
      obtain ⟨m, em⟩ : ∃ m, zs.length = m := ⟨_, rfl⟩
      obtain ⟨q, eq2⟩ : ∃ q, qs.length = q := ⟨_, rfl⟩
      rw [em] at k1 hi hq
      rw [eq2] at ho hq
      rw [eq2]
      have HQ := hide h3; have HX := hide hnx; have HI := hide hi; have HO := hide ho; have HE := hide em; have HE2 := hide eq2
      clear ez hc hb h2 h3 eq hnx hi ho em eq2
      go_wp2_with (at_builtin; refine wpList_append_ints rfl (.tmp 11) (.tmp 16) rfl w.heap.size (.slice a' q c') qs rfl (unhide HO) _ zs rfl (unhide HI) (q + m) (by rw [unhide HE, unhide HE2]) (by omega) (unhide HX).size ?_; intro a2 c2 w2 ho2 hg2; have HO2 := hide ho2; have HX2 := hide ((unhide HX).grown hg2 (unhide HX).size (fun k hk => ((unhide HO).lt k hk).1)); clear ho2 hg2)
      go_roundw
      case rel => exact ⟨j + 1, a2, c2, by omega, by rw [unhide HQ, List.length_append, unhide HE, unhide HE2], by go_num, by rw [unhide HQ, List.length_append, unhide HE, unhide HE2]; exact unhide HO2, unhide HX2⟩
      case measure => simp [intOf]; omega
    · have e : j = n := by omega
      subst e
      rw [List.take_of_length_le (by rw [unhide HL]; omega)] at ho ⊢
      have HX := hide hnx; have HO := hide ho
      clear hnx ho
      go_wp2
      go_ret
      exact ⟨a', c', rfl, (unhide HO).ints, unhide HX⟩

/-- The tasks of the first line at an address. -/
def atL (at' : Int) : List Ln → List Int
  | [] => []
  | l :: r => if l.1 = at' then l.2 else atL at' r
theorem atL_none {at' : Int} : ∀ {ls : List Ln}, (∀ j, j < ls.length → (lAt ls j).1 ≠ at') → atL at' ls = []
  | [], _ => rfl
  | l :: r, h => by
    rw [atL, if_neg (show l.1 ≠ at' from h 0 (by simp))]
    exact atL_none fun j hj => h (j + 1) (by simpa using hj)
theorem atL_at {at' : Int} : ∀ {ls : List Ln} {j : Nat}, j < ls.length → (lAt ls j).1 = at' → (∀ i, i < j → (lAt ls i).1 ≠ at') → atL at' ls = (lAt ls j).2
  | [], _, h, _, _ => by simp at h
  | l :: r, 0, _, h, _ => by rw [atL, if_pos (show l.1 = at' from h)]; rfl
  | l :: r, j + 1, hj, h, h0 => by
    rw [atL, if_neg (show l.1 ≠ at' from h0 0 (by omega))]
    exact atL_at (ls := r) (j := j) (by simpa using hj) h fun i hi => h0 (i + 1) (by omega)

set_option maxRecDepth 100000 in
set_option maxHeartbeats 1000000 in
theorem atline_any (w : World) (a : Option Addr) (n c : Nat) (x : Int) (ls : List Ln) (hl : ls.length = n) (h : IsLs w (.slice a n c) ls) (hm : n ≤ 100000) :
    Calls Try.prog 21 #[.slice a n c, .int .i64 x] w fun e w' => ∃ a' c', e = .returned (.slice a' (atL x ls).length c') ∧ IsInts w' (.slice a' (atL x ls).length c') (atL x ls) ∧ w' = w := by
  have HA := hide (h.opens hl)
  have HL := hide hl
  clear h hl
  go_enter Try.func21, Try.ntmps21
  go_wp2
  go_loopw [5] (fun i wr => ∃ j : Nat, j ≤ n ∧ i = .int .i64 j ∧ wr = w ∧ ∀ i, i < j → (lAt ls i).1 ≠ x) (fun i _ => n - (intOf i).toNat)
  case atStart => exact ⟨0, Nat.zero_le _, rfl, rfl, fun i hi => by omega⟩
  case round =>
    obtain ⟨j, hj, rfl, rfl, hne⟩ := hrel
    have HN := hide hne
    clear hne
    by_cases hlt : j < n
    · obtain ⟨b, off, rfl, hb, hc⟩ := unhide HA (by omega)
      obtain ⟨k0, av, cv, k1, hi⟩ := hc j (by rw [unhide HL]; exact hlt)
      have i0 : (0 : Int) ≤ (j : Int) := by omega
      have i1 : (j : Int) < (n : Int) := by omega
      by_cases hz : (lAt ls j).1 = x
      · have hr := atL_at (by rw [unhide HL]; exact hlt) hz (unhide HN)
        rw [hz] at k0
        obtain ⟨zs, ez⟩ : ∃ zs, (lAt ls j).2 = zs := ⟨_, rfl⟩
        rw [ez] at k1 hi hr
        obtain ⟨m, em⟩ : ∃ m, zs.length = m := ⟨_, rfl⟩
        rw [em] at k1 hi
        have HI := hide hi; have HR := hide hr; have HE := hide em
        clear hi em ez hr hz hc hb
        have hz1 : (x == x) = true := by simp
        go_wp2
        go_ret
        refine ⟨av, cv, ?_, ?_, rfl⟩
        · rw [unhide HR, unhide HE]; rfl
        · rw [unhide HR, unhide HE]; exact unhide HI
      · obtain ⟨z, ez⟩ : ∃ z, (lAt ls j).1 = z := ⟨_, rfl⟩
        rw [ez] at k0
        have HZ := hide hz
        have hz1 : (z == x) = false := by rw [← ez]; simpa using hz
        clear ez hz hi k1 hc hb
        go_wp2
        go_roundw
        case rel => exact ⟨j + 1, by omega, by go_num, by first | rfl | trivial, fun i hi => by
          by_cases e : i = j
          · subst e; exact unhide HZ
          · exact unhide HN i (by omega)⟩
        case measure => simp [intOf]; omega
    · have hr := atL_none (fun i hi => unhide HN i (by have := unhide HL; omega))
      have HR := hide hr
      clear hr
      go_wp2
      go_ret
      refine ⟨none, 0, ?_, ?_, rfl⟩
      · rw [unhide HR]; rfl
      · rw [unhide HR]; exact ints_nil _

set_option maxRecDepth 100000 in
set_option maxHeartbeats 1000000 in
theorem samelines_any (w : World) (a a1 : Option Addr) (n c c1 : Nat) (ls : List Ln) (hl : ls.length = n) (h : IsLs w (.slice a n c) ls) (h1 : IsLs w (.slice a1 n c1) ls) (hm : n ≤ 100000) (ht : (waitL ls).length ≤ 100000) :
    Calls Try.prog 14 #[.slice a n c, .slice a1 n c1] w fun e w' => e = .returned (.bool true) ∧ Below w.heap.size w w' := by
  have hnot : ∀ (x : Bool) (w : World), (Op.unary .not (.bool x)).run Try.prog w = .ok (.bool (!x)) w := fun _ _ => rfl
  have HA := hide (h.opens hl)
  have HA1 := hide (h1.opens hl)
  have HL := hide hl; have HT := hide ht
  clear h h1 hl ht
  go_enter Try.func14, Try.ntmps14
  go_wp2
  go_loopw [5] (fun i wr => ∃ j : Nat, j ≤ n ∧ i = .int .i64 j ∧ Below w.heap.size w wr) (fun i _ => n - (intOf i).toNat)
  case atStart => exact ⟨0, Nat.zero_le _, rfl, Below.refl _ _⟩
  case round =>
    obtain ⟨j, hj, rfl, hnx⟩ := hrel
    by_cases hlt : j < n
    · obtain ⟨b, off, rfl, hb, hc⟩ := unhide HA (by omega)
      obtain ⟨b1, off1, rfl, hb1, hc1⟩ := unhide HA1 (by omega)
      have hbn := Nat.lt_of_lt_of_le hb hnx.size
      have hbn1 := Nat.lt_of_lt_of_le hb1 hnx.size
      have hcn := hc.below hnx hb
      have hcn1 := hc1.below hnx hb1
      obtain ⟨k0, av, cv, k1, hi⟩ := hcn j (by rw [unhide HL]; exact hlt)
      obtain ⟨l0, av1, cv1, l1, hi1⟩ := hcn1 j (by rw [unhide HL]; exact hlt)
      have hzn := waitL_at (ls := ls) (j := j) (by rw [unhide HL]; exact hlt)
      obtain ⟨zs, ez⟩ : ∃ zs, (lAt ls j).2 = zs := ⟨_, rfl⟩
      obtain ⟨x, ex⟩ : ∃ x, (lAt ls j).1 = x := ⟨_, rfl⟩
      rw [ez] at k1 hi l1 hi1 hzn
      rw [ex] at k0 l0
      obtain ⟨m, em⟩ : ∃ m, zs.length = m := ⟨_, rfl⟩
      rw [em] at k1 hi l1 hi1 hzn
      have HS : Hid (∀ W, Below wr.heap.size wr W → Calls Try.prog 26 #[.slice av m cv, .slice av1 m cv1] W fun e w' => e = .returned (.bool true) ∧ Below W.heap.size W w') := fun W hW => ints_same W _ _ zs (hi.below hW) (hi1.below hW) (by rw [em]; have := unhide HT; unfold maxLen; omega)
      have HF : Hid (∀ W, Below wr.heap.size wr W → (W.cell? ⟨b, off + j * 2, none⟩ = some (.int .i64 x) ∧ W.cell? ⟨b, off + j * 2 + 1, none⟩ = some (.slice av m cv)) ∧ (W.cell? ⟨b1, off1 + j * 2, none⟩ = some (.int .i64 x) ∧ W.cell? ⟨b1, off1 + j * 2 + 1, none⟩ = some (.slice av1 m cv1)) ∧ Below wr.heap.size wr W) := fun W hW =>
        ⟨⟨(hW.cell (p := ⟨b, off + j * 2, none⟩) hbn).trans k0, (hW.cell (p := ⟨b, off + j * 2 + 1, none⟩) hbn).trans k1⟩, ⟨(hW.cell (p := ⟨b1, off1 + j * 2, none⟩) hbn1).trans l0, (hW.cell (p := ⟨b1, off1 + j * 2 + 1, none⟩) hbn1).trans l1⟩, hW⟩
      have i0 : (0 : Int) ≤ (j : Int) := by omega
      have i1 : (j : Int) < (n : Int) := by omega
      have e1 : (x == x) = true := by simp
      have e2 : (x != x) = false := by simp
      have HX := hide hnx
      clear hnx hc hc1 hb hb1 hi hi1 em ez ex hzn k0 k1 l0 l1 hbn hbn1 hcn hcn1
      go_wp2_with fail
      go_region_held3 (fun W => (W.cell? ⟨b, off + j * 2, none⟩ = some (.int .i64 x) ∧ W.cell? ⟨b, off + j * 2 + 1, none⟩ = some (.slice av m cv)) ∧ (W.cell? ⟨b1, off1 + j * 2, none⟩ = some (.int .i64 x) ∧ W.cell? ⟨b1, off1 + j * 2 + 1, none⟩ = some (.slice av1 m cv1)) ∧ Below wr.heap.size wr W)
        (first | with_reducible exact unhide HF _ (Below.refl _ _).drew | with_reducible exact unhide HF _ (unhide HC1))
        (first | (go_at_call 26; (with_reducible refine Calls.mono (unhide HS _ (Below.refl _ _).drew) ?_); rintro e wc1 ⟨rfl, hbX⟩; have HC1 : Hid (Below wr.heap.size wr wc1) := Below.next (Below.refl wr.heap.size wr).drew hbX (Nat.le_refl _); clear hbX))
      all_goals
        have HX1 := hide (Below.next (unhide HX) (unhide HC1) (Nat.le_refl _))
        go_wp2_with fail
        go_roundw
      all_goals first
        | exact ⟨j + 1, by omega, by go_num, unhide HX1⟩
        | (simp [intOf]; omega)
    · have HX := hide hnx
      clear hnx
      go_wp2
      go_ret
      exact ⟨rfl, unhide HX⟩
end Go.Proofs.Ytjlcfdhghohccaa
