/-
  Copies of lines: taskmilllaw.ownLines, wait.appendFresh.
-/
import Derived.Test.YtjlcfdhghohccaaE
namespace Go.Proofs.Ytjlcfdhghohccaa
open Go.RowKit

theorem block2 {w : World} {R : Nat} {x y : Value} {t : TypeId} (h : w.heap[R]? = some (.cells #[x, y] t (0, 0))) : w.cell? ⟨R, 0, none⟩ = some x ∧ w.cell? ⟨R, 1, none⟩ = some y ∧ w.frozen? ⟨R, 0, none⟩ = false ∧ w.frozen? ⟨R, 1, none⟩ = false ∧ R < w.heap.size := by
  refine ⟨?_, ?_, ?_, ?_, (Array.getElem?_eq_some_iff.1 h).1⟩
  · simp only [World.cell?, h]; rfl
  · simp only [World.cell?, h]; rfl
  · simp [World.frozen?, h]
  · simp [World.frozen?, h]
theorem new_block (w : World) (o : Obj) : (w.alloc o).heap[w.heap.size]? = some o := (MapKept.heap_alloc w o).1
theorem keep_below {w w' : World} {k : Nat} {x : Obj} (h : w.heap[k]? = some x) (hb : Below w.heap.size w w') : w'.heap[k]? = some x := (hb.block k (Array.getElem?_eq_some_iff.1 h).1).trans h
theorem keep_alloc {w : World} {k : Nat} {x : Obj} (h : w.heap[k]? = some x) (o : Obj) : (w.alloc o).heap[k]? = some x := (Below.heap_alloc _ _ _ (Array.getElem?_eq_some_iff.1 h).1).trans h
theorem keep_grown {w w' : World} {row : Option Nat} {k : Nat} {x : Obj} (h : w.heap[k]? = some x) (hg : w.grownBy w' row) (hk : row ≠ some k) : w'.heap[k]? = some x := by
  obtain ⟨_, _, _, _, hb⟩ := hg
  rw [hb k (Array.getElem?_eq_some_iff.1 h).1 (fun e => hk e.symm)]
  exact h

/-- One more line, in a row of its own. -/
theorem ReadsO.more {base B B1 : Nat} {wr w1 w2 : World} {v v1 : Value} {rs : List Rl} {ls : List Ln} {x : Int} {zs : List Int} (h : ReadsO B wr rs ls) (hb : Below wr.heap.size wr w1) (ho : OwnL base wr v rs) (h1 : Own B1 w1 v1 zs) (hB1 : B ≤ B1) (hg : (w1.alloc (.cells #[.int .i64 x, v1] 55)).grownBy w2 v.ownBlock) : ReadsO B w2 (rs ++ [(x, v1)]) (ls ++ [(x, zs)]) := by
  have s1 : Steady w1 w2 := (Steady.of_below ((Below.refl _ _).alloc (Nat.le_refl _) _)).trans (Steady.of_grown ((ho.below hb).below ((Below.refl _ _).alloc (Nat.le_refl _) _)) hg)
  exact (h.steady ((Steady.of_below hb).trans s1)).append (ReadsO.one ((h1.base hB1).steady s1))
theorem grown_below {B : Nat} {w wr w1 w2 : World} {v : Value} {rs : List Rl} {o : Obj} (h : Below B w wr) (hB : B ≤ w.heap.size) (hb : Below wr.heap.size wr w1) (ho : OwnL B wr v rs) (hg : (w1.alloc o).grownBy w2 v.ownBlock) : Below B w w2 :=
  ((Below.next h hb hB).alloc (Nat.le_trans hB (Below.next h hb hB).size) o).grown hg (by rw [World.size_alloc]; exact Nat.le_succ_of_le (Nat.le_trans hB (Below.next h hb hB).size)) (fun k hk => (ho.lt k hk).1)

set_option maxRecDepth 100000 in
set_option maxHeartbeats 2000000 in
theorem ownlines_any (w : World) (a : Option Addr) (n c : Nat) (ls : List Ln) (hl : ls.length = n) (h : IsLs w (.slice a n c) ls) (hm : n ≤ 100000) (ht : (waitL ls).length ≤ 100000) :
    Calls Try.prog 10 #[.slice a n c] w fun e w' => ∃ a' c', e = .returned (.slice a' n c') ∧ IsLs w' (.slice a' n c') ls ∧ Below w.heap.size w w' := by
  have HA := hide (h.opens hl)
  have HL := hide hl; have HT := hide ht
  clear h hl ht
  go_enter Try.func10, Try.ntmps10
  go_wp2
  go_loopw [3, 4] (fun s i wr => ∃ (j : Nat) (ao : Option Addr) (co : Nat) (rs : List Rl), j ≤ n ∧ s = .slice ao j co ∧ i = .int .i64 j ∧ OwnL w.heap.size wr (.slice ao j co) rs ∧ ReadsO 0 wr rs (ls.take j) ∧ Below w.heap.size w wr) (fun _ i _ => n - (intOf i).toNat)
  case atStart => exact ⟨0, none, 0, [], Nat.zero_le _, rfl, rfl, ownL_nil _ _, ReadsO.nil _ _, Below.refl _ _⟩
  case round =>
    obtain ⟨j, ao, co, rs, hj, rfl, rfl, ho, hr, hnx⟩ := hrel
    by_cases hlt : j < n
    · obtain ⟨b, off, rfl, hb, hc⟩ := unhide HA (by omega)
      obtain ⟨k0, av, cv, k1, hi⟩ := hc j (by rw [unhide HL]; exact hlt)
      have hzn := waitL_at (ls := ls) (j := j) (by rw [unhide HL]; exact hlt)
      have hnext : ls.take (j + 1) = ls.take j ++ [lAt ls j] := take_next (by rw [unhide HL]; exact hlt)
      obtain ⟨zs, ez⟩ : ∃ zs, (lAt ls j).2 = zs := ⟨_, rfl⟩
      obtain ⟨x, ex⟩ : ∃ x, (lAt ls j).1 = x := ⟨_, rfl⟩
      have exz : lAt ls j = (x, zs) := by rw [← ex, ← ez]
      rw [exz] at hnext
      rw [ez] at k1 hi hzn
      rw [ex] at k0
      obtain ⟨m, em⟩ : ∃ m, zs.length = m := ⟨_, rfl⟩
      have hm100 : m ≤ 100000 := by have := unhide HT; omega
      have HOW : Hid (∀ W, Below w.heap.size w W → Calls Try.prog 22 #[.slice av m cv] W fun e w' => ∃ a' c', e = .returned (.slice a' m c') ∧ Own W.heap.size w' (.slice a' m c') zs ∧ Below W.heap.size W w') := fun W hW => by
        have := own_ints W (.slice av zs.length cv) zs (hi.below hW) (by omega)
        rw [em] at this
        refine this.mono ?_
        rintro e w' ⟨a', c', h1, h2, h3⟩
        exact ⟨a', c', h1, by rw [Own, em]; exact h2, h3⟩
      rw [em] at k1
      have HF : Hid (∀ W, Below w.heap.size w W → (W.cell? ⟨b, off + j * 2, none⟩ = some (.int .i64 x) ∧ W.cell? ⟨b, off + j * 2 + 1, none⟩ = some (.slice av m cv)) ∧ Below w.heap.size w W) := fun W hW =>
        ⟨⟨(hW.cell (p := ⟨b, off + j * 2, none⟩) hb).trans k0, (hW.cell (p := ⟨b, off + j * 2 + 1, none⟩) hb).trans k1⟩, hW⟩
      have i0 : (0 : Int) ≤ (j : Int) := by omega
      have i1 : (j : Int) < (n : Int) := by omega
      have HX := hide hnx; have HO := hide ho; have HR := hide hr; have HN := hide hnext
      clear hnx hc hb hi em ez ex exz hzn k0 k1 ho hr hnext
      go_wp2_with fail
      go_region_held3 (fun W => (W.cell? ⟨b, off + j * 2, none⟩ = some (.int .i64 x) ∧ W.cell? ⟨b, off + j * 2 + 1, none⟩ = some (.slice av m cv)) ∧ Below w.heap.size w W)
        (first | with_reducible exact unhide HF _ (unhide HX).drew | with_reducible exact unhide HF _ (unhide HC1) | with_reducible exact unhide HF _ ((unhide HC1).alloc (unhide HC1).size _) | with_reducible exact unhide HF _ (unhide HC2))
        (first
          | (go_at_call 22; (with_reducible refine Calls.mono (unhide HOW _ (unhide HX).drew) ?_); rintro e w1 ⟨a1, c1, rfl, ho1, hb1⟩; have HO1 := hide ho1; have HB1 : Hid (Below wr.heap.size wr w1) := (Below.refl wr.heap.size wr).drew.trans hb1; have HC1 := hide (Below.next (unhide HX) (unhide HB1) (Nat.le_refl _)); clear ho1 hb1)
          | (refine step_append_ls (by rfl) (.tmp 11) (.tmp 24) rfl w.heap.size (.slice ao j co) rs rfl (((unhide HO).below (unhide HB1)).below ((Below.refl _ _).alloc (Nat.le_refl _) _)) _ [(x, .slice a1 m c1)] rfl (rd_new w1 x _) ones_one (j + 1) (by rw [(unhide HR).len, List.length_take, unhide HL]; simp; omega) (by omega) (Nat.le_trans (unhide HC1).size (by simp)) ?_; intro a2 c2 w2 ho2 hg2; have HO2 := hide ho2; have HR2 := hide ((unhide HR).more (unhide HB1) (unhide HO) (unhide HO1) (Nat.zero_le _) hg2); have HC2 := hide (grown_below (unhide HX) (Nat.le_refl _) (unhide HB1) (unhide HO) hg2); clear ho2 hg2))
      all_goals
        go_wp2_with fail
        go_roundw
      all_goals first
        | exact ⟨j + 1, a2, c2, _, by omega, rfl, by go_num, unhide HO2, by rw [unhide HN]; exact unhide HR2, unhide HC2⟩
        | (simp [intOf]; omega)
    · have e : j = n := by omega
      subst e
      rw [List.take_of_length_le (by rw [unhide HL]; omega)] at hr
      have HX := hide hnx; have HO := hide (ho.ls hr.reads)
      clear hnx ho hr
      go_wp2
      go_ret
      exact ⟨ao, co, rfl, unhide HO, unhide HX⟩

set_option maxRecDepth 100000 in
set_option maxHeartbeats 2000000 in
theorem appfresh_any (w0 w : World) (B : Nat) (ao : Option Addr) (p co : Nat) (rs0 : List Rl) (ls0 : List Ln) (a : Option Addr) (n c : Nat) (ls : List Ln) (hl : ls.length = n) (h : IsLs w0 (.slice a n c) ls) (h0 : Below w0.heap.size w0 w) (hB0 : w0.heap.size ≤ B) (hB : B ≤ w.heap.size)
    (ho : OwnL B w (.slice ao p co) rs0) (hr : ReadsO B w rs0 ls0) (hm : p + n ≤ 100000) (ht : (waitL ls).length ≤ 100000) :
    Calls Try.prog 45 #[.slice ao p co, .slice a n c] w fun e w' => ∃ a' c' rs', e = .returned (.slice a' (p + n) c') ∧ OwnL B w' (.slice a' (p + n) c') rs' ∧ ReadsO B w' rs' (ls0 ++ ls) ∧ Below B w w' ∧ Steady w w' := by
  have hp : ls0.length = p := by
    obtain ⟨a', c', e⟩ := Rd.form (Rd.of_owns ho)
    cases e
    exact hr.len.symm
  have HA := hide (h.opens hl)
  have HL := hide hl; have HT := hide ht; have H0 := hide h0; have HO0 := hide ho; have HR0 := hide hr; have HP := hide hp
  clear h hl ht h0 ho hr hp
  go_enter Try.func45, Try.ntmps45
  go_wp2
  go_loopw [0, 9] (fun s i wr => ∃ (j : Nat) (ao : Option Addr) (co : Nat) (rs : List Rl), j ≤ n ∧ s = .slice ao (p + j) co ∧ i = .int .i64 j ∧ OwnL B wr (.slice ao (p + j) co) rs ∧ ReadsO B wr rs (ls0 ++ ls.take j) ∧ Below B w wr ∧ Steady w wr) (fun _ i _ => n - (intOf i).toNat)
  case atStart => exact ⟨0, ao, co, rs0, Nat.zero_le _, rfl, rfl, unhide HO0, by simpa using unhide HR0, Below.refl _ _, Steady.refl _⟩
  case round =>
    obtain ⟨j, ao, co, rs, hj, rfl, rfl, ho, hr, hnx, hst⟩ := hrel
    by_cases hlt : j < n
    · obtain ⟨b, off, rfl, hb, hc⟩ := unhide HA (by omega)
      have hw0 : Below w0.heap.size w0 wr := (unhide H0).trans (hnx.mono hB0)
      obtain ⟨k0, av, cv, k1, hi⟩ := hc.below hw0 hb j (by rw [unhide HL]; exact hlt)
      have hzn := waitL_at (ls := ls) (j := j) (by rw [unhide HL]; exact hlt)
      have hnext : ls.take (j + 1) = ls.take j ++ [lAt ls j] := take_next (by rw [unhide HL]; exact hlt)
      obtain ⟨zs, ez⟩ : ∃ zs, (lAt ls j).2 = zs := ⟨_, rfl⟩
      obtain ⟨x, ex⟩ : ∃ x, (lAt ls j).1 = x := ⟨_, rfl⟩
      have exz : lAt ls j = (x, zs) := by rw [← ex, ← ez]
      rw [exz] at hnext
      rw [ez] at k1 hi hzn
      rw [ex] at k0
      obtain ⟨m, em⟩ : ∃ m, zs.length = m := ⟨_, rfl⟩
      have hm100 : m ≤ 100000 := by have := unhide HT; omega
      have hba := (Below.refl wr.heap.size wr).alloc (Nat.le_refl _) (.cells #[.int .i64 x, .slice av m cv] 55)
      have hrl : rs.length = p + j := by rw [hr.len, List.length_append, unhide HP, List.length_take, unhide HL]; omega
      have HOW : Hid (∀ W, Below wr.heap.size wr W → Calls Try.prog 46 #[.slice av m cv] W fun e w' => ∃ a' c', e = .returned (.slice a' m c') ∧ Own W.heap.size w' (.slice a' m c') zs ∧ Below W.heap.size W w') := fun W hW => by
        have := fresh_any W (.slice av zs.length cv) zs.length _ (hi.below hW).1 (ints_one zs) (by omega)
        rw [em] at this
        refine this.mono ?_
        rintro e w' ⟨v', rfl, h2, h3⟩
        obtain ⟨a', c', rfl⟩ := Rd.form (Rd.of_owns h2)
        exact ⟨a', c', rfl, by rw [Own, em]; exact h2, h3⟩
      rw [em] at k1
      have i0 : (0 : Int) ≤ (j : Int) := by omega
      have i1 : (j : Int) < (n : Int) := by omega
      have HBA := hide hba
      have HTB := hide (new_block wr (.cells #[.int .i64 x, .slice av m cv] 55))
      have HG := hide (fun k hk => ho.lt k hk)
      have HX := hide hnx; have HO := hide ho; have HR := hide hr; have HN := hide hnext; have HST := hide hst; have HRL := hide hrl
      clear hnx hc hb hi em ez ex exz hzn ho hr hnext hba hw0 hst hrl
      go_upto_region 4 with fail
      clear k0 k1
      obtain ⟨Wb, eWb⟩ : ∃ W, wr.alloc (.cells #[.int .i64 x, .slice av m cv] 55) = W := ⟨_, rfl⟩
      obtain ⟨T, eT⟩ : ∃ T, wr.heap.size = T := ⟨_, rfl⟩
      rw [eWb, eT] at HTB
      rw [eWb] at HBA
      rw [eWb, eT]
      have HF : Hid (∀ W, Below Wb.heap.size Wb W → W.cell? ⟨T, 0, none⟩ = some (.int .i64 x) ∧ W.cell? ⟨T, 1, none⟩ = some (.slice av m cv)) := fun W hW => by
        have := block2 (keep_below (unhide HTB) hW)
        exact ⟨this.1, this.2.1⟩
      have HF2 : Hid (∀ (w1 W : World) (o : Obj), Below Wb.heap.size Wb w1 → (w1.alloc o).grownBy W (Value.slice ao (p + j) co).ownBlock → W.cell? ⟨T, 0, none⟩ = some (.int .i64 x) ∧ W.cell? ⟨T, 1, none⟩ = some (.slice av m cv)) := fun w1 W o h1 hg => by
        have := block2 (keep_grown (keep_alloc (keep_below (unhide HTB) h1) o) hg (fun e => by have := (unhide HG T e).2; omega))
        exact ⟨this.1, this.2.1⟩
      clear HTB eWb
      go_region_held3 (fun W => W.cell? ⟨T, 0, none⟩ = some (.int .i64 x) ∧ W.cell? ⟨T, 1, none⟩ = some (.slice av m cv))
        (first | with_reducible exact unhide HF _ (Below.refl _ _).drew | with_reducible exact unhide HF _ (unhide HB0) | with_reducible exact unhide HF _ ((unhide HB0).alloc (unhide HB0).size _) | with_reducible exact unhide HC2)
        (first
          | (go_at_call 46; (with_reducible refine Calls.mono (unhide HOW _ (unhide HBA).drew) ?_); rintro e w1 ⟨a1, c1, rfl, ho1, hb1⟩; have HO1 := hide ho1; have HB0 : Hid (Below Wb.heap.size Wb w1) := (Below.refl Wb.heap.size Wb).drew.trans hb1; have HB1 : Hid (Below wr.heap.size wr w1) := Below.next (unhide HBA) (unhide HB0) (Nat.le_refl _); clear ho1 hb1)
          | (refine step_append_ls (by rfl) (.tmp 13) (.tmp 20) rfl B (.slice ao (p + j) co) rs rfl (((unhide HO).below (unhide HB1)).below ((Below.refl _ _).alloc (Nat.le_refl _) _)) _ [(x, .slice a1 m c1)] rfl (rd_new w1 x _) ones_one (p + (j + 1)) (by rw [unhide HRL]; rfl) (by omega) (Nat.le_trans hB (Nat.le_trans (Below.next (unhide HX) (unhide HB1) hB).size (by simp))) ?_; intro a2 c2 w2 ho2 hg2; have HO2 := hide ho2; have HC2 := hide (unhide HF2 _ _ _ (unhide HB0) hg2); have HR2 := hide ((unhide HR).more (unhide HB1) (unhide HO) (unhide HO1) (Nat.le_trans hB (Below.next (unhide HX) (unhide HBA) hB).size) hg2); have HX2 := hide (grown_below (unhide HX) hB (unhide HB1) (unhide HO) hg2); have HST2 := hide (((unhide HST).trans (Steady.of_below (unhide HB1))).trans ((Steady.of_below ((Below.refl _ _).alloc (Nat.le_refl _) _)).trans (Steady.of_grown (((unhide HO).below (unhide HB1)).below ((Below.refl _ _).alloc (Nat.le_refl _) _)) hg2))); clear ho2 hg2))
      all_goals
        go_wp2_with fail
        go_roundw
      all_goals first
        | exact ⟨j + 1, a2, c2, _, by omega, rfl, by go_num, unhide HO2, by rw [unhide HN, ← List.append_assoc]; exact unhide HR2, unhide HX2, unhide HST2⟩
        | (simp [intOf]; omega)
    · have e : j = n := by omega
      subst e
      rw [List.take_of_length_le (by rw [unhide HL]; omega)] at hr
      have HX := hide hnx; have HO := hide ho; have HR := hide hr; have HST := hide hst
      clear hnx ho hr hst
      go_wp2
      go_ret
      exact ⟨ao, co, rs, rfl, unhide HO, unhide HR, unhide HX, unhide HST⟩
end Go.Proofs.Ytjlcfdhghohccaa
