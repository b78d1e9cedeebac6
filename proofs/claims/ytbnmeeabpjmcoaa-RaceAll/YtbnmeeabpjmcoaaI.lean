/-
  Locks: the methods aheadOfLock and keepUnlock.
-/
import Derived.Test.YtbnmeeabpjmcoaaH
namespace Go.Proofs.Ytbnmeeabpjmcoaa
open Go.RowKit

/-- A function's result that is a clock. -/
theorem ret_ck {f : Func} {k : Nat} (hf : f.results = #[.cell k 65]) (tmps : Array Value) (w : World) (b : Nat) (c : Nat → Int) (ht : tmps.getD k undef = .pointer (some ⟨b, 0, none⟩)) (hb : w.heap[b]? = some (ckB c)) : (results f tmps).run Try.prog w = .ok (ckV c) w := by
  have hr : w.rangeAt b 0 (ckL c) := range_block (l := []) (r := []) (by simpa [ckB] using hb)
  have hl := run_loadVar_mid (P := Try.prog) w b 0 65 (ckL c) _ hr Try.und65 rfl (by rw [ckL_len]; exact Try.size65)
  unfold results
  rw [hf]
  have ht2 : tmps[k]?.getD undef = .pointer (some ⟨b, 0, none⟩) := by simpa using ht
  simp [ht2, asAddr, hl]
theorem res_new (w : World) : ∃ W, w.alloc (.cells (ckL ck0).toArray 65) = W ∧ Below w.heap.size w W ∧ W.heap[w.heap.size]? = some (ckB ck0) := ⟨_, rfl, (Below.refl _ _).alloc (Nat.le_refl _) _, new_block w _⟩
theorem ckB_there {w : World} {b : Nat} {c : Nat → Int} (h : w.heap[b]? = some (ckB c)) (d : Nat → Int) : w.there b 0 (ckL d).toArray.size := there_block h (by simp [ckL_len])
theorem ckB_put {w : World} {b : Nat} {c : Nat → Int} (h : w.heap[b]? = some (ckB c)) (d : Nat → Int) : (w.setCells b 0 (ckL d).toArray.toList).heap[b]? = some (ckB d) := by
  have := setCells_block b (ckL d).toArray.toList [] (ckL c) [] w (by simpa [ckB] using h) (by simp [ckL_len])
  simpa [ckB] using this
theorem res_put {B : Nat} {w W : World} {R : Nat} {c : Nat → Int} (hB : Below B w W) (hR : B ≤ R) (hZ : W.heap[R]? = some (ckB c)) (d : Nat → Int) : ∃ W2, W.setCells R 0 (ckL d).toArray.toList = W2 ∧ Below B w W2 ∧ W2.heap[R]? = some (ckB d) :=
  ⟨_, rfl, below_setCells hR _ _ _ hB, ckB_put hZ d⟩
theorem lk_writers {w : World} {b : Nat} {l : LockM} (h : w.heap[b]? = some (lkB l)) : w.rangeAt b 0 (ckL l.writers) := range_block (l := []) (r := ckL l.all) (by simpa [lkB] using h)
theorem lk_all {w : World} {b : Nat} {l : LockM} (h : w.heap[b]? = some (lkB l)) : w.rangeAt b 64 (ckL l.all) := by
  have := range_block (w := w) (b := b) (l := ckL l.writers) (r := []) (c := l.all) (by simpa [lkB] using h)
  rwa [ckL_len] at this

set_option maxRecDepth 100000 in
set_option maxHeartbeats 2000000 in
theorem aheadOfLock1 (w : World) (L : Nat) (l : LockM) (v : Int) (hv : v = 1) (h : w.heap[L]? = some (lkB l)) :
    Calls Try.prog 58 #[.pointer (some ⟨L, 0, none⟩), .int .i64 v] w fun e w' => e = .returned (ckV l.all) ∧ Below w.heap.size w w' := by
  subst hv
  obtain ⟨W, eW, hB, hZ⟩ := res_new w
  have HR : Hid (W.rangeAt L 64 (ckL l.all)) := lk_all (keep_below h hB)
  obtain ⟨W2, eW2, hB2, hZ2⟩ := res_put hB (Nat.le_refl _) hZ l.all
  have HE := hide eW; have HE2 := hide eW2; have HB2 := hide hB2; have HZ := hide hZ; have HZ2 := hide hZ2
  clear eW hB hZ eW2 hB2 hZ2
  go_enter Try.func58, Try.ntmps58
  go_upto_region 1 with fail
  rw [ck0_arr, unhide HE]
  go_wp2_with (first | (refine wpList_load_mid rfl _ _ rfl _ _ rfl (ckL (l.all)) _ (unhide HR) Try.und65 rfl (by rw [ckL_len]; exact Try.size65) ?_) | (refine wpList_store_mid rfl _ _ _ rfl _ _ (ckL (l.all)).toArray rfl rfl (ckB_there (unhide HZ) _) (by simpa [ckL_len] using Try.size65) (ckL_all _) ?_; rw [unhide HE2]))
  exact bodyPost_ret (ret_ck (f := Try.f58) Try.results58 _ _ w.heap.size l.all rfl (unhide HZ2)) rfl ⟨rfl, unhide HB2⟩

set_option maxRecDepth 100000 in
set_option maxHeartbeats 2000000 in
theorem aheadOfLock0 (w : World) (L : Nat) (l : LockM) (v : Int) (hv : v ≠ 1) (h : w.heap[L]? = some (lkB l)) :
    Calls Try.prog 58 #[.pointer (some ⟨L, 0, none⟩), .int .i64 v] w fun e w' => e = .returned (ckV l.writers) ∧ Below w.heap.size w w' := by
  have x0 : (v == 1) = false := by simpa using hv
  obtain ⟨W, eW, hB, hZ⟩ := res_new w
  have HR : Hid (W.rangeAt L 0 (ckL l.writers)) := lk_writers (keep_below h hB)
  obtain ⟨W2, eW2, hB2, hZ2⟩ := res_put hB (Nat.le_refl _) hZ l.writers
  have HE := hide eW; have HE2 := hide eW2; have HB2 := hide hB2; have HZ := hide hZ; have HZ2 := hide hZ2
  clear eW hB hZ eW2 hB2 hZ2
  go_enter Try.func58, Try.ntmps58
  go_upto_region 1 with fail
  rw [ck0_arr, unhide HE]
  go_wp2_with (first | (refine wpList_load_mid rfl _ _ rfl _ _ rfl (ckL (l.writers)) _ (unhide HR) Try.und65 rfl (by rw [ckL_len]; exact Try.size65) ?_) | (refine wpList_store_mid rfl _ _ _ rfl _ _ (ckL (l.writers)).toArray rfl rfl (ckB_there (unhide HZ) _) (by simpa [ckL_len] using Try.size65) (ckL_all _) ?_; rw [unhide HE2]))
  exact bodyPost_ret (ret_ck (f := Try.f58) Try.results58 _ _ w.heap.size l.writers rfl (unhide HZ2)) rfl ⟨rfl, unhide HB2⟩

theorem aheadOfLock_any (w : World) (L : Nat) (l : LockM) (v : Int) (h : w.heap[L]? = some (lkB l)) :
    Calls Try.prog 58 #[.pointer (some ⟨L, 0, none⟩), .int .i64 v] w fun e w' => e = .returned (ckV (if v = 1 then l.all else l.writers)) ∧ Below w.heap.size w w' := by
  by_cases hv : v = 1
  · rw [if_pos hv]
    exact aheadOfLock1 w L l v hv h
  · rw [if_neg hv]
    exact aheadOfLock0 w L l v hv h

def unlockM (l : LockM) (v : Int) (c : Nat → Int) : LockM := ⟨if v = 1 then joinC l.writers c else l.writers, joinC l.all c⟩
theorem lkB_eq1 (l : LockM) : lkB l = .cells (ckL l.writers ++ ckL l.all ++ []).toArray 115 (0, 0) := by simp [lkB]
theorem lkB_eq0 (l : LockM) : lkB l = .cells ([] ++ ckL l.writers ++ ckL l.all).toArray 115 (0, 0) := by simp [lkB]
theorem But.next {g : Nat} {a b c : World} (h : But g a b) (k : But g b c) : But g a c := h.trans k

set_option maxRecDepth 100000 in
set_option maxHeartbeats 2000000 in
theorem keepUnlock1 (w : World) (L : Nat) (l : LockM) (c : Nat → Int) (v : Int) (hv : v = 1) (h : w.heap[L]? = some (lkB l)) :
    Calls Try.prog 61 #[.pointer (some ⟨L, 0, none⟩), .int .i64 v, ckV c] w fun e w' => e = .returned (.tuple #[]) ∧ w'.heap[L]? = some (lkB ⟨joinC l.writers c, joinC l.all c⟩) ∧ But L w w' := by
  subst hv
  obtain ⟨W, eW⟩ : ∃ X, w.alloc (.cells (ckL c).toArray 65) = X := ⟨_, rfl⟩
  have hLt := size_of h
  have HLT : Hid (w.heap.size ≠ L) := (by omega : w.heap.size ≠ L)
  have HZ : Hid (W.heap[w.heap.size]? = some (ckB c)) := by rw [← eW]; exact new_block w _
  have HB : Hid (But L w W) := by rw [← eW]; exact (But.refl L w).alloc _
  have HL : Hid (W.heap[L]? = some (lkB l)) := by rw [← eW]; exact keep_alloc h _
  have HE := hide eW
  clear eW h hLt
  go_enter Try.func61, Try.ntmps61
  go_upto_region 1 with fail
  rw [unhide HE]
  clear HE
  have HSS : Hid (∀ W' : World, W'.heap[w.heap.size]? = some (ckB c) → W'.rangeAt w.heap.size 0 (ckL c) ∧ W'.heap[w.heap.size]? = some (ckB c)) := fun W' h => ⟨range_block (l := []) (r := []) (by simpa [ckB] using h), h⟩
  have hu := Try.und65; have hi : (Try.prog.info? 65).map (·.size) = some (ckL c).length := by rw [ckL_len]; exact Try.size65
  go_region_held3 (fun W' => W'.rangeAt w.heap.size 0 (ckL c) ∧ W'.heap[w.heap.size]? = some (ckB c))
    (first | with_reducible exact unhide HSS _ ((drew_at _ _).trans (unhide HZ)) | with_reducible exact unhide HSS _ (unhide HZ1))
    (first
      | (go_at_call 51; (with_reducible refine Calls.mono (join_any _ L 64 (ckL l.writers) [] l.all c _ (ckL_len _) (((drew_at _ _).trans (unhide HL)).trans (congrArg some (lkB_eq1 l)))) ?_); rintro e w1 ⟨rfl, h1, hb1⟩; have HZ1 := hide (keep_but ((drew_at _ _).trans (unhide HZ)) hb1 (unhide HLT)); have HL1 : Hid (w1.heap[L]? = some (lkB ⟨l.writers, joinC l.all c⟩)) := hide (h1.trans (congrArg some (lkB_eq1 ⟨l.writers, joinC l.all c⟩).symm)); have HB1 := hide ((unhide HB).drew.trans hb1); clear h1 hb1))
  clear HZ HL HB HSS
  go_upto_region 3 with fail
  have HSS : Hid (∀ W' : World, W'.heap[w.heap.size]? = some (ckB c) → W'.rangeAt w.heap.size 0 (ckL c) ∧ W'.heap[w.heap.size]? = some (ckB c)) := fun W' h => ⟨range_block (l := []) (r := []) (by simpa [ckB] using h), h⟩
  go_region_held3 (fun W' => W'.rangeAt w.heap.size 0 (ckL c) ∧ W'.heap[w.heap.size]? = some (ckB c))
    (first | with_reducible exact unhide HSS _ ((drew_at _ _).trans (unhide HZ1)) | with_reducible exact unhide HSS _ (unhide HZ2))
    (first
      | (go_at_call 51; (with_reducible refine Calls.mono (join_any _ L 0 [] (ckL (joinC l.all c)) l.writers c _ rfl (((drew_at _ _).trans (unhide HL1)).trans (congrArg some (lkB_eq0 ⟨l.writers, joinC l.all c⟩)))) ?_); rintro e w2 ⟨rfl, h2, hb2⟩; have HZ2 := hide (keep_but ((drew_at _ _).trans (unhide HZ1)) hb2 (unhide HLT)); have HL2 : Hid (w2.heap[L]? = some (lkB ⟨joinC l.writers c, joinC l.all c⟩)) := hide (h2.trans (congrArg some (lkB_eq0 ⟨joinC l.writers c, joinC l.all c⟩).symm)); have HB2 := hide ((unhide HB1).drew.trans hb2); clear h2 hb2))
  go_wp2_with fail
  exact bodyPost_end (v := .tuple #[]) (by simp [results, Try.results61]) rfl ⟨rfl, unhide HL2, unhide HB2⟩
set_option maxRecDepth 100000 in
set_option maxHeartbeats 2000000 in
theorem keepUnlock0 (w : World) (L : Nat) (l : LockM) (c : Nat → Int) (v : Int) (hv : v ≠ 1) (h : w.heap[L]? = some (lkB l)) :
    Calls Try.prog 61 #[.pointer (some ⟨L, 0, none⟩), .int .i64 v, ckV c] w fun e w' => e = .returned (.tuple #[]) ∧ w'.heap[L]? = some (lkB ⟨l.writers, joinC l.all c⟩) ∧ But L w w' := by
  have x0 : (v == 1) = false := by simpa using hv
  obtain ⟨W, eW⟩ : ∃ X, w.alloc (.cells (ckL c).toArray 65) = X := ⟨_, rfl⟩
  have hLt := size_of h
  have HLT : Hid (w.heap.size ≠ L) := (by omega : w.heap.size ≠ L)
  have HZ : Hid (W.heap[w.heap.size]? = some (ckB c)) := by rw [← eW]; exact new_block w _
  have HB : Hid (But L w W) := by rw [← eW]; exact (But.refl L w).alloc _
  have HL : Hid (W.heap[L]? = some (lkB l)) := by rw [← eW]; exact keep_alloc h _
  have HE := hide eW
  clear eW h hLt
  go_enter Try.func61, Try.ntmps61
  go_upto_region 1 with fail
  rw [unhide HE]
  clear HE
  have HSS : Hid (∀ W' : World, W'.heap[w.heap.size]? = some (ckB c) → W'.rangeAt w.heap.size 0 (ckL c) ∧ W'.heap[w.heap.size]? = some (ckB c)) := fun W' h => ⟨range_block (l := []) (r := []) (by simpa [ckB] using h), h⟩
  have hu := Try.und65; have hi : (Try.prog.info? 65).map (·.size) = some (ckL c).length := by rw [ckL_len]; exact Try.size65
  go_region_held3 (fun W' => W'.rangeAt w.heap.size 0 (ckL c) ∧ W'.heap[w.heap.size]? = some (ckB c))
    (first | with_reducible exact unhide HSS _ ((drew_at _ _).trans (unhide HZ)) | with_reducible exact unhide HSS _ (unhide HZ1))
    (first
      | (go_at_call 51; (with_reducible refine Calls.mono (join_any _ L 64 (ckL l.writers) [] l.all c _ (ckL_len _) (((drew_at _ _).trans (unhide HL)).trans (congrArg some (lkB_eq1 l)))) ?_); rintro e w1 ⟨rfl, h1, hb1⟩; have HZ1 := hide (keep_but ((drew_at _ _).trans (unhide HZ)) hb1 (unhide HLT)); have HL1 : Hid (w1.heap[L]? = some (lkB ⟨l.writers, joinC l.all c⟩)) := hide (h1.trans (congrArg some (lkB_eq1 ⟨l.writers, joinC l.all c⟩).symm)); have HB1 := hide ((unhide HB).drew.trans hb1); clear h1 hb1))
  clear HZ HL HB HSS
  go_wp2_with fail
  exact bodyPost_end (v := .tuple #[]) (by simp [results, Try.results61]) rfl ⟨rfl, unhide HL1, unhide HB1⟩
theorem keepUnlock_any (w : World) (L : Nat) (l : LockM) (c : Nat → Int) (v : Int) (h : w.heap[L]? = some (lkB l)) :
    Calls Try.prog 61 #[.pointer (some ⟨L, 0, none⟩), .int .i64 v, ckV c] w fun e w' => e = .returned (.tuple #[]) ∧ w'.heap[L]? = some (lkB (unlockM l v c)) ∧ But L w w' := by
  unfold unlockM
  by_cases hv : v = 1
  · rw [if_pos hv]
    exact keepUnlock1 w L l c v hv h
  · rw [if_neg hv]
    exact keepUnlock0 w L l c v hv h

end Go.Proofs.Ytbnmeeabpjmcoaa
