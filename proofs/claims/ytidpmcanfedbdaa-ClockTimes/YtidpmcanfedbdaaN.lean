/-
  clock.with.
-/
import Derived.Test.YtidpmcanfedbdaaM
namespace Go.Proofs.Ytidpmcanfedbdaa
open Go.RowKit

/-- An alarm at its place. -/
def insL (a : Al) (xs : List Al) : List Al := putAt xs (placeN a xs) a
theorem placeN_le (a : Al) (xs : List Al) : placeN a xs ≤ xs.length := (List.takeWhile_sublist _).length_le

set_option maxRecDepth 100000 in
set_option maxHeartbeats 1000000 in
theorem with_any (w : World) (base : Nat) (a0 : Option Addr) (n c0 : Nat) (xs : List Al) (t c u y : Int) (h : Own KA base w (.slice a0 n c0) xs) (hl : xs.length = n) (hn : n ≤ 90000) (hbase : base ≤ w.heap.size) (hm : Mono (t, c, u, y) xs) :
    Calls Try.prog 32 #[.slice a0 n c0, .agg #[.int .i64 t, .int .i64 c, .int .i64 u, .int .i64 y]] w fun e w' => ∃ a' c', e = .returned (.slice a' (n + 1) c') ∧ Own KA base w' (.slice a' (n + 1) c') (insL (t, c, u, y) xs) ∧ w.grownBy w' (Value.slice a0 n c0).ownBlock := by
  have HX := hide ((Below.refl w.heap.size w).alloc (Nat.le_refl _) (.cells #[.int .i64 t, .int .i64 c, .int .i64 u, .int .i64 y] 42))
  have HP := hide (new_block w (.cells #[.int .i64 t, .int .i64 c, .int .i64 u, .int .i64 y] 42))
  have HO := hide (h.below (unhide HX))
  have hlt : ∀ k, (Value.slice a0 n c0).ownBlock = some k → k < w.heap.size := fun k hk => (h.lt k hk).2
  have HLT := hide hlt; have HLN := hide hl; have HBA := hide hbase; have HM := hide hm
  have hple := placeN_le (t, c, u, y) xs
  obtain ⟨p, ep⟩ : ∃ p, placeN (t, c, u, y) xs = p := ⟨_, rfl⟩
  have ei : insL (t, c, u, y) xs = putAt xs p (t, c, u, y) := by unfold insL; rw [ep]
  rw [ei]
  rw [ep, hl] at hple
  have HEP := hide ep
  clear h hl hbase hm hlt ep ei
  go_enter Try.func32, Try.ntmps32
  go_upto_region 1 with fail
  obtain ⟨W0, e0⟩ : ∃ W, w.alloc (.cells #[.int .i64 t, .int .i64 c, .int .i64 u, .int .i64 y] 42) = W := ⟨_, rfl⟩
  rw [e0] at HX HP HO ⊢
  clear e0
  have hwW : w.heap.size < W0.heap.size := size_of (unhide HP)
  have HPL : Hid (∀ W, Below W0.heap.size W0 W → Calls Try.prog 40 #[.slice a0 n c0, .agg #[.int .i64 t, .int .i64 c, .int .i64 u, .int .i64 y]] W fun e w' => e = .returned (.int .i64 (p : Int)) ∧ Below W.heap.size W w') := fun W hW => by
    have := placeOf_any W (.slice a0 n c0) xs t c u y ((unhide HO).isl.below hW) (by rw [unhide HLN]; omega) (unhide HM)
    rw [unhide HEP] at this
    exact this
  have HSS : Hid (∀ W : World, W.heap[w.heap.size]? = some (.cells #[.int .i64 t, .int .i64 c, .int .i64 u, .int .i64 y] 42 (0, 0)) → W.cell? ⟨w.heap.size, 0, none⟩ = some (.int .i64 t) ∧ W.cell? ⟨w.heap.size, 1, none⟩ = some (.int .i64 c) ∧ W.cell? ⟨w.heap.size, 2, none⟩ = some (.int .i64 u) ∧ W.cell? ⟨w.heap.size, 3, none⟩ = some (.int .i64 y)) := fun W hW => (block4 hW).1
  have HKB : Hid (∀ W, Below W0.heap.size W0 W → W.heap[w.heap.size]? = some (.cells #[.int .i64 t, .int .i64 c, .int .i64 u, .int .i64 y] 42 (0, 0))) := fun W hW => keep_below (unhide HP) hW
  have HIN : Hid (∀ W vb, Below W0.heap.size W0 W → W.heap[vb]? = some (.cells #[.int .i64 t, .int .i64 c, .int .i64 u, .int .i64 y] 42 (0, 0)) → W0.heap.size ≤ vb → Calls Try.prog 39 #[.slice a0 n c0, .int .i64 (p : Int), .slice (some ⟨vb, 0, none⟩) 1 1] W fun e w' => ∃ a' c', e = .returned (.slice a' (n + 1) c') ∧ Own KA base w' (.slice a' (n + 1) c') (putAt xs p (t, c, u, y)) ∧ w.grownBy w' (Value.slice a0 n c0).ownBlock ∧ w'.heap[w.heap.size]? = some (.cells #[.int .i64 t, .int .i64 c, .int .i64 u, .int .i64 y] 42 (0, 0))) := fun W vb hW hv hvb =>
    (insert_any W base a0 n c0 p xs t c u y vb ((unhide HO).below hW) (unhide HLN) (by omega) hple hv (fun k hk => by have := unhide HLT k hk; omega) (by have := unhide HBA; have := hW.size; omega)).mono fun e w' ⟨a', c', h1, h2, h3⟩ => ⟨a', c', h1, h2, grown_trans (grown_of_below (Below.next (unhide HX) hW (Nat.le_refl _))) h3, keep_grown (unhide HKB W hW) h3 (fun k hk => by have := unhide HLT k hk; omega)⟩
  obtain ⟨p0, p1, p2, p3⟩ := unhide HSS _ (unhide HP)
  go_wp2_with fail
  go_region_held3 (fun W => W.cell? ⟨w.heap.size, 0, none⟩ = some (.int .i64 t) ∧ W.cell? ⟨w.heap.size, 1, none⟩ = some (.int .i64 c) ∧ W.cell? ⟨w.heap.size, 2, none⟩ = some (.int .i64 u) ∧ W.cell? ⟨w.heap.size, 3, none⟩ = some (.int .i64 y))
    (first | with_reducible exact unhide HSS _ (unhide HKB _ (Below.refl _ _).drew) | with_reducible exact unhide HSS _ (unhide HKB _ ((Below.refl W0.heap.size W0).alloc (Nat.le_refl _) _).drew) | with_reducible exact unhide HSS _ (unhide HKB _ (unhide HX5)) | with_reducible exact unhide HSS _ (unhide HKB _ ((unhide HX5).alloc (unhide HX5).size _)) | with_reducible exact unhide HSS _ (unhide HP6))
    (first
     | (go_at_call 40; refine (unhide HPL _ (by first | exact (Below.refl _ _).drew | exact ((Below.refl W0.heap.size W0).alloc (Nat.le_refl _) _).drew)).mono ?_; rintro e w5 ⟨rfl, hb5⟩; have HX5 : Hid (Below W0.heap.size W0 w5) := Below.next (by first | exact (Below.refl _ _).drew | exact ((Below.refl W0.heap.size W0).alloc (Nat.le_refl _) _).drew) hb5 (Nat.le_refl _); (try (have HZ5 : Hid (w5.heap[W0.heap.size]? = some (.cells #[.int .i64 t, .int .i64 c, .int .i64 u, .int .i64 y] 42)) := (keep_below (w := (W0.alloc (.cells #[.int .i64 t, .int .i64 c, .int .i64 u, .int .i64 y] 42)).drew) (new_block W0 (.cells #[.int .i64 t, .int .i64 c, .int .i64 u, .int .i64 y] 42)) hb5))); clear hb5)
     | (go_at_call 39; (first | refine (unhide HIN _ W0.heap.size (unhide HX5) (unhide HZ5) (Nat.le_refl _)).mono ?_ | refine (unhide HIN _ w5.heap.size ((unhide HX5).alloc (unhide HX5).size _) (new_block _ _) (unhide HX5).size).mono ?_); rintro e w6 ⟨a', c', rfl, ho6, hg6, hp6⟩; have HO6 := hide ho6; have HG6 := hide hg6; have HP6 := hide hp6; clear ho6 hg6 hp6))
  all_goals
    go_wp2_with fail
    go_ret
    exact ⟨a', c', rfl, unhide HO6, unhide HG6⟩
end Go.Proofs.Ytidpmcanfedbdaa
