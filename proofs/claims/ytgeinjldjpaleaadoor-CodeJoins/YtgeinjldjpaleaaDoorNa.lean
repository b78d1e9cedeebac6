/-
  What the tables of the library hold; code.readNumber.
-/
import Derived.Test.YtgeinjldjpaleaaDoorI
import Derived.Test.YtgeinjldjpaleaaDoorSj
import Derived.WalkSmall
import Derived.Lib.AtoiAllCases
import Derived.Lib.AppendIntMem
namespace Go.Proofs.YtgeinjldjpaleaaDoor
open Go.RowKit

/-- The library's tables and errors lie where they are laid. -/
structure Libs (w : World) : Prop where
  pow : Lib.TabIs Tryd.prog w "internal/strconv.uint64pow10" .u64 Lib.pow10Tab
  syn : ∃ tp p, w.var? Tryd.prog "strconv.ErrSyntax" = some #[.iface tp p]
  ran : ∃ tp p, w.var? Tryd.prog "strconv.ErrRange" = some #[.iface tp p]
  mx : ∃ m, w.cell? ⟨4, 0, none⟩ = some (.int .i64 m)
  big : 12 ≤ w.heap.size
theorem Libs.below {w w' : World} (h : Libs w) (hb : Below w.heap.size w w') : Libs w' := by
  have hbig := h.big
  refine ⟨?_, ?_, ?_, ?_, Nat.le_trans hbig hb.size⟩
  · exact var?_below (g := 5) hb (by kernel_rfl) (by omega) h.pow
  · obtain ⟨tp, p, e⟩ := h.syn
    exact ⟨tp, p, var?_below (g := 8) hb (by kernel_rfl) (by omega) e⟩
  · obtain ⟨tp, p, e⟩ := h.ran
    exact ⟨tp, p, var?_below (g := 9) hb (by kernel_rfl) (by omega) e⟩
  · obtain ⟨m, e⟩ := h.mx
    exact ⟨m, (hb.cell (World.block_lt_of_cell? w _ e)).trans e⟩

/-- A number that is written as it would be told. -/
def numOf (s : ByteArray) : Int := match Lib.atoiAll s.data.toList with | .ok v => v | .«syntax» => 0 | .range => Lib.atoiSat s.data.toList
def numOk (s : ByteArray) : Bool := match Lib.atoiAll s.data.toList with | .ok v => ((⟨(Lib.itoa v).toArray⟩ : ByteArray).toList == s.toList) | _ => false

set_option maxRecDepth 100000 in
set_option maxHeartbeats 1000000 in
theorem readNumber_ok (w : World) (hl : Libs w) (s : ByteArray) (hs : s.size ≤ 1000000) (v : Int) (hv : Lib.atoiAll s.data.toList = .ok v) :
    Calls Tryd.prog 54 #[.string s] w fun e w' => e = .returned (.tuple #[.int .i64 v, .bool (((⟨(Lib.itoa v).toArray⟩ : ByteArray).toList == s.toList))]) ∧ Below w.heap.size w w' := by
  obtain ⟨b0, b1⟩ := Lib.atoiAll_bounds hv
  have HA := hide fun W => Tryd.strconv_Atoi_ok s (by omega) v hv W
  have HI := hide fun W (hW : Below w.heap.size w W) => Tryd.strconv_Itoa v b0 b1 W (hl.below hW).pow
  obtain ⟨T, eT⟩ : ∃ T, (⟨(Lib.itoa v).toArray⟩ : ByteArray) = T := ⟨_, rfl⟩
  rw [eT] at HI ⊢
  clear hl hv b0 b1 hs eT
  go_enter Tryd.func54, Tryd.ntmps54
  go_upto_region 2 with (go_at_call 64; refine (unhide HA _).mono ?_; rintro e w1 ⟨rfl, h1⟩; have HB1 : Hid (Below w.heap.size w w1) := (by rcases h1 with rfl | ⟨t, rfl⟩ <;> first | exact Below.refl _ _ | exact Lib.bytesWorld_below _ _ _); clear h1)
  go_wp2_with (go_at_call 50; refine (unhide HI _ (unhide HB1)).mono ?_; rintro e w2 ⟨rfl, k, os, h2⟩; have HB2 : Hid (Below w.heap.size w w2) := (unhide HB1).trans (by rw [h2]; exact Lib.below_grow _ _ (unhide HB1).size _ _); clear h2)
  go_ret2
  exact ⟨by first | rfl | simp, unhide HB2⟩

set_option maxRecDepth 100000 in
set_option maxHeartbeats 1000000 in
theorem readNumber_syn (w : World) (hl : Libs w) (s : ByteArray) (hs : s.size ≤ 1000000) (hv : Lib.atoiAll s.data.toList = .«syntax») :
    Calls Tryd.prog 54 #[.string s] w fun e w' => e = .returned (.tuple #[.int .i64 0, .bool false]) ∧ Below w.heap.size w w' := by
  obtain ⟨tp, p, hp⟩ := hl.syn
  have HA := hide (Tryd.strconv_Atoi_syntax_var s (by omega) hv tp p w hp)
  clear hl hv hs hp
  go_enter Tryd.func54, Tryd.ntmps54
  go_wp2_with (go_at_call 64; refine (unhide HA).mono ?_; rintro e w1 ⟨N, rfl, hN, hc, b1⟩; have HB1 := hide b1; clear b1 hc)
  go_ret2
  exact ⟨rfl, unhide HB1⟩

set_option maxRecDepth 100000 in
set_option maxHeartbeats 1000000 in
theorem readNumber_ran (w : World) (hl : Libs w) (s : ByteArray) (hs : s.size ≤ 1000000) (hv : Lib.atoiAll s.data.toList = .range) :
    Calls Tryd.prog 54 #[.string s] w fun e w' => e = .returned (.tuple #[.int .i64 (Lib.atoiSat s.data.toList), .bool false]) ∧ Below w.heap.size w w' := by
  obtain ⟨tp, p, hp⟩ := hl.ran
  have HA := hide (Tryd.strconv_Atoi_range_var s (by omega) hv tp p w hp)
  obtain ⟨x, ex⟩ : ∃ x, Lib.atoiSat s.data.toList = x := ⟨_, rfl⟩
  rw [ex] at HA ⊢
  clear hl hv hs hp ex
  go_enter Tryd.func54, Tryd.ntmps54
  go_wp2_with (go_at_call 64; refine (unhide HA).mono ?_; rintro e w1 ⟨N, rfl, hN, hc, b1⟩; have HB1 := hide b1; clear b1 hc)
  go_ret2
  exact ⟨rfl, unhide HB1⟩

theorem readNumber_any (w : World) (hl : Libs w) (s : ByteArray) (hs : s.size ≤ 1000000) :
    Calls Tryd.prog 54 #[.string s] w fun e w' => e = .returned (.tuple #[.int .i64 (numOf s), .bool (numOk s)]) ∧ Below w.heap.size w w' := by
  unfold numOf numOk
  cases hv : Lib.atoiAll s.data.toList with
  | ok v => exact readNumber_ok w hl s hs v hv
  | «syntax» => exact readNumber_syn w hl s hs hv
  | range => exact readNumber_ran w hl s hs hv
end Go.Proofs.YtgeinjldjpaleaaDoor
