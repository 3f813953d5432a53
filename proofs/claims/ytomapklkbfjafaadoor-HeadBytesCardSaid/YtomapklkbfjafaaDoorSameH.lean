/-
  Two heads alike; the names that Read takes are bytes.
-/
import Derived.Test.YtomapklkbfjafaaDoorHeadO
namespace Go.Proofs.YtomapklkbfjafaaDoor
open Go.RowKit
set_option linter.unusedVariables false

theorem sameB_refl (a : List Int) : sameB a a = true := by simp [sameB]
set_option maxHeartbeats 1600000 in
theorem sameH_yes (lg : Bool) (lv : Int) (ph : Bool) (A : Option Addr) (c : Nat) (a : List Int) (B : Option Addr) (d : Nat) (b : List Int) (A' : Option Addr) (c' : Nat) (B' : Option Addr) (d' : Nat) (w : World)
    (ha : Rd w A a) (hb : Rd w B b) (ha' : Rd w A' a) (hb' : Rd w B' b) (h1 : Bytes a) (h2 : Bytes b) :
    Calls Tryd.prog 9 #[.agg #[.bool lg, .int .i64 lv, .bool ph, .slice A a.length c, .slice B b.length d], .agg #[.bool lg, .int .i64 lv, .bool ph, .slice A' a.length c', .slice B' b.length d']] w fun e w' => e = .returned (.bool true) ∧ Below w.heap.size w w' := by
  have C1 := Lib.hid (fun (W : World) (hb : Below w.heap.size w W) => same_any A A' c c' a a W (ha.below hb) (ha'.below hb) h1 h1)
  have C2 := Lib.hid (fun (W : World) (hx : Below w.heap.size w W) => same_any B B' d d' b b W (hb.below hx) (hb'.below hx) h2 h2)
  rw [sameB_refl] at C1 C2
  clear ha hb ha' hb' h1 h2
  have bb : Below w.heap.size w ((w.alloc (.cells #[.bool lg, .int .i64 lv, .bool ph, .slice A a.length c, .slice B b.length d] 24)).alloc (.cells #[.bool lg, .int .i64 lv, .bool ph, .slice A' a.length c', .slice B' b.length d'] 24)) := ((Below.refl _ _).alloc (Nat.le_refl _) _).alloc (by simp) _
  have BB := Lib.hid bb
  clear bb
  go_enter Tryd.func9, Tryd.ntmps9
  go_wp2_with fail
  refine (C1.out _ BB.out).mono ?_
  rintro e w1 ⟨rfl, rfl⟩
  go_wp2_with fail
  refine (C2.out _ BB.out).mono ?_
  rintro e w1 ⟨rfl, rfl⟩
  go_wp2_with fail
  go_ret
  exact ⟨rfl, BB.out⟩
theorem tkO_bytes {p : List Int} (h : Bytes p) (e : Int) (n : Nat) : Bytes (tkO p e n) := by unfold tkO; split; exact h.take _; exact Bytes.nil
theorem hdTo_bytes {p : List Int} (h : Bytes p) : Bytes (hdTo p 0) := by
  unfold hdTo
  split
  · exact tkO_bytes (tkL_bytes h _ _) _ _
  · exact tkO_bytes (tkL_bytes (tkL_bytes (tkL_bytes h _ _) _ _) _ _) _ _
theorem hdFr_bytes {p : List Int} (h : Bytes p) : Bytes (hdFr p 0) := by
  unfold hdFr
  split
  · exact Bytes.nil
  · exact tkO_bytes (tkL_bytes (nmL_bytes (tkL_bytes (tkL_bytes h _ _) _ _) _) _ _) _ _
end Go.Proofs.YtomapklkbfjafaaDoor
