/-
  The parser: Must, Number, Byte, Bytes, Text, Left, NewParser.
-/
import Derived.Test.YtpaglcojbcndoaaDoorPrsA
namespace Go.Proofs.YtpaglcojbcndoaaDoor
open Go.RowKit
set_option linter.unusedVariables false
set_option linter.unusedSimpArgs false
section
variable {gp g B : Nat} {p : List Int} {L : Int} {w : World}
theorem PMust_ok (h : Prs w gp g B p L) :
    Calls Tryd.prog 28 #[.pointer (some ⟨gp, 0, none⟩), .bool true] w fun r w' => r = .returned (.tuple #[]) ∧ Prs w' gp g B p L ∧ w.grownBy w' (some g) := by
  have c0 := h.pb.cell 0
  simp at c0
  have H := Lib.hid h
  have C := Lib.hid (Must_any g B p 0 true w h.rd)
  clear h
  go_enter Tryd.func28, Tryd.ntmps28
  go_wp2_with fail
  refine C.out.mono ?_
  rintro e w1 ⟨rfl, hr, hg⟩
  have H1 := Lib.hid (H.out.to hr hg)
  have G1 := Lib.hid hg
  clear hr hg
  go_wp2_with fail
  refine (check_ok gp g B p L w1 H1.out).mono ?_
  rintro e w2 ⟨rfl, rfl⟩
  go_wp2_with fail
  exact bodyPost_end (v := .tuple #[]) (results_none (by rfl) _ _ _) (by rfl) ⟨rfl, H1.out, G1.out⟩
theorem PMust_no (h : Prs w gp g B p L) :
    Calls Tryd.prog 28 #[.pointer (some ⟨gp, 0, none⟩), .bool false] w fun r w' => r = dies 4 ∧ w.grownBy w' (some g) := by
  have c0 := h.pb.cell 0
  simp at c0
  have H := Lib.hid h
  have C := Lib.hid (Must_any g B p 0 false w h.rd)
  clear h
  go_enter Tryd.func28, Tryd.ntmps28
  go_wp2_with fail
  refine C.out.mono ?_
  rintro e w1 ⟨rfl, hr, hg⟩
  have hk := H.out.pb.grown hg (fun e => by injection e with e; exact H.out.rd.ne_p H.out.pb e)
  have C2 := Lib.hid (check_no gp g B p L 4 w1 hk hr (by decide))
  have G1 := Lib.hid hg
  clear hr hg hk
  go_wp2_with fail
  refine C2.out.mono ?_
  rintro e w2 ⟨rfl, rfl⟩
  exact ⟨rfl, rfl, G1.out⟩
theorem PNumber_ok (h : Prs w gp g B p L) (h0 : rdS p ≠ 0) :
    Calls Tryd.prog 29 #[.pointer (some ⟨gp, 0, none⟩)] w fun r w' => r = .returned (.int .u64 (rdN p)) ∧ Prs w' gp g B (p.drop (rdS p)) L ∧ w.grownBy w' (some g) := by
  have c0 := h.pb.cell 0
  simp at c0
  have H := Lib.hid h
  have C := Number_any g B p 0 w h.rd
  rw [numN, if_pos ⟨rfl, h0⟩, numL, if_pos rfl, numE, if_neg (by simp [h0])] at C
  have C := Lib.hid C
  clear h
  go_enter Tryd.func29, Tryd.ntmps29
  go_wp2_with fail
  refine C.out.mono ?_
  rintro e w1 ⟨rfl, hr, hg⟩
  have H1 := Lib.hid (H.out.to hr hg)
  have G1 := Lib.hid hg
  clear hr hg
  go_wp2_with fail
  refine (check_ok gp g B _ L w1 H1.out).mono ?_
  rintro e w2 ⟨rfl, rfl⟩
  go_wp2_with fail
  go_ret
  exact ⟨rfl, H1.out, G1.out⟩
theorem PNumber_no (h : Prs w gp g B p L) (h0 : rdS p = 0) :
    Calls Tryd.prog 29 #[.pointer (some ⟨gp, 0, none⟩)] w fun r w' => r = dies L ∧ w.grownBy w' (some g) := by
  have c0 := h.pb.cell 0
  simp at c0
  have H := Lib.hid h
  have C := Number_any g B p 0 w h.rd
  rw [numN, if_neg (by simp [h0]), numL, if_pos rfl, numE, if_pos ⟨rfl, h0⟩] at C
  have C := Lib.hid C
  clear h
  go_enter Tryd.func29, Tryd.ntmps29
  go_wp2_with fail
  refine C.out.mono ?_
  rintro e w1 ⟨rfl, hr, hg⟩
  have hk := H.out.pb.grown hg (fun e => by injection e with e; exact H.out.rd.ne_p H.out.pb e)
  have C2 := Lib.hid (check_no gp g B _ L 2 w1 hk hr (by decide))
  have G1 := Lib.hid hg
  clear hr hg hk
  go_wp2_with fail
  refine C2.out.mono ?_
  rintro e w2 ⟨rfl, rfl⟩
  exact ⟨rfl, rfl, G1.out⟩
theorem PByte_ok {x : Int} {r : List Int} (h : Prs w gp g B (x :: r) L) :
    Calls Tryd.prog 30 #[.pointer (some ⟨gp, 0, none⟩)] w fun e w' => e = .returned (.int .u8 x) ∧ Prs w' gp g B r L ∧ w.grownBy w' (some g) := by
  have c0 := h.pb.cell 0
  simp at c0
  have H := Lib.hid h
  have C := Byte_any g B (x :: r) 0 w h.rd
  rw [byteV, if_pos rfl, tkL, if_pos ⟨rfl, by simp⟩, needE, if_neg (by simp)] at C
  have C := Lib.hid C
  clear h
  go_enter Tryd.func30, Tryd.ntmps30
  go_wp2_with fail
  refine C.out.mono ?_
  rintro e w1 ⟨rfl, hr, hg⟩
  have H1 := Lib.hid (H.out.to (q := r) hr hg)
  have G1 := Lib.hid hg
  clear hr hg
  go_wp2_with fail
  refine (check_ok gp g B _ L w1 H1.out).mono ?_
  rintro e w2 ⟨rfl, rfl⟩
  go_wp2_with fail
  go_ret
  exact ⟨rfl, H1.out, G1.out⟩
theorem PByte_no (h : Prs w gp g B [] L) :
    Calls Tryd.prog 30 #[.pointer (some ⟨gp, 0, none⟩)] w fun e w' => e = dies L ∧ w.grownBy w' (some g) := by
  have c0 := h.pb.cell 0
  simp at c0
  have H := Lib.hid h
  have C := Byte_any g B [] 0 w h.rd
  rw [byteV, if_pos rfl, tkL, if_neg (by simp), needE, if_pos ⟨rfl, by simp⟩] at C
  have C := Lib.hid C
  clear h
  go_enter Tryd.func30, Tryd.ntmps30
  go_wp2_with fail
  refine C.out.mono ?_
  rintro e w1 ⟨rfl, hr, hg⟩
  have hk := H.out.pb.grown hg (fun e => by injection e with e; exact H.out.rd.ne_p H.out.pb e)
  have C2 := Lib.hid (check_no gp g B _ L 2 w1 hk hr (by decide))
  have G1 := Lib.hid hg
  clear hr hg hk
  go_wp2_with fail
  refine C2.out.mono ?_
  rintro e w2 ⟨rfl, rfl⟩
  exact ⟨rfl, rfl, G1.out⟩
theorem PBytes_ok (n : Nat) (h : Prs w gp g B p L) (hn : n ≤ p.length) :
    Calls Tryd.prog 63 #[.pointer (some ⟨gp, 0, none⟩), .int .u64 n] w fun e w' => ∃ A' c', e = .returned (.slice A' n c') ∧ Own w' w.heap.size A' c' (p.take n) ∧ Prs w' gp g B (p.drop n) L ∧ w.grownBy w' (some g) := by
  have c0 := h.pb.cell 0
  simp at c0
  have hs := h.rd.small
  have H := Lib.hid h
  have C := RBytes_any g B p 0 n w h.rd (by omega)
  rw [tkO, if_pos ⟨rfl, hn⟩, tkL, if_pos ⟨rfl, hn⟩, needE, if_neg (by omega), show (p.take n).length = n by simp [hn]] at C
  have C := Lib.hid C
  clear h
  go_enter Tryd.func63, Tryd.ntmps63
  go_wp2_with fail
  refine C.out.mono ?_
  rintro e w1 ⟨A', c', rfl, ho, hr, hg⟩
  have H1 := Lib.hid (H.out.to hr hg)
  have G1 := Lib.hid hg
  have O1 := Lib.hid ho
  clear hr hg ho
  go_wp2_with fail
  refine (check_ok gp g B _ L w1 H1.out).mono ?_
  rintro e w2 ⟨rfl, rfl⟩
  go_wp2_with fail
  go_ret
  exact ⟨A', c', rfl, O1.out, H1.out, G1.out⟩
theorem PBytes_no (n : Nat) (h : Prs w gp g B p L) (hn : p.length < n) (hn2 : n < 18446744073709551616) :
    Calls Tryd.prog 63 #[.pointer (some ⟨gp, 0, none⟩), .int .u64 n] w fun e w' => e = dies L ∧ w.grownBy w' (some g) := by
  have c0 := h.pb.cell 0
  simp at c0
  have H := Lib.hid h
  have C := RBytes_any g B p 0 n w h.rd hn2
  rw [tkO, if_neg (by omega), tkL, if_neg (by omega), needE, if_pos ⟨rfl, hn⟩] at C
  have C := Lib.hid C
  clear h
  go_enter Tryd.func63, Tryd.ntmps63
  go_wp2_with fail
  refine C.out.mono ?_
  rintro e w1 ⟨A', c', rfl, ho, hr, hg⟩
  have hk := H.out.pb.grown hg (fun e => by injection e with e; exact H.out.rd.ne_p H.out.pb e)
  have C2 := Lib.hid (check_no gp g B _ L 2 w1 hk hr (by decide))
  have G1 := Lib.hid hg
  clear hr hg hk ho
  go_wp2_with fail
  refine C2.out.mono ?_
  rintro e w2 ⟨rfl, rfl⟩
  exact ⟨rfl, rfl, G1.out⟩
theorem PLeft_any (h : Prs w gp g B p L) :
    Calls Tryd.prog 31 #[.pointer (some ⟨gp, 0, none⟩)] w fun e w' => ∃ A' c', e = .returned (.slice A' p.length c') ∧ SlB w B A' c' p ∧ w = w' := by
  have c0 := h.pb.cell 0
  simp at c0
  have C := Left_any g B p 0 w h.rd
  rw [show leftV p 0 = p from if_pos rfl] at C
  have C := Lib.hid C
  clear h
  go_enter Tryd.func31, Tryd.ntmps31
  go_wp2_with fail
  refine C.out.mono ?_
  rintro e w1 ⟨A', c', rfl, hs, rfl⟩
  have S := Lib.hid hs
  clear hs
  go_wp2_with fail
  go_ret
  exact ⟨A', c', rfl, S.out, rfl⟩
theorem PNew_any (A : Option Addr) (c : Nat) (p : List Int) (L : Int) (w : World) (h : Sl w A c p) (hb : Bytes p) (hl : p.length ≤ 70368744177664) :
    Calls Tryd.prog 27 #[.slice A p.length c, .int .i64 L] w fun r w' => ∃ gp g, r = .returned (.pointer (some ⟨gp, 0, none⟩)) ∧ Prs w' gp g w.heap.size p L ∧ w.heap.size ≤ g ∧ Below w.heap.size w w' := by
  have C := Lib.hid (New_any A c p w h hb hl)
  clear h hb
  go_enter Tryd.func27, Tryd.ntmps27
  go_wp2_with fail
  refine C.out.mono ?_
  rintro e w1 ⟨g, rfl, hr, hb1⟩
  have R := Lib.hid hr
  have BB := Lib.hid hb1
  have hz := hb1.size
  clear hr hb1
  go_wp2_with fail
  go_ret
  exact ⟨w1.heap.size, g, rfl, ⟨Blk.new _ _ _, R.out.below ((Below.refl _ _).alloc (Nat.le_refl _) _), hz⟩, R.out.le, BB.out.alloc hz _⟩
end
end Go.Proofs.YtpaglcojbcndoaaDoor
