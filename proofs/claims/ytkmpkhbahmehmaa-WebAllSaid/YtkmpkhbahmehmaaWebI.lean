/- X-PARTIAL A web: what is below and above: layer 29. -/
import Derived.Test.YtkmpkhbahmehmaaWebH
namespace Go.Proofs.Ytkmpkhbahmehmaa
open Go.RowKit Go.Lib

set_option maxRecDepth 100000 in
set_option maxHeartbeats 2000000 in
theorem web_below (w : World) (W : Nat) (f g : Ky → List Ky) (fp1 fp2 : Nat → Prop) (l : List Ky) (A : Option Addr) (c : Nat) (h : WebAt w W f g fp1 fp2) (hr : KRow w A l) (hm : l.length * 24 ≤ 140737488355328)
    (hcl : ∀ a b, b ∈ g a → b.cl = b) (hbd : ∀ out : List Ky, out.Nodup → (∀ z ∈ out, Reach g l z) → (out.length + 1) * 24 ≤ 140737488355328) :
    Calls Try.prog 15 #[.pointer (some ⟨W, 0, none⟩), .slice A l.length c] w fun e w' => (∃ gg n N out, e = .returned (.slice (some ⟨gg, 0, none⟩) n N) ∧ OwnK w' w.heap.size gg n N out ∧ StrictK out ∧ ∀ z, z ∈ out ↔ Reach g l z) ∧ Below w.heap.size w w' := by
  obtain ⟨r1, r2, hb, hl1, hl2, hd, hn1, hn2⟩ := h
  have m1 := blk_cell hb 1
  simp only [List.getElem?_toArray, List.getElem?_cons_zero, List.getElem?_cons_succ] at m1
  have zm := blk_lt hb
  have H := Lib.hid (web_reached w r2 g fp2 l A c hl2 hr hm hcl hbd)
  clear hr hm hl1 hl2 hcl hbd hd hn1 hn2 hb
  go_enter Try.func15, Try.ntmps15
  go_wp2_with fail
  go_at_call 30
  refine H.out.mono ?_
  rintro e w1 ⟨⟨gg, n, N, out, rfl, ho, hs, hz⟩, hb1⟩
  have HO := Lib.hid ho
  have HS := Lib.hid hs
  have HZ := Lib.hid hz
  clear H ho hs hz
  go_wp2_with fail
  go_ret
  exact ⟨⟨gg, n, N, out, rfl, HO.out, HS.out, HZ.out⟩, hb1⟩

set_option maxRecDepth 100000 in
set_option maxHeartbeats 2000000 in
theorem web_above (w : World) (W : Nat) (f g : Ky → List Ky) (fp1 fp2 : Nat → Prop) (l : List Ky) (A : Option Addr) (c : Nat) (h : WebAt w W f g fp1 fp2) (hr : KRow w A l) (hm : l.length * 24 ≤ 140737488355328)
    (hcl : ∀ a b, b ∈ f a → b.cl = b) (hbd : ∀ out : List Ky, out.Nodup → (∀ z ∈ out, Reach f l z) → (out.length + 1) * 24 ≤ 140737488355328) :
    Calls Try.prog 17 #[.pointer (some ⟨W, 0, none⟩), .slice A l.length c] w fun e w' => (∃ gg n N out, e = .returned (.slice (some ⟨gg, 0, none⟩) n N) ∧ OwnK w' w.heap.size gg n N out ∧ StrictK out ∧ ∀ z, z ∈ out ↔ Reach f l z) ∧ Below w.heap.size w w' := by
  obtain ⟨r1, r2, hb, hl1, hl2, hd, hn1, hn2⟩ := h
  have m1 := blk_cell hb 0
  simp only [List.getElem?_toArray, List.getElem?_cons_zero] at m1
  have zm := blk_lt hb
  have H := Lib.hid (web_reached w r1 f fp1 l A c hl1 hr hm hcl hbd)
  clear hr hm hl1 hl2 hcl hbd hd hn1 hn2 hb
  go_enter Try.func17, Try.ntmps17
  go_wp2_with fail
  go_at_call 30
  refine H.out.mono ?_
  rintro e w1 ⟨⟨gg, n, N, out, rfl, ho, hs, hz⟩, hb1⟩
  have HO := Lib.hid ho
  have HS := Lib.hid hs
  have HZ := Lib.hid hz
  clear H ho hs hz
  go_wp2_with fail
  go_ret
  exact ⟨⟨gg, n, N, out, rfl, HO.out, HS.out, HZ.out⟩, hb1⟩
end Go.Proofs.Ytkmpkhbahmehmaa
