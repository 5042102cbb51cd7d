/- X-PARTIAL key.Join, Row, Put: layer 26. -/
import Derived.Test.YtkmpkhbahmehmaaKeyJ
import Derived.Test.YtkmpkhbahmehmaaKeyT
import Derived.Test.YtkmpkhbahmehmaaKeyU
import Derived.Test.YtkmpkhbahmehmaaKeyM
namespace Go.Proofs.Ytkmpkhbahmehmaa
open Go.RowKit Go.Lib

/-- A row of keys of the call's own. -/
def OwnK (w : World) (base g n cap : Nat) (l : List Ky) : Prop := l.length = n ∧ n ≤ cap ∧ w.ownsRow base 24 2 (.slice (some ⟨g, 0, none⟩) n cap) n (kcells l)
theorem OwnK.krow {w : World} {base g n cap : Nat} {l : List Ky} (h : OwnK w base g n cap l) : KRow w (some ⟨g, 0, none⟩) l := fun j hj => by
  obtain ⟨c0, c1⟩ := own_get h.2.2 h.1 hj
  exact ⟨g, 0, rfl, (h.2.2.lt g rfl).2, by rw [Nat.zero_add]; exact c0, by rw [Nat.zero_add]; exact c1⟩

set_option maxRecDepth 100000 in
theorem key_Join (la lb : List Ky) (A B : Option Addr) (ca cb : Nat) (w : World) (hra : KRow w A la) (hrb : KRow w B lb) (hm : (la.length + lb.length) * 24 ≤ 281474976710656) :
    Calls Try.prog 34 #[.slice A la.length ca, .slice B lb.length cb] w fun e w' => (∃ g n N, e = .returned (.slice (some ⟨g, 0, none⟩) n N) ∧ OwnK w' w.heap.size g n N (rowR (la ++ lb))) ∧ Below w.heap.size w w' := by
  refine Calls.mono (key_join_of la lb A B ca cb w hra hrb hm (fun l' v W => ∃ g N, v = .slice (some ⟨g, 0, none⟩) (ddK l').length N ∧ (ddK l').length ≤ N ∧ W.ownsRow w.heap.size 24 2 v (ddK l').length (kcells (ddK l'))) ?_ (fun l' W hp hs hown => ?_)) ?_
  · rintro l v W D o' ⟨g, N, rfl, hN, hr⟩ ⟨o, ho, hc⟩
    exact ⟨g, N, rfl, hN, own_kept hr (grownBy_putObj' W D o') (fun r e => by cases e; exact ⟨o, ho, hc⟩)⟩
  · have hl : l'.length = la.length + lb.length := by rw [hp.length_eq]; simp
    refine (key_compact l' w.heap.size (la.length + lb.length) w.heap.size W (by omega) (by omega) hown).mono ?_
    rintro e w' ⟨rfl, h1, h2⟩
    have := ddK_len l'
    exact ⟨⟨_, rfl, _, _, rfl, by omega, h1⟩, h2⟩
  · rintro e w' ⟨⟨l', v, hp, hs, rfl, g, N, rfl, hN, hr⟩, hb⟩
    have := row_is hp hs
    exact ⟨⟨g, _, N, rfl, by rw [this], hN, by rw [← this]; exact hr⟩, hb⟩

set_option maxRecDepth 100000 in
theorem key_Row (l : List Ky) (A : Option Addr) (c : Nat) (w : World) (hr : KRow w A l) (hm : l.length * 24 ≤ 281474976710656) :
    Calls Try.prog 29 #[.slice A l.length c] w fun e w' => (∃ g n N, e = .returned (.slice (some ⟨g, 0, none⟩) n N) ∧ OwnK w' w.heap.size g n N (rowR l)) ∧ Below w.heap.size w w' := by
  have H0 := key_Join l [] A none c 0 w hr (fun j hj => absurd hj (by simp)) (by simpa using hm)
  rw [List.append_nil] at H0
  have H := Lib.hid H0
  clear H0 hr hm
  go_enter Try.func29, Try.ntmps29
  go_wp2_with fail
  go_at_call 34
  refine H.out.mono ?_
  rintro e w1 ⟨⟨g, n, N, rfl, ho⟩, hb⟩
  have HO := Lib.hid ho
  clear ho H
  go_wp2_with fail
  go_ret
  exact ⟨⟨g, n, N, rfl, HO.out⟩, hb⟩

end Go.Proofs.Ytkmpkhbahmehmaa
