/- X-PARTIAL What meets of sets are: layer 7. -/
import Derived.Test.YtdpnphnafidpiaaNamL
namespace Go.Proofs.Ytdpnphnafidpiaa
open Go.RowKit

def meetL (la lb : List Str) : List Str := la.filter (fun x => hasL lb x)

theorem meetL_take (la lb : List Str) (k : Nat) (h : k < la.length) : meetL (la.take (k + 1)) lb = if hasL lb la[k] then meetL (la.take k) lb ++ [la[k]] else meetL (la.take k) lb := by
  unfold meetL
  rw [take_snoc' la k h, List.filter_append]
  split
  · next hh => rw [List.filter_cons_of_pos hh]; rfl
  · next hh => rw [List.filter_cons_of_neg hh]; simp

theorem meetL_len (la lb : List Str) : (meetL la lb).length ≤ la.length := List.length_filter_le _ _

theorem mem_meetL (la lb : List Str) (x : Str) : x ∈ meetL la lb ↔ x ∈ la ∧ x ∈ lb := by
  unfold meetL
  rw [List.mem_filter, hasL_iff]

def MeetRel (la lb : List Str) (W : World) (v5 i : Value) (wx : World) : Prop := ∃ k : Nat, k ≤ la.length ∧ i = .int .i64 k ∧ OwnS wx W.heap.size v5 (meetL (la.take k) lb) ∧ Below W.heap.size W wx

end Go.Proofs.Ytdpnphnafidpiaa
