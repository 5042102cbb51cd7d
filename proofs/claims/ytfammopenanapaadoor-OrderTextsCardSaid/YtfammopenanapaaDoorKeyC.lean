/- X-PARTIAL Keys: clean ones, their order: layer 26. -/
import Derived.Test.YtfammopenanapaaDoorKeyA
import Derived.Test.YtfammopenanapaaDoorKeyLay
import Derived.Test.YtfammopenanapaaDoorKit
import Derived.Test.YtfammopenanapaaDoorSeqg
import Derived.Test.YtfammopenanapaaDoorAlloc
import Derived.Test.YtfammopenanapaaDoorTokE
import Derived.BigCall
import Derived.WalkKit
import Derived.RegionTactic
import Derived.Sort.EncStr
import Derived.LoopTactic
import Derived.Deep.RegionHeld3
import Derived.Deep.Cut
import Derived.StillTactics
import Derived.Laws.Pointers
import Derived.Scope
import Derived.ScopeJumps
import Derived.Laws.RangeAny
namespace Go.Proofs.YtfammopenanapaaDoor
open Go.RowKit Go.Lib

theorem key_Of (n : Str) (w : World) :
    Calls Tryd.prog 51 #[encStr n] w fun e w' => e = .returned (.agg #[encStr n, .int .i64 (-1)]) ∧ Below w.heap.size w w' := by
  go_enter Tryd.func51, Tryd.ntmps51
  go_wp2_with fail
  refine bodyPost_ret (by simp [results, Tryd.results51, go_sem, *] <;> rfl) rfl ⟨rfl, (by repeat (first | (with_reducible assumption) | (with_reducible exact Below.refl _ _) | (with_reducible refine Below.alloc ?_ (by first | omega | (simp; omega) | (simp; done) | (dsimp only; omega)) _) | (with_reducible refine Below.setCell ?_ (by first | omega | (simp; omega) | (simp; done) | (dsimp only; omega)) _) | (with_reducible refine Below.drew ?_) | (with_reducible refine Below.trans ?_ (Below.mono (by assumption) (by first | omega | (simp; omega) | (simp; done) | (dsimp only; omega))))))⟩

end Go.Proofs.YtfammopenanapaaDoor
