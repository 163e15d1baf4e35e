/- What the laws make, wherever it lies. -/
import Derived.Test.YtakpeakahofjlaaZone
import Derived.Test.YtakpeakahofjlaaRate
namespace Go.Proofs.Ytakpeakahofjlaa
open Go.RowKit
theorem to_zones2 (A : Option Addr) (cap : Nat) (l : List Zn) (w : World) (hA : RawK 2 zC w A l) (hn : l.length ≤ 1048576) :
    Calls Try.prog 49 #[.slice A l.length cap] w fun e w' => ∃ g, e = .returned (.slice (some ⟨g, 0, none⟩) l.length l.length) ∧ OwnK 37 2 zC w' w.heap.size (.slice (some ⟨g, 0, none⟩) l.length l.length) l ∧ Below w.heap.size w w' :=
  (to_zones A cap l w hA hn).mono fun _ _ h => ⟨_, h⟩
theorem to_rates2 (A : Option Addr) (cap : Nat) (l : List Rt) (w : World) (hA : RawK 4 rC w A l) (hn : l.length ≤ 1048576) :
    Calls Try.prog 54 #[.slice A l.length cap] w fun e w' => ∃ g, e = .returned (.slice (some ⟨g, 0, none⟩) l.length l.length) ∧ OwnK 87 4 rC w' w.heap.size (.slice (some ⟨g, 0, none⟩) l.length l.length) l ∧ Below w.heap.size w w' :=
  (to_rates A cap l w hA hn).mono fun _ _ h => ⟨_, h⟩
end Go.Proofs.Ytakpeakahofjlaa
