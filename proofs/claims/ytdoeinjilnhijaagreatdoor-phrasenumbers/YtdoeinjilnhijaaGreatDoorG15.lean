/- slices.Insert at words: what the writer asks of it. -/
import Derived.Test.YtdoeinjilnhijaaGreatDoorG10
import Derived.Test.YtdoeinjilnhijaaGreatDoorG14
namespace Go.Proofs.YtdoeinjilnhijaaGreatDoor
open Go.RowKit
set_option linter.unusedVariables false

theorem insOk : InsOk := by
  intro w B v L i t ho hi hl hB
  rcases ho.2 with ⟨rfl, hn⟩ | ⟨g, cap, cur, rfl, hb, hgg, hle, hm, hsz, htk⟩
  · omega
  · by_cases hr : L.length + 1 ≤ cap
    · exact ins_room w B L i t g cap cur hb hgg hm hsz htk hi hl hr
    · exact ins_grow w B L i t g cap cur hb hgg hle hsz htk hi hl (by omega)
end Go.Proofs.YtdoeinjilnhijaaGreatDoor
