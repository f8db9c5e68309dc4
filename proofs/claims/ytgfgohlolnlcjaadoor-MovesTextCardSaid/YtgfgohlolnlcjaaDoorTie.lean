/-
  DERIVED. GIVEN WITH THE SEED: THE PROGRAM's TIES (one call each: nine closed facts by the kernel) AND EACH ROW's TIE, after the 31st guide's Derived/Test/Toyas{Tie, Card}.lean. No idea stands in it: it is a product of the set-up. Laid BY PROGRAM, IN A SANDBOX (cutbox-door.mjs). By AI agents, Wed Nov 11 2026. No macro, syntax, notation, axiom, sorry.
-/
import Derived.Test.YtgfgohlolnlcjaaDoorRows
import Derived.LaidByTextLater
import Derived.SevenTiedAt
import Derived.LaidSub
import Derived.LaidOnce
namespace Go.Proofs.YtgfgohlolnlcjaaDoor
open Go
set_option maxRecDepth 100000
theorem seatTie1 : Tryd.prog.laidByTextLater [("kibitzer/rules.variants", Rows.laid_kibitzer_rules_variants), ("kibitzer/rules.knights", Rows.laid_kibitzer_rules_knights), ("kibitzer/moves.goals", Rows.laid_kibitzer_moves_goals)] [.data, .data, .data] true :=
  Program.laidByTextLater_by_one 51 8 64 (by kernel_rfl) (by kernel_rfl) (by kernel_rfl) (by kernel_rfl) (by kernel_rfl) (by kernel_rfl) (fun _ _ => by kernel_rfl)
theorem noOwnUnsafe : Tryd.pinned.checked.prog.headLifts.contains "ownunsafe" = false := by kernel_rfl
theorem tie : Tryd.prog.laidByTextLater [("kibitzer/moves.goals", Rows.laid_kibitzer_moves_goals)] [.data] true :=
  Program.laidByTextLater.sub seatTie1 ["kibitzer/moves.goals"] (by kernel_rfl) (by kernel_rfl)
theorem movesText_row_tie : Rows.movesTextRow.laidByTextAt .later Tryd.pinned [.data] true :=
  OpenClaim.laidByTextAt_later rfl rfl tie noOwnUnsafe
theorem movesParse_row_tie : Rows.movesParseRow.laidByTextAt .later Tryd.pinned [.data] true :=
  OpenClaim.laidByTextAt_later rfl rfl tie noOwnUnsafe
theorem tie2 : Tryd.prog.laidByTextLater [("kibitzer/rules.variants", Rows.laid_kibitzer_rules_variants), ("kibitzer/rules.knights", Rows.laid_kibitzer_rules_knights), ("kibitzer/moves.goals", Rows.laid_kibitzer_moves_goals)] [.data, .data, .data] true :=
  Program.laidByTextLater.sub seatTie1 ["kibitzer/rules.variants", "kibitzer/rules.knights", "kibitzer/moves.goals"] (by kernel_rfl) (by kernel_rfl)
theorem movesBack_row_tie : Rows.movesBackRow.laidByTextAt .later Tryd.pinned [.data, .data, .data] true :=
  OpenClaim.laidByTextAt_later rfl rfl tie2 noOwnUnsafe
theorem movesOne_row_tie : Rows.movesOneRow.laidByTextAt .later Tryd.pinned [.data, .data, .data] true :=
  OpenClaim.laidByTextAt_later rfl rfl tie2 noOwnUnsafe
theorem movesPlain_row_tie : Rows.movesPlainRow.laidByTextAt .later Tryd.pinned [.data, .data, .data] true :=
  OpenClaim.laidByTextAt_later rfl rfl tie2 noOwnUnsafe
theorem movesDrops_row_tie : Rows.movesDropsRow.laidByTextAt .later Tryd.pinned [.data, .data, .data] true :=
  OpenClaim.laidByTextAt_later rfl rfl tie2 noOwnUnsafe
theorem movesTextUpto_row_tie : Rows.movesTextUptoRow.laidByTextAt .later Tryd.pinned [.data] true :=
  OpenClaim.laidByTextAt_later rfl rfl tie noOwnUnsafe
theorem movesParseUpto_row_tie : Rows.movesParseUptoRow.laidByTextAt .later Tryd.pinned [.data] true :=
  OpenClaim.laidByTextAt_later rfl rfl tie noOwnUnsafe
theorem movesBackUpto_row_tie : Rows.movesBackUptoRow.laidByTextAt .later Tryd.pinned [.data, .data, .data] true :=
  OpenClaim.laidByTextAt_later rfl rfl tie2 noOwnUnsafe
theorem movesOneUpto_row_tie : Rows.movesOneUptoRow.laidByTextAt .later Tryd.pinned [.data, .data, .data] true :=
  OpenClaim.laidByTextAt_later rfl rfl tie2 noOwnUnsafe
theorem movesPlainUpto_row_tie : Rows.movesPlainUptoRow.laidByTextAt .later Tryd.pinned [.data, .data, .data] true :=
  OpenClaim.laidByTextAt_later rfl rfl tie2 noOwnUnsafe
theorem movesDropsUpto_row_tie : Rows.movesDropsUptoRow.laidByTextAt .later Tryd.pinned [.data, .data, .data] true :=
  OpenClaim.laidByTextAt_later rfl rfl tie2 noOwnUnsafe
end Go.Proofs.YtgfgohlolnlcjaaDoor
