/- The zero values of both machines' memories. No condition. -/
import Derived.Test.YtelfhpmbnficfaaProg
import Derived.WalkKit
import Derived.ProofKit
import Derived.Handy
namespace Go.Proofs.Ytelfhpmbnficfaa
open Go.RowKit
set_option linter.unusedVariables false
set_option maxRecDepth 100000
theorem zero61 : (Try.prog.info? 61).map (fun i => i.zero) = some (some (.agg (List.replicate 65536 (Value.int .u8 0) ++ [Value.slice none 0 0]).toArray)) := by kernel_rfl
theorem zero29 : (Try.prog.info? 29).map (fun i => i.zero) = some (some (.agg (List.replicate 65536 (Value.int .u8 0) ++ [Value.slice none 0 0]).toArray)) := by kernel_rfl
theorem zV61 (w : World) : (zeroValue 61).run Try.prog w = .ok (.agg (List.replicate 65536 (Value.int .u8 0) ++ [Value.slice none 0 0]).toArray) w := by kernel_rfl
theorem zV29 (w : World) : (zeroValue 29).run Try.prog w = .ok (.agg (List.replicate 65536 (Value.int .u8 0) ++ [Value.slice none 0 0]).toArray) w := by kernel_rfl
theorem bld61 : Try.prog.built 61 [] = some (List.replicate 65536 (Value.int .u8 0) ++ [Value.slice none 0 0]).toArray := by kernel_rfl
theorem bld29 : Try.prog.built 29 [] = some (List.replicate 65536 (Value.int .u8 0) ++ [Value.slice none 0 0]).toArray := by kernel_rfl
theorem size61 : (Try.prog.info? 61).map (·.size) = some 65537 := by kernel_rfl
theorem size29 : (Try.prog.info? 29).map (·.size) = some 65537 := by kernel_rfl
end Go.Proofs.Ytelfhpmbnficfaa
