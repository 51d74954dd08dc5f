/- bits.Len64 tells how many bits a number has. No condition. -/
import Derived.Test.YtbabpmncdphnjaaPs
import Derived.Test.YtbabpmncdphnjaaUq
namespace Go.Proofs.Ytbabpmncdphnjaa
open Go.RowKit
set_option linter.unusedVariables false
set_option maxRecDepth 100000

def tab8 : ByteArray := ⟨#[0, 1, 2, 2, 3, 3, 3, 3, 4, 4, 4, 4, 4, 4, 4, 4, 5, 5, 5, 5, 5, 5, 5, 5, 5, 5, 5, 5, 5, 5, 5, 5, 6, 6, 6, 6, 6, 6, 6, 6, 6, 6, 6, 6, 6, 6, 6, 6, 6, 6, 6, 6, 6, 6, 6, 6, 6, 6, 6, 6, 6, 6, 6, 6, 7, 7, 7, 7, 7, 7, 7, 7, 7, 7, 7, 7, 7, 7, 7, 7, 7, 7, 7, 7, 7, 7, 7, 7, 7, 7, 7, 7, 7, 7, 7, 7, 7, 7, 7, 7, 7, 7, 7, 7, 7, 7, 7, 7, 7, 7, 7, 7, 7, 7, 7, 7, 7, 7, 7, 7, 7, 7, 7, 7, 7, 7, 7, 7, 8, 8, 8, 8, 8, 8, 8, 8, 8, 8, 8, 8, 8, 8, 8, 8, 8, 8, 8, 8, 8, 8, 8, 8, 8, 8, 8, 8, 8, 8, 8, 8, 8, 8, 8, 8, 8, 8, 8, 8, 8, 8, 8, 8, 8, 8, 8, 8, 8, 8, 8, 8, 8, 8, 8, 8, 8, 8, 8, 8, 8, 8, 8, 8, 8, 8, 8, 8, 8, 8, 8, 8, 8, 8, 8, 8, 8, 8, 8, 8, 8, 8, 8, 8, 8, 8, 8, 8, 8, 8, 8, 8, 8, 8, 8, 8, 8, 8, 8, 8, 8, 8, 8, 8, 8, 8, 8, 8, 8, 8, 8, 8, 8, 8, 8, 8, 8, 8, 8, 8, 8, 8, 8, 8, 8, 8, 8, 8]⟩
theorem tab_all : ∀ n : Fin 256, ((tab8[n.val]?).getD 0).toNat = bitLen n.val := by decide +kernel
theorem tabAt (n : Nat) (h : n < tab8.size) : ((tab8[n]'h).toNat : Int) = bitLen n := by
  have e := tab_all ⟨n, h⟩
  have hg : tab8[n]? = some (tab8[n]'h) := getElem?_pos tab8 n h
  rw [hg] at e
  exact congrArg Int.ofNat e
theorem fin64 (k : Int) (kn : Nat) (y x : Int) (hkk : k = kn) (hk : kn ≤ 56) (hy : 0 ≤ y ∧ y < 256) (hx : bitLen x.toNat = kn + bitLen y.toNat) (h : y.toNat < tab8.size) : wrap64 (k + wrap64 ((tab8[y.toNat]'h).toNat : Int)) = (bitLen x.toNat : Int) := by
  rw [tabAt _ h, hx, hkk]
  have l := bitLen_le8 y.toNat (by omega)
  unfold wrap64
  omega
theorem fin0 (x : Int) (hy : 0 ≤ x ∧ x < 256) (h : x.toNat < tab8.size) : wrap64 (wrap64 ((tab8[x.toNat]'h).toNat : Int)) = (bitLen x.toNat : Int) := by
  rw [tabAt _ h]
  have l := bitLen_le8 x.toNat (by omega)
  unfold wrap64
  omega
set_option maxHeartbeats 4000000 in
theorem len64_any (x : Int) (w : World) (h0 : 0 ≤ x) (h1 : x ≤ 18446744073709551615) : Calls Try.prog 58 #[.int .u64 x] w fun e w' => e = .returned (.int .i64 (bitLen x.toNat)) ∧ w = w' := by
  go_enter Try.func58, Try.ntmps58
  go_wp2
  all_goals (go_ret; refine ⟨congrArg Ending.returned (congrArg (Value.int IntKind.i64) ?_), rfl⟩)
  · exact fin64 56 56 (x / 4294967296 / 65536 / 256) x rfl (by omega) (by omega) (by have e := bitLen_shift x.toNat 56 (by rw [show (2 : Nat) ^ 56 = 72057594037927936 from rfl]; omega); rw [e, show (2 : Nat) ^ 56 = 72057594037927936 from rfl]; congr 2; omega) _
  · exact fin64 48 48 (x / 4294967296 / 65536) x rfl (by omega) (by omega) (by have e := bitLen_shift x.toNat 48 (by rw [show (2 : Nat) ^ 48 = 281474976710656 from rfl]; omega); rw [e, show (2 : Nat) ^ 48 = 281474976710656 from rfl]; congr 2; omega) _
  · exact fin64 40 40 (x / 4294967296 / 256) x rfl (by omega) (by omega) (by have e := bitLen_shift x.toNat 40 (by rw [show (2 : Nat) ^ 40 = 1099511627776 from rfl]; omega); rw [e, show (2 : Nat) ^ 40 = 1099511627776 from rfl]; congr 2; omega) _
  · exact fin64 32 32 (x / 4294967296) x rfl (by omega) (by omega) (by have e := bitLen_shift x.toNat 32 (by rw [show (2 : Nat) ^ 32 = 4294967296 from rfl]; omega); rw [e, show (2 : Nat) ^ 32 = 4294967296 from rfl]; congr 2; omega) _
  · exact fin64 24 24 (x / 65536 / 256) x rfl (by omega) (by omega) (by have e := bitLen_shift x.toNat 24 (by rw [show (2 : Nat) ^ 24 = 16777216 from rfl]; omega); rw [e, show (2 : Nat) ^ 24 = 16777216 from rfl]; congr 2; omega) _
  · exact fin64 16 16 (x / 65536) x rfl (by omega) (by omega) (by have e := bitLen_shift x.toNat 16 (by rw [show (2 : Nat) ^ 16 = 65536 from rfl]; omega); rw [e, show (2 : Nat) ^ 16 = 65536 from rfl]; congr 2; omega) _
  · exact fin64 8 8 (x / 256) x rfl (by omega) (by omega) (by have e := bitLen_shift x.toNat 8 (by rw [show (2 : Nat) ^ 8 = 256 from rfl]; omega); rw [e, show (2 : Nat) ^ 8 = 256 from rfl]; congr 2; omega) _
  · exact fin0 x (by omega) _
end Go.Proofs.Ytbabpmncdphnjaa
