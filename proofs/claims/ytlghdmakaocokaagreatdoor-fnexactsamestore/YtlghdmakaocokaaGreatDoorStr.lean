/-
  TEXTS AS LISTS OF BYTES: a text written as the list of its bytes, and what the program's operations on texts do to it.
-/
import Derived.Test.YtlghdmakaocokaaGreatDoorRows
import Derived.WalkKit
import Derived.ProofKit
import Derived.OpenShut
import Derived.Below
import Derived.WalkLawsBesides
import Derived.WalkSpells
namespace Go.Proofs.YtlghdmakaocokaaGreatDoor.Str
open Go.ChangeShapes Go.WideShapes Go.ChangeAt Go.RowKit
set_option linter.unusedVariables false

def bstr (l : List UInt8) : ByteArray := ⟨l.toArray⟩

theorem bstr_append (a b : List UInt8) : bstr a ++ bstr b = bstr (a ++ b) := by
  apply ByteArray.ext
  simp [bstr]
theorem bstr_size (a : List UInt8) : (bstr a).size = a.length := by simp [bstr, ByteArray.size]
theorem bstr_toList (a : List UInt8) : (bstr a).toList = a := ByteArray.toList_mk a
theorem bstr_inj {a b : List UInt8} (h : bstr a = bstr b) : a = b := by
  have := congrArg ByteArray.toList h
  rwa [bstr_toList, bstr_toList] at this
theorem of_bytes (s : ByteArray) : s = bstr s.data.toList := rfl
theorem ret_str {a b : ByteArray} (h : a = b) : Ending.returned (.string a) = .returned (.string b) := by rw [h]

theorem idx {P : Program} (t : TypeId) (ht : P.underlying t = some .string) (l : List UInt8) (k : Nat) (c : UInt8) (h : l[k]? = some c) (w : World) : (Instr.index t (.string (bstr l)) (.int .i64 (k : Int))).run P w = .ok (.int .u8 (c.toNat : Int)) w := by
  obtain ⟨hk, hc⟩ := List.getElem?_eq_some_iff.1 h
  rw [run_index_string w t (bstr l) .i64 k ht, dif_pos ⟨by omega, by rw [bstr_size]; omega⟩]
  subst hc
  simp only [Int.toNat_natCast]
  rfl
theorem idx0 {P : Program} (t : TypeId) (ht : P.underlying t = some .string) (l : List UInt8) (c : UInt8) (h : l[0]? = some c) (w : World) : (Instr.index t (.string (bstr l)) (.int .i64 0)).run P w = .ok (.int .u8 (c.toNat : Int)) w := idx t ht l 0 c h w
theorem cut {P : Program} (t : TypeId) (ht : P.underlying t = some .string) (l : List UInt8) (i j : Nat) (hij : i ≤ j) (hj : j ≤ l.length) (w : World) :
    (Instr.slice t (.string (bstr l)) (some (.int .i64 (i : Int))) (some (.int .i64 (j : Int))) none).run P w = .ok (.string (bstr ((l.take j).drop i))) w := by
  rw [run_slice_string_if w t (bstr l) .i64 .i64 i j ht, if_pos ⟨by omega, by rw [bstr_size]; omega⟩, if_pos ⟨by omega, by omega⟩]
  congr 2
  apply ByteArray.ext
  simp only [Int.toNat_natCast, ByteArray.data_extract]
  show l.toArray.extract i j = ((l.take j).drop i).toArray
  apply Array.ext'
  simp [List.extract_eq_take_drop, List.drop_take]
theorem cutFrom {P : Program} (t : TypeId) (ht : P.underlying t = some .string) (l : List UInt8) (i : Nat) (hi : i ≤ l.length) (w : World) :
    (Instr.slice t (.string (bstr l)) (some (.int .i64 (i : Int))) none none).run P w = .ok (.string (bstr (l.drop i))) w := by
  rw [run_slice_string_l w t (bstr l) ht .i64 i (by omega) (by rw [bstr_size]; omega)]
  congr 2
  apply ByteArray.ext
  simp only [Int.toNat_natCast, ByteArray.data_extract, bstr_size]
  show l.toArray.extract i l.length = (l.drop i).toArray
  apply Array.ext'
  simp only [Array.toList_extract, List.extract_eq_take_drop]
  exact List.take_of_length_le (by simp)
theorem cutFrom1 {P : Program} (t : TypeId) (ht : P.underlying t = some .string) (l : List UInt8) (hi : 1 ≤ l.length) (w : World) :
    (Instr.slice t (.string (bstr l)) (some (.int .i64 1)) none none).run P w = .ok (.string (bstr (l.drop 1))) w := cutFrom t ht l 1 hi w
end Go.Proofs.YtlghdmakaocokaaGreatDoor.Str
