import Derived.Test.YtjpcgnkgdaphoaaDoorQ1
namespace Go.Proofs.YtjpcgnkgdaphoaaDoor
open Go.ChangeShapes Go.WideShapes Go.ChangeAt Go.RowKit Go.Shelf Go.Maps
set_option linter.unusedVariables false
set_option linter.unusedSimpArgs false
set_option maxRecDepth 100000
theorem not_in (l w : List UInt8) (h : resWords.contains l = false) (hw : resWords.contains w = true) : (l == w) = false := by
  rw [beq_eq_false_iff_ne]; rintro rfl; rw [h] at hw; cases hw
set_option maxHeartbeats 8000000 in
theorem spec_reserved_no (s : ByteArray) (w : World) (h : resWords.contains s.data.toList = false) :
    Calls Tryd.prog 5 #[.string s] w fun e w' => e = .returned (.bool false) ∧ w' = w := by
  rw [← Lib.toList_data] at h
  generalize hl : s.toList = l at h
  have h0 : (l == [97, 108, 108]) = false := not_in l _ h (by kernel_rfl)
  have h1 : (l == [97, 110, 100]) = false := not_in l _ h (by kernel_rfl)
  have h2 : (l == [97, 115]) = false := not_in l _ h (by kernel_rfl)
  have h3 : (l == [97, 115, 99]) = false := not_in l _ h (by kernel_rfl)
  have h4 : (l == [97, 118, 103]) = false := not_in l _ h (by kernel_rfl)
  have h5 : (l == [98, 101, 103, 105, 110]) = false := not_in l _ h (by kernel_rfl)
  have h6 : (l == [98, 101, 116, 119, 101, 101, 110]) = false := not_in l _ h (by kernel_rfl)
  have h7 : (l == [98, 121]) = false := not_in l _ h (by kernel_rfl)
  have h8 : (l == [98, 111, 111, 108, 101, 97, 110]) = false := not_in l _ h (by kernel_rfl)
  have h9 : (l == [99, 97, 115, 101]) = false := not_in l _ h (by kernel_rfl)
  have h10 : (l == [99, 97, 115, 116]) = false := not_in l _ h (by kernel_rfl)
  have h11 : (l == [99, 104, 101, 99, 107]) = false := not_in l _ h (by kernel_rfl)
  have h12 : (l == [99, 104, 101, 99, 107, 112, 111, 105, 110, 116]) = false := not_in l _ h (by kernel_rfl)
  have h13 : (l == [99, 111, 109, 109, 105, 116]) = false := not_in l _ h (by kernel_rfl)
  have h14 : (l == [99, 111, 117, 110, 116]) = false := not_in l _ h (by kernel_rfl)
  have h15 : (l == [99, 114, 101, 97, 116, 101]) = false := not_in l _ h (by kernel_rfl)
  have h16 : (l == [99, 114, 111, 115, 115]) = false := not_in l _ h (by kernel_rfl)
  have h17 : (l == [100, 97, 116, 101]) = false := not_in l _ h (by kernel_rfl)
  have h18 : (l == [100, 101, 99, 105, 109, 97, 108]) = false := not_in l _ h (by kernel_rfl)
  have h19 : (l == [100, 101, 102, 97, 117, 108, 116]) = false := not_in l _ h (by kernel_rfl)
  have h20 : (l == [100, 101, 108, 101, 116, 101]) = false := not_in l _ h (by kernel_rfl)
  have h21 : (l == [100, 101, 115, 99]) = false := not_in l _ h (by kernel_rfl)
  have h22 : (l == [100, 105, 115, 116, 105, 110, 99, 116]) = false := not_in l _ h (by kernel_rfl)
  have h23 : (l == [100, 114, 111, 112]) = false := not_in l _ h (by kernel_rfl)
  have h24 : (l == [101, 108, 115, 101]) = false := not_in l _ h (by kernel_rfl)
  have h25 : (l == [101, 110, 100]) = false := not_in l _ h (by kernel_rfl)
  have h26 : (l == [101, 120, 99, 101, 112, 116]) = false := not_in l _ h (by kernel_rfl)
  have h27 : (l == [101, 120, 105, 115, 116, 115]) = false := not_in l _ h (by kernel_rfl)
  have h28 : (l == [101, 120, 112, 108, 97, 105, 110]) = false := not_in l _ h (by kernel_rfl)
  have h29 : (l == [102, 97, 108, 115, 101]) = false := not_in l _ h (by kernel_rfl)
  have h30 : (l == [102, 105, 114, 115, 116]) = false := not_in l _ h (by kernel_rfl)
  have h31 : (l == [102, 114, 111, 109]) = false := not_in l _ h (by kernel_rfl)
  have h32 : (l == [103, 114, 111, 117, 112]) = false := not_in l _ h (by kernel_rfl)
  have h33 : (l == [104, 97, 118, 105, 110, 103]) = false := not_in l _ h (by kernel_rfl)
  have h34 : (l == [105, 110]) = false := not_in l _ h (by kernel_rfl)
  have h35 : (l == [105, 110, 100, 101, 120]) = false := not_in l _ h (by kernel_rfl)
  have h36 : (l == [105, 110, 110, 101, 114]) = false := not_in l _ h (by kernel_rfl)
  have h37 : (l == [105, 110, 115, 101, 114, 116]) = false := not_in l _ h (by kernel_rfl)
  have h38 : (l == [105, 110, 116]) = false := not_in l _ h (by kernel_rfl)
  have h39 : (l == [105, 110, 116, 111]) = false := not_in l _ h (by kernel_rfl)
  have h40 : (l == [105, 115]) = false := not_in l _ h (by kernel_rfl)
  have h41 : (l == [106, 111, 105, 110]) = false := not_in l _ h (by kernel_rfl)
  have h42 : (l == [107, 101, 121]) = false := not_in l _ h (by kernel_rfl)
  have h43 : (l == [108, 97, 115, 116]) = false := not_in l _ h (by kernel_rfl)
  have h44 : (l == [108, 101, 102, 116]) = false := not_in l _ h (by kernel_rfl)
  have h45 : (l == [108, 105, 107, 101]) = false := not_in l _ h (by kernel_rfl)
  have h46 : (l == [108, 105, 109, 105, 116]) = false := not_in l _ h (by kernel_rfl)
  have h47 : (l == [109, 97, 120]) = false := not_in l _ h (by kernel_rfl)
  have h48 : (l == [109, 105, 110]) = false := not_in l _ h (by kernel_rfl)
  have h49 : (l == [110, 111, 116]) = false := not_in l _ h (by kernel_rfl)
  have h50 : (l == [110, 117, 108, 108]) = false := not_in l _ h (by kernel_rfl)
  have h51 : (l == [110, 117, 108, 108, 115]) = false := not_in l _ h (by kernel_rfl)
  have h52 : (l == [111, 102, 102, 115, 101, 116]) = false := not_in l _ h (by kernel_rfl)
  have h53 : (l == [111, 110]) = false := not_in l _ h (by kernel_rfl)
  have h54 : (l == [111, 114]) = false := not_in l _ h (by kernel_rfl)
  have h55 : (l == [111, 114, 100, 101, 114]) = false := not_in l _ h (by kernel_rfl)
  have h56 : (l == [111, 117, 116, 101, 114]) = false := not_in l _ h (by kernel_rfl)
  have h57 : (l == [112, 114, 105, 109, 97, 114, 121]) = false := not_in l _ h (by kernel_rfl)
  have h58 : (l == [114, 101, 108, 101, 97, 115, 101]) = false := not_in l _ h (by kernel_rfl)
  have h59 : (l == [114, 111, 108, 108, 98, 97, 99, 107]) = false := not_in l _ h (by kernel_rfl)
  have h60 : (l == [115, 97, 118, 101, 112, 111, 105, 110, 116]) = false := not_in l _ h (by kernel_rfl)
  have h61 : (l == [115, 101, 108, 101, 99, 116]) = false := not_in l _ h (by kernel_rfl)
  have h62 : (l == [115, 101, 114, 105, 97, 108, 105, 122, 97, 98, 108, 101]) = false := not_in l _ h (by kernel_rfl)
  have h63 : (l == [115, 101, 116]) = false := not_in l _ h (by kernel_rfl)
  have h64 : (l == [115, 110, 97, 112, 115, 104, 111, 116]) = false := not_in l _ h (by kernel_rfl)
  have h65 : (l == [115, 117, 109]) = false := not_in l _ h (by kernel_rfl)
  have h66 : (l == [116, 97, 98, 108, 101]) = false := not_in l _ h (by kernel_rfl)
  have h67 : (l == [116, 101, 120, 116]) = false := not_in l _ h (by kernel_rfl)
  have h68 : (l == [116, 104, 101, 110]) = false := not_in l _ h (by kernel_rfl)
  have h69 : (l == [116, 111]) = false := not_in l _ h (by kernel_rfl)
  have h70 : (l == [116, 114, 117, 101]) = false := not_in l _ h (by kernel_rfl)
  have h71 : (l == [117, 110, 105, 111, 110]) = false := not_in l _ h (by kernel_rfl)
  have h72 : (l == [117, 110, 105, 113, 117, 101]) = false := not_in l _ h (by kernel_rfl)
  have h73 : (l == [117, 112, 100, 97, 116, 101]) = false := not_in l _ h (by kernel_rfl)
  have h74 : (l == [118, 97, 108, 117, 101, 115]) = false := not_in l _ h (by kernel_rfl)
  have h75 : (l == [119, 104, 101, 110]) = false := not_in l _ h (by kernel_rfl)
  have h76 : (l == [119, 104, 101, 114, 101]) = false := not_in l _ h (by kernel_rfl)
  clear h
  go_enter Tryd.func5, Tryd.ntmps5
  go_wp2
  go_ret
  exact ⟨rfl, rfl⟩
end Go.Proofs.YtjpcgnkgdaphoaaDoor
