import Derived.Test.YtjpcgnkgdaphoaaDoorQ3
import Derived.Test.YtjpcgnkgdaphoaaDoorQ4a
import Derived.Test.YtjpcgnkgdaphoaaDoorQ4b
namespace Go.Proofs.YtjpcgnkgdaphoaaDoor
open Go.ChangeShapes Go.WideShapes Go.ChangeAt Go.RowKit Go.Shelf Go.Maps
set_option linter.unusedVariables false
set_option maxRecDepth 100000
theorem spec_reserved (s : ByteArray) (w : World) :
    Calls Tryd.prog 5 #[.string s] w fun e w' => e = .returned (.bool (resWords.contains s.data.toList)) ∧ w' = w := by
  cases h : resWords.contains s.data.toList
  · exact spec_reserved_no s w h
  · rw [List.contains_iff_mem] at h
    unfold resWords at h
    simp only [List.mem_cons, List.not_mem_nil, or_false] at h
    rw [← Lib.toList_data] at h
    rcases h with h | h | h | h | h | h | h | h | h | h | h | h | h | h | h | h | h | h | h | h | h | h | h | h | h | h | h | h | h | h | h | h | h | h | h | h | h | h | h | h | h | h | h | h | h | h | h | h | h | h | h | h | h | h | h | h | h | h | h | h | h | h | h | h | h | h | h | h | h | h | h | h | h | h | h | h | h
    · exact spec_res_0 s w h
    · exact spec_res_1 s w h
    · exact spec_res_2 s w h
    · exact spec_res_3 s w h
    · exact spec_res_4 s w h
    · exact spec_res_5 s w h
    · exact spec_res_6 s w h
    · exact spec_res_7 s w h
    · exact spec_res_8 s w h
    · exact spec_res_9 s w h
    · exact spec_res_10 s w h
    · exact spec_res_11 s w h
    · exact spec_res_12 s w h
    · exact spec_res_13 s w h
    · exact spec_res_14 s w h
    · exact spec_res_15 s w h
    · exact spec_res_16 s w h
    · exact spec_res_17 s w h
    · exact spec_res_18 s w h
    · exact spec_res_19 s w h
    · exact spec_res_20 s w h
    · exact spec_res_21 s w h
    · exact spec_res_22 s w h
    · exact spec_res_23 s w h
    · exact spec_res_24 s w h
    · exact spec_res_25 s w h
    · exact spec_res_26 s w h
    · exact spec_res_27 s w h
    · exact spec_res_28 s w h
    · exact spec_res_29 s w h
    · exact spec_res_30 s w h
    · exact spec_res_31 s w h
    · exact spec_res_32 s w h
    · exact spec_res_33 s w h
    · exact spec_res_34 s w h
    · exact spec_res_35 s w h
    · exact spec_res_36 s w h
    · exact spec_res_37 s w h
    · exact spec_res_38 s w h
    · exact spec_res_39 s w h
    · exact spec_res_40 s w h
    · exact spec_res_41 s w h
    · exact spec_res_42 s w h
    · exact spec_res_43 s w h
    · exact spec_res_44 s w h
    · exact spec_res_45 s w h
    · exact spec_res_46 s w h
    · exact spec_res_47 s w h
    · exact spec_res_48 s w h
    · exact spec_res_49 s w h
    · exact spec_res_50 s w h
    · exact spec_res_51 s w h
    · exact spec_res_52 s w h
    · exact spec_res_53 s w h
    · exact spec_res_54 s w h
    · exact spec_res_55 s w h
    · exact spec_res_56 s w h
    · exact spec_res_57 s w h
    · exact spec_res_58 s w h
    · exact spec_res_59 s w h
    · exact spec_res_60 s w h
    · exact spec_res_61 s w h
    · exact spec_res_62 s w h
    · exact spec_res_63 s w h
    · exact spec_res_64 s w h
    · exact spec_res_65 s w h
    · exact spec_res_66 s w h
    · exact spec_res_67 s w h
    · exact spec_res_68 s w h
    · exact spec_res_69 s w h
    · exact spec_res_70 s w h
    · exact spec_res_71 s w h
    · exact spec_res_72 s w h
    · exact spec_res_73 s w h
    · exact spec_res_74 s w h
    · exact spec_res_75 s w h
    · exact spec_res_76 s w h
end Go.Proofs.YtjpcgnkgdaphoaaDoor
