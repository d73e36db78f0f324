/- Own texts joined: Ala, Alb, Alc, Ald, Ale, Alf, Alg, Alh, Ali, Alj, Alk, All, Alive, AliveA. -/
import Derived.Test.YtgjolijncmkkhaaGreatDoorQa
import Derived.Test.YtgjolijncmkkhaaGreatDoorQh
import Derived.Test.YtgjolijncmkkhaaGreatDoorQm
namespace Go.Proofs.YtgjolijncmkkhaaGreatDoor
set_option linter.unusedVariables false
set_option maxRecDepth 1000000
def ala:Memo:=.mk 136 ([.pointer (some ⟨73,0,none⟩),.agg ⟨[.int .i64 (.ofNat 1),.slice (some ⟨367,0,none⟩) 13 13]⟩]) 590 687
 ([(73,.cells ⟨[.slice (some ⟨147,0,none⟩) 2 2,.int .i64 (.ofNat 300),.slice (some ⟨587,0,none⟩) 1 2,.slice (some ⟨524,0,none⟩) 2 2]⟩ 162 (0,0)),
  (147,.cells ⟨[.int .i64 (.ofNat 0),.int .i64 (.ofNat 1),.int .i64 (.ofNat 0),.slice (some ⟨184,0,none⟩) 4 4,.slice none 0 0,.slice none 0 0,.slice (some ⟨205,0,none⟩) 1 1,.slice (some ⟨290,0,none⟩) 1 1,.slice none 0 0,.bool false,.int .i64 (.ofNat 1),.int .i64 (.ofNat 1),.int .i64 (.ofNat 0),.slice (some ⟨407,0,none⟩) 4 4,.slice none 0 0,.slice none 0 0,.slice (some ⟨428,0,none⟩) 1 1,.slice (some ⟨511,0,none⟩) 1 1,.slice none 0 0,.bool false]⟩ 42 (10,1)),
  (367,.cells ⟨[.int .u8 (.ofNat 0),.int .u8 (.ofNat 1),.int .u8 (.ofNat 0),.int .u8 (.ofNat 0),.int .u8 (.ofNat 0),.int .u8 (.ofNat 2),.int .u8 (.ofNat 0),.int .u8 (.ofNat 244),.int .u8 (.ofNat 3),.int .u8 (.ofNat 0),.int .u8 (.ofNat 1),.int .u8 (.ofNat 98),.int .u8 (.ofNat 0)]⟩ 5 (1,1)),
  (511,.cells ⟨[.int .i64 (.ofNat 0),.int .i64 (.ofNat 1),.int .i64 (.ofNat 1),.int .i64 (.ofNat 0),.int .i64 (.ofNat 0),.int .i64 (.ofNat 0),.int .i64 (.ofNat 0),.slice (some ⟨507,0,none⟩) 1 1,.int .i64 (.ofNat 1),.slice none 0 0,.slice (some ⟨509,0,none⟩) 1 1,.bool false]⟩ 154 (12,1))])
 ([(147,some (.cells ⟨[.int .i64 (.ofNat 0),.int .i64 (.ofNat 1),.int .i64 (.ofNat 0),.slice (some ⟨184,0,none⟩) 4 4,.slice none 0 0,.slice none 0 0,.slice (some ⟨205,0,none⟩) 1 1,.slice (some ⟨290,0,none⟩) 1 1,.slice none 0 0,.bool false,.int .i64 (.ofNat 1),.int .i64 (.ofNat 1),.int .i64 (.ofNat 0),.slice (some ⟨407,0,none⟩) 4 4,.slice none 0 0,.slice none 0 0,.slice (some ⟨428,0,none⟩) 1 1,.slice (some ⟨686,0,none⟩) 2 2,.slice none 0 0,.bool false]⟩ 42 (10,1))),
  (511,none),
  (682,some (.cells ⟨[.int .i64 (.ofNat 0),.int .i64 (.ofNat 500)]⟩ 3 (1,1))),
  (684,some (.cells ⟨[.int .u8 (.ofNat 98)]⟩ 5 (1,1))),
  (686,some (.cells ⟨[.int .i64 (.ofNat 0),.int .i64 (.ofNat 1),.int .i64 (.ofNat 0),.int .i64 (.ofNat 0),.int .i64 (.ofNat 0),.int .i64 (.ofNat 0),.int .i64 (.ofNat 0),.slice (some ⟨682,0,none⟩) 2 2,.int .i64 (.ofNat 0),.slice (some ⟨684,0,none⟩) 1 1,.slice none 0 0,.bool false,.int .i64 (.ofNat 0),.int .i64 (.ofNat 1),.int .i64 (.ofNat 1),.int .i64 (.ofNat 0),.int .i64 (.ofNat 0),.int .i64 (.ofNat 0),.int .i64 (.ofNat 0),.slice (some ⟨507,0,none⟩) 1 1,.int .i64 (.ofNat 1),.slice none 0 0,.slice (some ⟨509,0,none⟩) 1 1,.bool false]⟩ 154 (12,1)))])
 (.tuple ⟨[]⟩)
theorem zBe:zbN Tryz.prog zbX zbz 3000 ala=true:=by decide +kernel
def alb:Memo:=.mk 136 ([.pointer (some ⟨73,0,none⟩),.agg ⟨[.int .i64 (.ofNat 0),.slice (some ⟨584,0,none⟩) 12 12]⟩]) 689 776
 ([(73,.cells ⟨[.slice (some ⟨147,0,none⟩) 2 2,.int .i64 (.ofNat 300),.slice (some ⟨587,0,none⟩) 0 2,.slice (some ⟨524,0,none⟩) 2 2]⟩ 162 (0,0)),
  (147,.cells ⟨[.int .i64 (.ofNat 0),.int .i64 (.ofNat 1),.int .i64 (.ofNat 0),.slice (some ⟨184,0,none⟩) 4 4,.slice none 0 0,.slice none 0 0,.slice (some ⟨205,0,none⟩) 1 1,.slice (some ⟨290,0,none⟩) 1 1,.slice none 0 0,.bool false,.int .i64 (.ofNat 1),.int .i64 (.ofNat 1),.int .i64 (.ofNat 0),.slice (some ⟨407,0,none⟩) 4 4,.slice none 0 0,.slice none 0 0,.slice (some ⟨428,0,none⟩) 1 1,.slice (some ⟨686,0,none⟩) 2 2,.slice none 0 0,.bool false]⟩ 42 (10,1)),
  (290,.cells ⟨[.int .i64 (.ofNat 0),.int .i64 (.ofNat 1),.int .i64 (.ofNat 0),.int .i64 (.ofNat 0),.int .i64 (.ofNat 0),.int .i64 (.ofNat 0),.int .i64 (.ofNat 0),.slice (some ⟨286,0,none⟩) 2 2,.int .i64 (.ofNat 0),.slice (some ⟨288,0,none⟩) 1 1,.slice none 0 0,.bool false]⟩ 154 (12,1)),
  (584,.cells ⟨[.int .u8 (.ofNat 0),.int .u8 (.ofNat 1),.int .u8 (.ofNat 1),.int .u8 (.ofNat 0),.int .u8 (.ofNat 0),.int .u8 (.ofNat 1),.int .u8 (.ofNat 244),.int .u8 (.ofNat 3),.int .u8 (.ofNat 1),.int .u8 (.ofNat 0),.int .u8 (.ofNat 1),.int .u8 (.ofNat 120)]⟩ 5 (1,1))])
 ([(147,some (.cells ⟨[.int .i64 (.ofNat 0),.int .i64 (.ofNat 1),.int .i64 (.ofNat 0),.slice (some ⟨184,0,none⟩) 4 4,.slice none 0 0,.slice none 0 0,.slice (some ⟨205,0,none⟩) 1 1,.slice (some ⟨775,0,none⟩) 2 2,.slice none 0 0,.bool false,.int .i64 (.ofNat 1),.int .i64 (.ofNat 1),.int .i64 (.ofNat 0),.slice (some ⟨407,0,none⟩) 4 4,.slice none 0 0,.slice none 0 0,.slice (some ⟨428,0,none⟩) 1 1,.slice (some ⟨686,0,none⟩) 2 2,.slice none 0 0,.bool false]⟩ 42 (10,1))),
  (290,none),
  (771,some (.cells ⟨[.int .i64 (.ofNat 500)]⟩ 3 (1,1))),
  (773,some (.cells ⟨[.int .u8 (.ofNat 120)]⟩ 5 (1,1))),
  (775,some (.cells ⟨[.int .i64 (.ofNat 0),.int .i64 (.ofNat 1),.int .i64 (.ofNat 0),.int .i64 (.ofNat 0),.int .i64 (.ofNat 0),.int .i64 (.ofNat 0),.int .i64 (.ofNat 0),.slice (some ⟨286,0,none⟩) 2 2,.int .i64 (.ofNat 0),.slice (some ⟨288,0,none⟩) 1 1,.slice none 0 0,.bool false,.int .i64 (.ofNat 0),.int .i64 (.ofNat 1),.int .i64 (.ofNat 1),.int .i64 (.ofNat 0),.int .i64 (.ofNat 0),.int .i64 (.ofNat 0),.int .i64 (.ofNat 0),.slice (some ⟨771,0,none⟩) 1 1,.int .i64 (.ofNat 1),.slice none 0 0,.slice (some ⟨773,0,none⟩) 1 1,.bool false]⟩ 154 (12,1)))])
 (.tuple ⟨[]⟩)
theorem zBs:zbN Tryz.prog zbX zbz 3000 alb=true:=by decide +kernel
def alc:Memo:=.mk 136 ([.pointer (some ⟨73,0,none⟩),.agg ⟨[.int .i64 (.ofNat 1),.slice (some ⟨840,0,none⟩) 13 13]⟩]) 908 1130
 ([(73,.cells ⟨[.slice (some ⟨147,0,none⟩) 2 2,.int .i64 (.ofNat 300),.slice (some ⟨587,0,none⟩) 1 2,.slice (some ⟨524,0,none⟩) 2 2]⟩ 162 (0,0)),
  (147,.cells ⟨[.int .i64 (.ofNat 0),.int .i64 (.ofNat 1),.int .i64 (.ofNat 0),.slice (some ⟨184,0,none⟩) 4 4,.slice none 0 0,.slice none 0 0,.slice (some ⟨205,0,none⟩) 1 1,.slice (some ⟨775,0,none⟩) 2 2,.slice none 0 0,.bool false,.int .i64 (.ofNat 1),.int .i64 (.ofNat 1),.int .i64 (.ofNat 0),.slice (some ⟨407,0,none⟩) 4 4,.slice none 0 0,.slice none 0 0,.slice (some ⟨428,0,none⟩) 1 1,.slice (some ⟨686,0,none⟩) 2 2,.slice none 0 0,.bool false]⟩ 42 (10,1)),
  (682,.cells ⟨[.int .i64 (.ofNat 0),.int .i64 (.ofNat 500)]⟩ 3 (1,1)),
  (684,.cells ⟨[.int .u8 (.ofNat 98)]⟩ 5 (1,1)),
  (686,.cells ⟨[.int .i64 (.ofNat 0),.int .i64 (.ofNat 1),.int .i64 (.ofNat 0),.int .i64 (.ofNat 0),.int .i64 (.ofNat 0),.int .i64 (.ofNat 0),.int .i64 (.ofNat 0),.slice (some ⟨682,0,none⟩) 2 2,.int .i64 (.ofNat 0),.slice (some ⟨684,0,none⟩) 1 1,.slice none 0 0,.bool false,.int .i64 (.ofNat 0),.int .i64 (.ofNat 1),.int .i64 (.ofNat 1),.int .i64 (.ofNat 0),.int .i64 (.ofNat 0),.int .i64 (.ofNat 0),.int .i64 (.ofNat 0),.slice (some ⟨507,0,none⟩) 1 1,.int .i64 (.ofNat 1),.slice none 0 0,.slice (some ⟨509,0,none⟩) 1 1,.bool false]⟩ 154 (12,1)),
  (840,.cells ⟨[.int .u8 (.ofNat 0),.int .u8 (.ofNat 1),.int .u8 (.ofNat 0),.int .u8 (.ofNat 0),.int .u8 (.ofNat 0),.int .u8 (.ofNat 2),.int .u8 (.ofNat 0),.int .u8 (.ofNat 244),.int .u8 (.ofNat 3),.int .u8 (.ofNat 0),.int .u8 (.ofNat 1),.int .u8 (.ofNat 98),.int .u8 (.ofNat 0)]⟩ 5 (1,1))])
 ([(147,some (.cells ⟨[.int .i64 (.ofNat 0),.int .i64 (.ofNat 1),.int .i64 (.ofNat 0),.slice (some ⟨184,0,none⟩) 4 4,.slice none 0 0,.slice none 0 0,.slice (some ⟨205,0,none⟩) 1 1,.slice (some ⟨775,0,none⟩) 2 2,.slice none 0 0,.bool false,.int .i64 (.ofNat 1),.int .i64 (.ofNat 1),.int .i64 (.ofNat 0),.slice (some ⟨407,0,none⟩) 4 4,.slice none 0 0,.slice none 0 0,.slice (some ⟨428,0,none⟩) 1 1,.slice (some ⟨686,0,none⟩) 2 2,.slice none 0 0,.bool false]⟩ 42 (10,1)))])
 (.tuple ⟨[]⟩)
theorem zCa:zbN Tryz.prog zbX zbz 3000 alc=true:=by decide +kernel
def ald:Memo:=.mk 136 ([.pointer (some ⟨73,0,none⟩),.agg ⟨[.int .i64 (.ofNat 1),.slice (some ⟨903,0,none⟩) 12 12]⟩]) 1132 1340
 ([(73,.cells ⟨[.slice (some ⟨147,0,none⟩) 2 2,.int .i64 (.ofNat 300),.slice (some ⟨587,0,none⟩) 0 2,.slice (some ⟨524,0,none⟩) 2 2]⟩ 162 (0,0)),
  (147,.cells ⟨[.int .i64 (.ofNat 0),.int .i64 (.ofNat 1),.int .i64 (.ofNat 0),.slice (some ⟨184,0,none⟩) 4 4,.slice none 0 0,.slice none 0 0,.slice (some ⟨205,0,none⟩) 1 1,.slice (some ⟨775,0,none⟩) 2 2,.slice none 0 0,.bool false,.int .i64 (.ofNat 1),.int .i64 (.ofNat 1),.int .i64 (.ofNat 0),.slice (some ⟨407,0,none⟩) 4 4,.slice none 0 0,.slice none 0 0,.slice (some ⟨428,0,none⟩) 1 1,.slice (some ⟨686,0,none⟩) 2 2,.slice none 0 0,.bool false]⟩ 42 (10,1)),
  (507,.cells ⟨[.int .i64 (.ofNat 500)]⟩ 3 (1,1)),
  (509,.cells ⟨[.int .u8 (.ofNat 120)]⟩ 5 (1,1)),
  (686,.cells ⟨[.int .i64 (.ofNat 0),.int .i64 (.ofNat 1),.int .i64 (.ofNat 0),.int .i64 (.ofNat 0),.int .i64 (.ofNat 0),.int .i64 (.ofNat 0),.int .i64 (.ofNat 0),.slice (some ⟨682,0,none⟩) 2 2,.int .i64 (.ofNat 0),.slice (some ⟨684,0,none⟩) 1 1,.slice none 0 0,.bool false,.int .i64 (.ofNat 0),.int .i64 (.ofNat 1),.int .i64 (.ofNat 1),.int .i64 (.ofNat 0),.int .i64 (.ofNat 0),.int .i64 (.ofNat 0),.int .i64 (.ofNat 0),.slice (some ⟨507,0,none⟩) 1 1,.int .i64 (.ofNat 1),.slice none 0 0,.slice (some ⟨509,0,none⟩) 1 1,.bool false]⟩ 154 (12,1)),
  (903,.cells ⟨[.int .u8 (.ofNat 0),.int .u8 (.ofNat 1),.int .u8 (.ofNat 1),.int .u8 (.ofNat 0),.int .u8 (.ofNat 0),.int .u8 (.ofNat 1),.int .u8 (.ofNat 244),.int .u8 (.ofNat 3),.int .u8 (.ofNat 1),.int .u8 (.ofNat 0),.int .u8 (.ofNat 1),.int .u8 (.ofNat 120)]⟩ 5 (1,1))])
 ([(147,some (.cells ⟨[.int .i64 (.ofNat 0),.int .i64 (.ofNat 1),.int .i64 (.ofNat 0),.slice (some ⟨184,0,none⟩) 4 4,.slice none 0 0,.slice none 0 0,.slice (some ⟨205,0,none⟩) 1 1,.slice (some ⟨775,0,none⟩) 2 2,.slice none 0 0,.bool false,.int .i64 (.ofNat 1),.int .i64 (.ofNat 1),.int .i64 (.ofNat 0),.slice (some ⟨407,0,none⟩) 4 4,.slice none 0 0,.slice none 0 0,.slice (some ⟨428,0,none⟩) 1 1,.slice (some ⟨686,0,none⟩) 2 2,.slice none 0 0,.bool false]⟩ 42 (10,1)))])
 (.tuple ⟨[]⟩)
theorem zBY:zbN Tryz.prog zbX zbz 3000 ald=true:=by decide +kernel
def ale:Memo:=.mk 136 ([.pointer (some ⟨73,0,none⟩),.agg ⟨[.int .i64 (.ofNat 0),.slice (some ⟨1404,0,none⟩) 13 13]⟩]) 1472 1694
 ([(73,.cells ⟨[.slice (some ⟨147,0,none⟩) 2 2,.int .i64 (.ofNat 300),.slice (some ⟨587,0,none⟩) 1 2,.slice (some ⟨524,0,none⟩) 2 2]⟩ 162 (0,0)),
  (147,.cells ⟨[.int .i64 (.ofNat 0),.int .i64 (.ofNat 1),.int .i64 (.ofNat 0),.slice (some ⟨184,0,none⟩) 4 4,.slice none 0 0,.slice none 0 0,.slice (some ⟨205,0,none⟩) 1 1,.slice (some ⟨775,0,none⟩) 2 2,.slice none 0 0,.bool false,.int .i64 (.ofNat 1),.int .i64 (.ofNat 1),.int .i64 (.ofNat 0),.slice (some ⟨407,0,none⟩) 4 4,.slice none 0 0,.slice none 0 0,.slice (some ⟨428,0,none⟩) 1 1,.slice (some ⟨686,0,none⟩) 2 2,.slice none 0 0,.bool false]⟩ 42 (10,1)),
  (286,.cells ⟨[.int .i64 (.ofNat 0),.int .i64 (.ofNat 500)]⟩ 3 (1,1)),
  (288,.cells ⟨[.int .u8 (.ofNat 98)]⟩ 5 (1,1)),
  (775,.cells ⟨[.int .i64 (.ofNat 0),.int .i64 (.ofNat 1),.int .i64 (.ofNat 0),.int .i64 (.ofNat 0),.int .i64 (.ofNat 0),.int .i64 (.ofNat 0),.int .i64 (.ofNat 0),.slice (some ⟨286,0,none⟩) 2 2,.int .i64 (.ofNat 0),.slice (some ⟨288,0,none⟩) 1 1,.slice none 0 0,.bool false,.int .i64 (.ofNat 0),.int .i64 (.ofNat 1),.int .i64 (.ofNat 1),.int .i64 (.ofNat 0),.int .i64 (.ofNat 0),.int .i64 (.ofNat 0),.int .i64 (.ofNat 0),.slice (some ⟨771,0,none⟩) 1 1,.int .i64 (.ofNat 1),.slice none 0 0,.slice (some ⟨773,0,none⟩) 1 1,.bool false]⟩ 154 (12,1)),
  (1404,.cells ⟨[.int .u8 (.ofNat 0),.int .u8 (.ofNat 1),.int .u8 (.ofNat 0),.int .u8 (.ofNat 0),.int .u8 (.ofNat 0),.int .u8 (.ofNat 2),.int .u8 (.ofNat 0),.int .u8 (.ofNat 244),.int .u8 (.ofNat 3),.int .u8 (.ofNat 0),.int .u8 (.ofNat 1),.int .u8 (.ofNat 98),.int .u8 (.ofNat 0)]⟩ 5 (1,1))])
 ([(147,some (.cells ⟨[.int .i64 (.ofNat 0),.int .i64 (.ofNat 1),.int .i64 (.ofNat 0),.slice (some ⟨184,0,none⟩) 4 4,.slice none 0 0,.slice none 0 0,.slice (some ⟨205,0,none⟩) 1 1,.slice (some ⟨775,0,none⟩) 2 2,.slice none 0 0,.bool false,.int .i64 (.ofNat 1),.int .i64 (.ofNat 1),.int .i64 (.ofNat 0),.slice (some ⟨407,0,none⟩) 4 4,.slice none 0 0,.slice none 0 0,.slice (some ⟨428,0,none⟩) 1 1,.slice (some ⟨686,0,none⟩) 2 2,.slice none 0 0,.bool false]⟩ 42 (10,1)))])
 (.tuple ⟨[]⟩)
theorem zBx:zbN Tryz.prog zbX zbz 3000 ale=true:=by decide +kernel
def alf:Memo:=.mk 136 ([.pointer (some ⟨73,0,none⟩),.agg ⟨[.int .i64 (.ofNat 0),.slice (some ⟨1467,0,none⟩) 12 12]⟩]) 1696 1904
 ([(73,.cells ⟨[.slice (some ⟨147,0,none⟩) 2 2,.int .i64 (.ofNat 300),.slice (some ⟨587,0,none⟩) 0 2,.slice (some ⟨524,0,none⟩) 2 2]⟩ 162 (0,0)),
  (147,.cells ⟨[.int .i64 (.ofNat 0),.int .i64 (.ofNat 1),.int .i64 (.ofNat 0),.slice (some ⟨184,0,none⟩) 4 4,.slice none 0 0,.slice none 0 0,.slice (some ⟨205,0,none⟩) 1 1,.slice (some ⟨775,0,none⟩) 2 2,.slice none 0 0,.bool false,.int .i64 (.ofNat 1),.int .i64 (.ofNat 1),.int .i64 (.ofNat 0),.slice (some ⟨407,0,none⟩) 4 4,.slice none 0 0,.slice none 0 0,.slice (some ⟨428,0,none⟩) 1 1,.slice (some ⟨686,0,none⟩) 2 2,.slice none 0 0,.bool false]⟩ 42 (10,1)),
  (771,.cells ⟨[.int .i64 (.ofNat 500)]⟩ 3 (1,1)),
  (773,.cells ⟨[.int .u8 (.ofNat 120)]⟩ 5 (1,1)),
  (775,.cells ⟨[.int .i64 (.ofNat 0),.int .i64 (.ofNat 1),.int .i64 (.ofNat 0),.int .i64 (.ofNat 0),.int .i64 (.ofNat 0),.int .i64 (.ofNat 0),.int .i64 (.ofNat 0),.slice (some ⟨286,0,none⟩) 2 2,.int .i64 (.ofNat 0),.slice (some ⟨288,0,none⟩) 1 1,.slice none 0 0,.bool false,.int .i64 (.ofNat 0),.int .i64 (.ofNat 1),.int .i64 (.ofNat 1),.int .i64 (.ofNat 0),.int .i64 (.ofNat 0),.int .i64 (.ofNat 0),.int .i64 (.ofNat 0),.slice (some ⟨771,0,none⟩) 1 1,.int .i64 (.ofNat 1),.slice none 0 0,.slice (some ⟨773,0,none⟩) 1 1,.bool false]⟩ 154 (12,1)),
  (1467,.cells ⟨[.int .u8 (.ofNat 0),.int .u8 (.ofNat 1),.int .u8 (.ofNat 1),.int .u8 (.ofNat 0),.int .u8 (.ofNat 0),.int .u8 (.ofNat 1),.int .u8 (.ofNat 244),.int .u8 (.ofNat 3),.int .u8 (.ofNat 1),.int .u8 (.ofNat 0),.int .u8 (.ofNat 1),.int .u8 (.ofNat 120)]⟩ 5 (1,1))])
 ([(147,some (.cells ⟨[.int .i64 (.ofNat 0),.int .i64 (.ofNat 1),.int .i64 (.ofNat 0),.slice (some ⟨184,0,none⟩) 4 4,.slice none 0 0,.slice none 0 0,.slice (some ⟨205,0,none⟩) 1 1,.slice (some ⟨775,0,none⟩) 2 2,.slice none 0 0,.bool false,.int .i64 (.ofNat 1),.int .i64 (.ofNat 1),.int .i64 (.ofNat 0),.slice (some ⟨407,0,none⟩) 4 4,.slice none 0 0,.slice none 0 0,.slice (some ⟨428,0,none⟩) 1 1,.slice (some ⟨686,0,none⟩) 2 2,.slice none 0 0,.bool false]⟩ 42 (10,1)))])
 (.tuple ⟨[]⟩)
theorem zBt:zbN Tryz.prog zbX zbz 3000 alf=true:=by decide +kernel
def alg:Memo:=.mk 136 ([.pointer (some ⟨73,0,none⟩),.agg ⟨[.int .i64 (.ofNat 1),.slice (some ⟨1968,0,none⟩) 13 13]⟩]) 2036 2258
 ([(73,.cells ⟨[.slice (some ⟨147,0,none⟩) 2 2,.int .i64 (.ofNat 300),.slice (some ⟨587,0,none⟩) 1 2,.slice (some ⟨524,0,none⟩) 2 2]⟩ 162 (0,0)),
  (147,.cells ⟨[.int .i64 (.ofNat 0),.int .i64 (.ofNat 1),.int .i64 (.ofNat 0),.slice (some ⟨184,0,none⟩) 4 4,.slice none 0 0,.slice none 0 0,.slice (some ⟨205,0,none⟩) 1 1,.slice (some ⟨775,0,none⟩) 2 2,.slice none 0 0,.bool false,.int .i64 (.ofNat 1),.int .i64 (.ofNat 1),.int .i64 (.ofNat 0),.slice (some ⟨407,0,none⟩) 4 4,.slice none 0 0,.slice none 0 0,.slice (some ⟨428,0,none⟩) 1 1,.slice (some ⟨686,0,none⟩) 2 2,.slice none 0 0,.bool false]⟩ 42 (10,1)),
  (682,.cells ⟨[.int .i64 (.ofNat 0),.int .i64 (.ofNat 500)]⟩ 3 (1,1)),
  (684,.cells ⟨[.int .u8 (.ofNat 98)]⟩ 5 (1,1)),
  (686,.cells ⟨[.int .i64 (.ofNat 0),.int .i64 (.ofNat 1),.int .i64 (.ofNat 0),.int .i64 (.ofNat 0),.int .i64 (.ofNat 0),.int .i64 (.ofNat 0),.int .i64 (.ofNat 0),.slice (some ⟨682,0,none⟩) 2 2,.int .i64 (.ofNat 0),.slice (some ⟨684,0,none⟩) 1 1,.slice none 0 0,.bool false,.int .i64 (.ofNat 0),.int .i64 (.ofNat 1),.int .i64 (.ofNat 1),.int .i64 (.ofNat 0),.int .i64 (.ofNat 0),.int .i64 (.ofNat 0),.int .i64 (.ofNat 0),.slice (some ⟨507,0,none⟩) 1 1,.int .i64 (.ofNat 1),.slice none 0 0,.slice (some ⟨509,0,none⟩) 1 1,.bool false]⟩ 154 (12,1)),
  (1968,.cells ⟨[.int .u8 (.ofNat 0),.int .u8 (.ofNat 1),.int .u8 (.ofNat 0),.int .u8 (.ofNat 0),.int .u8 (.ofNat 0),.int .u8 (.ofNat 2),.int .u8 (.ofNat 0),.int .u8 (.ofNat 244),.int .u8 (.ofNat 3),.int .u8 (.ofNat 0),.int .u8 (.ofNat 1),.int .u8 (.ofNat 98),.int .u8 (.ofNat 0)]⟩ 5 (1,1))])
 ([(147,some (.cells ⟨[.int .i64 (.ofNat 0),.int .i64 (.ofNat 1),.int .i64 (.ofNat 0),.slice (some ⟨184,0,none⟩) 4 4,.slice none 0 0,.slice none 0 0,.slice (some ⟨205,0,none⟩) 1 1,.slice (some ⟨775,0,none⟩) 2 2,.slice none 0 0,.bool false,.int .i64 (.ofNat 1),.int .i64 (.ofNat 1),.int .i64 (.ofNat 0),.slice (some ⟨407,0,none⟩) 4 4,.slice none 0 0,.slice none 0 0,.slice (some ⟨428,0,none⟩) 1 1,.slice (some ⟨686,0,none⟩) 2 2,.slice none 0 0,.bool false]⟩ 42 (10,1)))])
 (.tuple ⟨[]⟩)
theorem zBc:zbN Tryz.prog zbX zbz 3000 alg=true:=by decide +kernel
def alh:Memo:=.mk 136 ([.pointer (some ⟨73,0,none⟩),.agg ⟨[.int .i64 (.ofNat 1),.slice (some ⟨2031,0,none⟩) 12 12]⟩]) 2260 2468
 ([(73,.cells ⟨[.slice (some ⟨147,0,none⟩) 2 2,.int .i64 (.ofNat 300),.slice (some ⟨587,0,none⟩) 0 2,.slice (some ⟨524,0,none⟩) 2 2]⟩ 162 (0,0)),
  (147,.cells ⟨[.int .i64 (.ofNat 0),.int .i64 (.ofNat 1),.int .i64 (.ofNat 0),.slice (some ⟨184,0,none⟩) 4 4,.slice none 0 0,.slice none 0 0,.slice (some ⟨205,0,none⟩) 1 1,.slice (some ⟨775,0,none⟩) 2 2,.slice none 0 0,.bool false,.int .i64 (.ofNat 1),.int .i64 (.ofNat 1),.int .i64 (.ofNat 0),.slice (some ⟨407,0,none⟩) 4 4,.slice none 0 0,.slice none 0 0,.slice (some ⟨428,0,none⟩) 1 1,.slice (some ⟨686,0,none⟩) 2 2,.slice none 0 0,.bool false]⟩ 42 (10,1)),
  (507,.cells ⟨[.int .i64 (.ofNat 500)]⟩ 3 (1,1)),
  (509,.cells ⟨[.int .u8 (.ofNat 120)]⟩ 5 (1,1)),
  (686,.cells ⟨[.int .i64 (.ofNat 0),.int .i64 (.ofNat 1),.int .i64 (.ofNat 0),.int .i64 (.ofNat 0),.int .i64 (.ofNat 0),.int .i64 (.ofNat 0),.int .i64 (.ofNat 0),.slice (some ⟨682,0,none⟩) 2 2,.int .i64 (.ofNat 0),.slice (some ⟨684,0,none⟩) 1 1,.slice none 0 0,.bool false,.int .i64 (.ofNat 0),.int .i64 (.ofNat 1),.int .i64 (.ofNat 1),.int .i64 (.ofNat 0),.int .i64 (.ofNat 0),.int .i64 (.ofNat 0),.int .i64 (.ofNat 0),.slice (some ⟨507,0,none⟩) 1 1,.int .i64 (.ofNat 1),.slice none 0 0,.slice (some ⟨509,0,none⟩) 1 1,.bool false]⟩ 154 (12,1)),
  (2031,.cells ⟨[.int .u8 (.ofNat 0),.int .u8 (.ofNat 1),.int .u8 (.ofNat 1),.int .u8 (.ofNat 0),.int .u8 (.ofNat 0),.int .u8 (.ofNat 1),.int .u8 (.ofNat 244),.int .u8 (.ofNat 3),.int .u8 (.ofNat 1),.int .u8 (.ofNat 0),.int .u8 (.ofNat 1),.int .u8 (.ofNat 120)]⟩ 5 (1,1))])
 ([(147,some (.cells ⟨[.int .i64 (.ofNat 0),.int .i64 (.ofNat 1),.int .i64 (.ofNat 0),.slice (some ⟨184,0,none⟩) 4 4,.slice none 0 0,.slice none 0 0,.slice (some ⟨205,0,none⟩) 1 1,.slice (some ⟨775,0,none⟩) 2 2,.slice none 0 0,.bool false,.int .i64 (.ofNat 1),.int .i64 (.ofNat 1),.int .i64 (.ofNat 0),.slice (some ⟨407,0,none⟩) 4 4,.slice none 0 0,.slice none 0 0,.slice (some ⟨428,0,none⟩) 1 1,.slice (some ⟨686,0,none⟩) 2 2,.slice none 0 0,.bool false]⟩ 42 (10,1)))])
 (.tuple ⟨[]⟩)
theorem zBX:zbN Tryz.prog zbX zbz 3000 alh=true:=by decide +kernel
def ali:Memo:=.mk 136 ([.pointer (some ⟨73,0,none⟩),.agg ⟨[.int .i64 (.ofNat 0),.slice (some ⟨2532,0,none⟩) 13 13]⟩]) 2600 2822
 ([(73,.cells ⟨[.slice (some ⟨147,0,none⟩) 2 2,.int .i64 (.ofNat 300),.slice (some ⟨587,0,none⟩) 1 2,.slice (some ⟨524,0,none⟩) 2 2]⟩ 162 (0,0)),
  (147,.cells ⟨[.int .i64 (.ofNat 0),.int .i64 (.ofNat 1),.int .i64 (.ofNat 0),.slice (some ⟨184,0,none⟩) 4 4,.slice none 0 0,.slice none 0 0,.slice (some ⟨205,0,none⟩) 1 1,.slice (some ⟨775,0,none⟩) 2 2,.slice none 0 0,.bool false,.int .i64 (.ofNat 1),.int .i64 (.ofNat 1),.int .i64 (.ofNat 0),.slice (some ⟨407,0,none⟩) 4 4,.slice none 0 0,.slice none 0 0,.slice (some ⟨428,0,none⟩) 1 1,.slice (some ⟨686,0,none⟩) 2 2,.slice none 0 0,.bool false]⟩ 42 (10,1)),
  (286,.cells ⟨[.int .i64 (.ofNat 0),.int .i64 (.ofNat 500)]⟩ 3 (1,1)),
  (288,.cells ⟨[.int .u8 (.ofNat 98)]⟩ 5 (1,1)),
  (775,.cells ⟨[.int .i64 (.ofNat 0),.int .i64 (.ofNat 1),.int .i64 (.ofNat 0),.int .i64 (.ofNat 0),.int .i64 (.ofNat 0),.int .i64 (.ofNat 0),.int .i64 (.ofNat 0),.slice (some ⟨286,0,none⟩) 2 2,.int .i64 (.ofNat 0),.slice (some ⟨288,0,none⟩) 1 1,.slice none 0 0,.bool false,.int .i64 (.ofNat 0),.int .i64 (.ofNat 1),.int .i64 (.ofNat 1),.int .i64 (.ofNat 0),.int .i64 (.ofNat 0),.int .i64 (.ofNat 0),.int .i64 (.ofNat 0),.slice (some ⟨771,0,none⟩) 1 1,.int .i64 (.ofNat 1),.slice none 0 0,.slice (some ⟨773,0,none⟩) 1 1,.bool false]⟩ 154 (12,1)),
  (2532,.cells ⟨[.int .u8 (.ofNat 0),.int .u8 (.ofNat 1),.int .u8 (.ofNat 0),.int .u8 (.ofNat 0),.int .u8 (.ofNat 0),.int .u8 (.ofNat 2),.int .u8 (.ofNat 0),.int .u8 (.ofNat 244),.int .u8 (.ofNat 3),.int .u8 (.ofNat 0),.int .u8 (.ofNat 1),.int .u8 (.ofNat 98),.int .u8 (.ofNat 0)]⟩ 5 (1,1))])
 ([(147,some (.cells ⟨[.int .i64 (.ofNat 0),.int .i64 (.ofNat 1),.int .i64 (.ofNat 0),.slice (some ⟨184,0,none⟩) 4 4,.slice none 0 0,.slice none 0 0,.slice (some ⟨205,0,none⟩) 1 1,.slice (some ⟨775,0,none⟩) 2 2,.slice none 0 0,.bool false,.int .i64 (.ofNat 1),.int .i64 (.ofNat 1),.int .i64 (.ofNat 0),.slice (some ⟨407,0,none⟩) 4 4,.slice none 0 0,.slice none 0 0,.slice (some ⟨428,0,none⟩) 1 1,.slice (some ⟨686,0,none⟩) 2 2,.slice none 0 0,.bool false]⟩ 42 (10,1)))])
 (.tuple ⟨[]⟩)
theorem zBB:zbN Tryz.prog zbX zbz 3000 ali=true:=by decide +kernel
def alj:Memo:=.mk 136 ([.pointer (some ⟨73,0,none⟩),.agg ⟨[.int .i64 (.ofNat 0),.slice (some ⟨2595,0,none⟩) 12 12]⟩]) 2824 3032
 ([(73,.cells ⟨[.slice (some ⟨147,0,none⟩) 2 2,.int .i64 (.ofNat 300),.slice (some ⟨587,0,none⟩) 0 2,.slice (some ⟨524,0,none⟩) 2 2]⟩ 162 (0,0)),
  (147,.cells ⟨[.int .i64 (.ofNat 0),.int .i64 (.ofNat 1),.int .i64 (.ofNat 0),.slice (some ⟨184,0,none⟩) 4 4,.slice none 0 0,.slice none 0 0,.slice (some ⟨205,0,none⟩) 1 1,.slice (some ⟨775,0,none⟩) 2 2,.slice none 0 0,.bool false,.int .i64 (.ofNat 1),.int .i64 (.ofNat 1),.int .i64 (.ofNat 0),.slice (some ⟨407,0,none⟩) 4 4,.slice none 0 0,.slice none 0 0,.slice (some ⟨428,0,none⟩) 1 1,.slice (some ⟨686,0,none⟩) 2 2,.slice none 0 0,.bool false]⟩ 42 (10,1)),
  (771,.cells ⟨[.int .i64 (.ofNat 500)]⟩ 3 (1,1)),
  (773,.cells ⟨[.int .u8 (.ofNat 120)]⟩ 5 (1,1)),
  (775,.cells ⟨[.int .i64 (.ofNat 0),.int .i64 (.ofNat 1),.int .i64 (.ofNat 0),.int .i64 (.ofNat 0),.int .i64 (.ofNat 0),.int .i64 (.ofNat 0),.int .i64 (.ofNat 0),.slice (some ⟨286,0,none⟩) 2 2,.int .i64 (.ofNat 0),.slice (some ⟨288,0,none⟩) 1 1,.slice none 0 0,.bool false,.int .i64 (.ofNat 0),.int .i64 (.ofNat 1),.int .i64 (.ofNat 1),.int .i64 (.ofNat 0),.int .i64 (.ofNat 0),.int .i64 (.ofNat 0),.int .i64 (.ofNat 0),.slice (some ⟨771,0,none⟩) 1 1,.int .i64 (.ofNat 1),.slice none 0 0,.slice (some ⟨773,0,none⟩) 1 1,.bool false]⟩ 154 (12,1)),
  (2595,.cells ⟨[.int .u8 (.ofNat 0),.int .u8 (.ofNat 1),.int .u8 (.ofNat 1),.int .u8 (.ofNat 0),.int .u8 (.ofNat 0),.int .u8 (.ofNat 1),.int .u8 (.ofNat 244),.int .u8 (.ofNat 3),.int .u8 (.ofNat 1),.int .u8 (.ofNat 0),.int .u8 (.ofNat 1),.int .u8 (.ofNat 120)]⟩ 5 (1,1))])
 ([(147,some (.cells ⟨[.int .i64 (.ofNat 0),.int .i64 (.ofNat 1),.int .i64 (.ofNat 0),.slice (some ⟨184,0,none⟩) 4 4,.slice none 0 0,.slice none 0 0,.slice (some ⟨205,0,none⟩) 1 1,.slice (some ⟨775,0,none⟩) 2 2,.slice none 0 0,.bool false,.int .i64 (.ofNat 1),.int .i64 (.ofNat 1),.int .i64 (.ofNat 0),.slice (some ⟨407,0,none⟩) 4 4,.slice none 0 0,.slice none 0 0,.slice (some ⟨428,0,none⟩) 1 1,.slice (some ⟨686,0,none⟩) 2 2,.slice none 0 0,.bool false]⟩ 42 (10,1)))])
 (.tuple ⟨[]⟩)
theorem zBC:zbN Tryz.prog zbX zbz 3000 alj=true:=by decide +kernel
def alk:Memo:=.mk 21 ([.agg ⟨[.int .i64 (.ofNat 0),.int .i64 (.ofNat 1),.int .i64 (.ofNat 0),.slice (some ⟨184,0,none⟩) 4 4,.slice none 0 0,.slice none 0 0,.slice (some ⟨205,0,none⟩) 1 1,.slice (some ⟨775,0,none⟩) 2 2,.slice none 0 0,.bool false]⟩]) 3035 3457
 ([(0,.cells ⟨[.int .i64 (.ofNat 0),.int .i64 (.ofNat 0)]⟩ 0 (0,0)),
  (1,.cells ⟨[.int .i64 (.ofNat 0),.int .i64 (.ofNat 1)]⟩ 0 (0,0)),
  (184,.cells ⟨[.int .u8 (.ofNat 98),.int .u8 (.ofNat 111),.int .u8 (.ofNat 100),.int .u8 (.ofNat 121)]⟩ 5 (1,1)),
  (192,.cells ⟨[.int .u8 (.ofNat 112)]⟩ 5 (1,1)),
  (200,.cells ⟨[.int .u8 (.ofNat 97)]⟩ 5 (1,1)),
  (203,.cells ⟨[.int .i64 (.ofNat 1),.slice none 0 0,.slice (some ⟨200,0,none⟩) 1 1,.slice none 0 0,.slice none 0 0]⟩ 29 (5,1)),
  (205,.cells ⟨[.int .i64 (.ofNat 0),.slice (some ⟨192,0,none⟩) 1 1,.slice none 0 0,.slice none 0 0,.slice (some ⟨203,0,none⟩) 1 1]⟩ 29 (5,1)),
  (286,.cells ⟨[.int .i64 (.ofNat 0),.int .i64 (.ofNat 500)]⟩ 3 (1,1)),
  (288,.cells ⟨[.int .u8 (.ofNat 98)]⟩ 5 (1,1)),
  (771,.cells ⟨[.int .i64 (.ofNat 500)]⟩ 3 (1,1)),
  (773,.cells ⟨[.int .u8 (.ofNat 120)]⟩ 5 (1,1)),
  (775,.cells ⟨[.int .i64 (.ofNat 0),.int .i64 (.ofNat 1),.int .i64 (.ofNat 0),.int .i64 (.ofNat 0),.int .i64 (.ofNat 0),.int .i64 (.ofNat 0),.int .i64 (.ofNat 0),.slice (some ⟨286,0,none⟩) 2 2,.int .i64 (.ofNat 0),.slice (some ⟨288,0,none⟩) 1 1,.slice none 0 0,.bool false,.int .i64 (.ofNat 0),.int .i64 (.ofNat 1),.int .i64 (.ofNat 1),.int .i64 (.ofNat 0),.int .i64 (.ofNat 0),.int .i64 (.ofNat 0),.int .i64 (.ofNat 0),.slice (some ⟨771,0,none⟩) 1 1,.int .i64 (.ofNat 1),.slice none 0 0,.slice (some ⟨773,0,none⟩) 1 1,.bool false]⟩ 154 (12,1))])
 ([(3456,some (.cells ⟨[.int .u8 (.ofNat 60),.int .u8 (.ofNat 98),.int .u8 (.ofNat 111),.int .u8 (.ofNat 100),.int .u8 (.ofNat 121),.int .u8 (.ofNat 62),.int .u8 (.ofNat 60),.int .u8 (.ofNat 98),.int .u8 (.ofNat 62),.int .u8 (.ofNat 60),.int .u8 (.ofNat 47),.int .u8 (.ofNat 98),.int .u8 (.ofNat 62),.int .u8 (.ofNat 60),.int .u8 (.ofNat 112),.int .u8 (.ofNat 62),.int .u8 (.ofNat 97),.int .u8 (.ofNat 60),.int .u8 (.ofNat 47),.int .u8 (.ofNat 112),.int .u8 (.ofNat 62),.int .u8 (.ofNat 120),.int .u8 (.ofNat 60),.int .u8 (.ofNat 47),.int .u8 (.ofNat 98),.int .u8 (.ofNat 111),.int .u8 (.ofNat 100),.int .u8 (.ofNat 121),.int .u8 (.ofNat 62)]⟩ 5 (1,1)))])
 (.tuple ⟨[.slice (some ⟨3456,0,none⟩) 29 29,.bool true]⟩)
theorem zBQ:zbN Tryz.prog zbX zbz 3000 alk=true:=by decide +kernel
def all:Memo:=.mk 21 ([.agg ⟨[.int .i64 (.ofNat 1),.int .i64 (.ofNat 1),.int .i64 (.ofNat 0),.slice (some ⟨407,0,none⟩) 4 4,.slice none 0 0,.slice none 0 0,.slice (some ⟨428,0,none⟩) 1 1,.slice (some ⟨686,0,none⟩) 2 2,.slice none 0 0,.bool false]⟩]) 3460 3882
 ([(0,.cells ⟨[.int .i64 (.ofNat 0),.int .i64 (.ofNat 0)]⟩ 0 (0,0)),
  (1,.cells ⟨[.int .i64 (.ofNat 0),.int .i64 (.ofNat 1)]⟩ 0 (0,0)),
  (407,.cells ⟨[.int .u8 (.ofNat 98),.int .u8 (.ofNat 111),.int .u8 (.ofNat 100),.int .u8 (.ofNat 121)]⟩ 5 (1,1)),
  (415,.cells ⟨[.int .u8 (.ofNat 112)]⟩ 5 (1,1)),
  (423,.cells ⟨[.int .u8 (.ofNat 97)]⟩ 5 (1,1)),
  (426,.cells ⟨[.int .i64 (.ofNat 1),.slice none 0 0,.slice (some ⟨423,0,none⟩) 1 1,.slice none 0 0,.slice none 0 0]⟩ 29 (5,1)),
  (428,.cells ⟨[.int .i64 (.ofNat 0),.slice (some ⟨415,0,none⟩) 1 1,.slice none 0 0,.slice none 0 0,.slice (some ⟨426,0,none⟩) 1 1]⟩ 29 (5,1)),
  (507,.cells ⟨[.int .i64 (.ofNat 500)]⟩ 3 (1,1)),
  (509,.cells ⟨[.int .u8 (.ofNat 120)]⟩ 5 (1,1)),
  (682,.cells ⟨[.int .i64 (.ofNat 0),.int .i64 (.ofNat 500)]⟩ 3 (1,1)),
  (684,.cells ⟨[.int .u8 (.ofNat 98)]⟩ 5 (1,1)),
  (686,.cells ⟨[.int .i64 (.ofNat 0),.int .i64 (.ofNat 1),.int .i64 (.ofNat 0),.int .i64 (.ofNat 0),.int .i64 (.ofNat 0),.int .i64 (.ofNat 0),.int .i64 (.ofNat 0),.slice (some ⟨682,0,none⟩) 2 2,.int .i64 (.ofNat 0),.slice (some ⟨684,0,none⟩) 1 1,.slice none 0 0,.bool false,.int .i64 (.ofNat 0),.int .i64 (.ofNat 1),.int .i64 (.ofNat 1),.int .i64 (.ofNat 0),.int .i64 (.ofNat 0),.int .i64 (.ofNat 0),.int .i64 (.ofNat 0),.slice (some ⟨507,0,none⟩) 1 1,.int .i64 (.ofNat 1),.slice none 0 0,.slice (some ⟨509,0,none⟩) 1 1,.bool false]⟩ 154 (12,1))])
 ([(3881,some (.cells ⟨[.int .u8 (.ofNat 60),.int .u8 (.ofNat 98),.int .u8 (.ofNat 111),.int .u8 (.ofNat 100),.int .u8 (.ofNat 121),.int .u8 (.ofNat 62),.int .u8 (.ofNat 60),.int .u8 (.ofNat 98),.int .u8 (.ofNat 62),.int .u8 (.ofNat 60),.int .u8 (.ofNat 47),.int .u8 (.ofNat 98),.int .u8 (.ofNat 62),.int .u8 (.ofNat 60),.int .u8 (.ofNat 112),.int .u8 (.ofNat 62),.int .u8 (.ofNat 97),.int .u8 (.ofNat 60),.int .u8 (.ofNat 47),.int .u8 (.ofNat 112),.int .u8 (.ofNat 62),.int .u8 (.ofNat 120),.int .u8 (.ofNat 60),.int .u8 (.ofNat 47),.int .u8 (.ofNat 98),.int .u8 (.ofNat 111),.int .u8 (.ofNat 100),.int .u8 (.ofNat 121),.int .u8 (.ofNat 62)]⟩ 5 (1,1)))])
 (.tuple ⟨[.slice (some ⟨3881,0,none⟩) 29 29,.bool true]⟩)
theorem zBm:zbN Tryz.prog zbX zbz 3000 all=true:=by decide +kernel
end Go.Proofs.YtgjolijncmkkhaaGreatDoor
namespace Go.Proofs.YtgjolijncmkkhaaGreatDoor
open Go.RowKit
set_option linter.unusedVariables false
set_option maxRecDepth 1000000
def zmc:List Memo:=[ala,alb,alc,ald,ale,alf,alg,alh,ali,alj,alk,all]
def zlO (X:Hook):List Memo->Hook
 | []=>X
 | m::l=>zdX (zga m) (zlO X l)
theorem zle {X:Hook} (hX:zaX X):∀l,zaX (zlO X l)
 | []=>hX
 | m::l=>zgB (zvN m) (zle hX l)
theorem zrq {P:Program} {X:Hook} (hX:zbs P X):∀l,(∀m∈l,zbs P (zga m))->zbs P (zlO X l)
 | [],_=>hX
 | m::l,h=>zkP (h m List.mem_cons_self) (zrq hX l fun x hx=>h x (List.mem_cons_of_mem _ hx))
theorem zbU {m:Memo} (h:zbN Tryz.prog zbX zbz 3000 m=true):zbs Tryz.prog (zga m):=zAn (zwv Tryz.prog zhB zhD 3000) (zxQ 3000) h
theorem zzj:∀m∈zmc,zbs Tryz.prog (zga m):=by
 intro m hm
 simp only [zmc,List.mem_cons,List.not_mem_nil,or_false]at hm
 rcases hm with rfl | rfl | rfl | rfl | rfl | rfl | rfl | rfl | rfl | rfl | rfl | rfl
 ·exact zbU zBe
 ·exact zbU zBs
 ·exact zbU zCa
 ·exact zbU zBY
 ·exact zbU zBx
 ·exact zbU zBt
 ·exact zbU zBc
 ·exact zbU zBX
 ·exact zbU zBB
 ·exact zbU zBC
 ·exact zbU zBQ
 ·exact zbU zBm
def zwB:Hook:=zlO zbX zmc
def heap0:Hp:=⟨zfN [(0,.cells ⟨[.int .i64 (.ofNat 0),.int .i64 (.ofNat 0)]⟩ 0 (0,0)),(1,.cells ⟨[.int .i64 (.ofNat 0),.int .i64 (.ofNat 1)]⟩ 0 (0,0))] (zjx none),16,0,0⟩
def zsV:Option (Xl×Hp)->Bool
 | some (.bool true,s)=>Nat.ble 16 s.n
 | _=>false
theorem zws:zsV (call Tryz.prog zwB zbz 3000 8 [] heap0)=true:=by decide +kernel
set_option maxRecDepth 100000
def rn0:Rn:=fun g=>if g<16 then some ⟨g,0,2,1,0⟩ else none
theorem zmK (id:Nat) (o:Obj) (h:heap0.f id=some o):(id=0∧o=.cells ⟨[.int .i64 (.ofNat 0),.int .i64 (.ofNat 0)]⟩ 0 (0,0))∨(id=1∧o=.cells ⟨[.int .i64 (.ofNat 0),.int .i64 (.ofNat 1)]⟩ 0 (0,0)):=by
 unfold Hp.f at h
 split at h
 ·rename_i Aa
  by_cases h0:id=0
  ·subst h0
   exact .inl ⟨rfl,(Option.some.inj h).symm⟩
  ·by_cases h1:id=1
   ·subst h1
    exact .inr ⟨rfl,(Option.some.inj h).symm⟩
   ·rw [show heap0.h=zfN [(0,.cells ⟨[.int .i64 (.ofNat 0),.int .i64 (.ofNat 0)]⟩ 0 (0,0)),(1,.cells ⟨[.int .i64 (.ofNat 0),.int .i64 (.ofNat 1)]⟩ 0 (0,0))] (zjx none) from rfl,ziV _ _ _ Aa (by simp) (by simp;omega),znn]at h
    cases h
 ·cases h
theorem two_cells {w:Xk} {g:Nat} {a b:Xl} (h0:w.cell? ⟨g,0,none⟩=some a) (h1:w.cell? ⟨g,1,none⟩=some b):∃c' el' fz,w.heap[g]? = some (.cells c' el' fz)∧c'[0]? = some a∧c'[1]? = some b:=by
 cases hg:w.heap[g]? with
 | none=>simp [World.cell?,hg]at h0
 | some o=>
  cases o with
  | cells c' el' fz=>
   rw [zfj hg]at h0 h1
   exact⟨c',el',fz,rfl,h0,h1⟩
  | _=>simp [World.cell?,hg]at h0
theorem ztw {w:Xk} {g:Nat} {a b:Xl} (hg:g<16) (h0:w.cell? ⟨g,0,none⟩=some a) (h1:w.cell? ⟨g,1,none⟩=some b) (ha:zgD a=true) (hb:zgD b=true):ObjR rn0 w g (.cells ⟨[a,b]⟩ 0 (0,0)):=by
 obtain⟨c',Aa,fz,e1,e2,e3⟩:=two_cells h0 h1
 refine⟨⟨g,0,2,1,0⟩,if_pos hg,rfl,(fun _=>rfl),(fun h=>absurd rfl h),c',Aa,fz,e1,?_,(fun h=>by omega),fun k v hk=> ?_⟩
 ·have:1<c'.size:=by
   rcases Nat.lt_or_ge 1 c'.size with h | h
   ·exact h
   ·rw [Array.getElem?_eq_none h]at e3;cases e3
  show 0+2+0*1<=c'.size
  omega
 ·match k,hk with
  | 0,hk=>cases hk;exact⟨_,by simpa using e2,(zdP ha).2 rfl⟩
  | 1,hk=>cases hk;exact⟨_,by simpa using e3,(zdP hb).2 rfl⟩
  | k+2,hk=>simp at hk
theorem zxU {w:Xk} (hG:Glo w):HR w w.heap.size rn0 heap0.f w:=by
 refine⟨.refl _ _,Nat.le_refl _,fun id o h=> ?_,fun i j oi oj pi pj Aa hi hj ei ej=> ?_,fun id o p h Ba=> ?_,fun g hg=>⟨_,if_pos hg,rfl,rfl⟩⟩
 ·rcases zmK id o h with ⟨rfl,rfl⟩ | ⟨rfl,rfl⟩
  ·exact ztw (by omega) hG.1 hG.2.1 rfl rfl
  ·exact ztw (by omega) hG.2.2.1 hG.2.2.2 rfl rfl
 ·have hb:∀i o p,heap0.f i=some o->rn0 i=some p->p.blk=i:=fun i o p h hp=>by
   have:i<16:=by rcases zmK i o h with ⟨rfl,_⟩ | ⟨rfl,_⟩<;>omega
   unfold rn0 at hp
   rw [if_pos this]at hp
   cases hp
   rfl
  rw [hb i oi pi hi ei,hb j oj pj hj ej]
  exact Aa
 ·rcases zmK id o h with ⟨rfl,_⟩ | ⟨rfl,_⟩<;>omega
theorem zvc (w:Xk) (hG:Glo w):Calls Tryz.prog 8 #[] w fun e w'=>e=.returned (.bool true)∧Below w.heap.size w w':=by
 have hok:zcF Tryz.prog (call Tryz.prog zwB zbz 3000):=zxh (by kernel_rfl) noGo (zle zhB zmc) zhD (zrq zpV zmc zzj) zqy 3000
 have hr:=zws
 unfold zsV at hr
 split at hr
 ·rename_i s heq
  have hw:=hok 8 [] heap0 s (.bool true) heq w w.heap.size rn0 w [] (zxU hG) rfl (fun id h1 h2=>by
   have h1:16<=id:=h1
   unfold rn0
   rw [if_neg (by omega)])
  have hent:(callFunc 8 ⟨[]⟩).run Tryz.prog w=.ok (.enter 8 ⟨[]⟩) w:=by
   have hname:(Tryz.f8.name == "runtime.NumGoroutine")=false:=by kernel_rfl
   have hbody:Tryz.f8.body.isNone=false:=by kernel_rfl
   simp only [callFunc,Sem.run_bind,run_program,Result.andThen,Tryz.func8,hname,hbody,Bool.false_eq_true,if_false,Sem.run_pure]
  rw [hent]at hw
  have hw:Calls Tryz.prog 8 ⟨[]⟩ w _:=hw
  refine Calls.mono hw ?_
  rintro e w' ⟨v',rfl,ρ',H',hE,hv⟩
  exact⟨by rw [VL.bool.1 hv],H'.below⟩
 ·cases hr
end Go.Proofs.YtgjolijncmkkhaaGreatDoor
