/-
 There are heads of any right rules: plain lists.
-/
import Derived.Test.YtgbhkkojkpndmaaGreatDoorCnWrong
namespace Go.Proofs.YtgbhkkojkpndmaaGreatDoor.Cn
theorem rise:∀l:List Int,∃c:List Int,c.Pairwise (· < ·)/\∀y,y∈c↔y∈l:=by
 intro l
 induction l with
 | nil=>exact⟨[],by simp,fun y=>by simp⟩
 | cons x l ih =>
  obtain⟨c,h1,h2⟩:=ih;refine⟨c.filter (· < x)++x::c.filter (x< ·),?_,fun y=> ?_⟩
  ·rw[List.pairwise_append,List.pairwise_cons];refine⟨h1.filter _,⟨fun a ha=>by simpa using (List.mem_filter.1 ha).2,h1.filter _⟩,fun a ha b hb=> ?_⟩;have ha2:a<x:=by simpa using (List.mem_filter.1 ha).2
   rcases List.mem_cons.1 hb with rfl | hb
   ·exact ha2
   ·have hb2:x<b:=by simpa using (List.mem_filter.1 hb).2
    omega
  ·rw[List.mem_append,List.mem_cons,List.mem_cons,List.mem_filter,List.mem_filter,h2];constructor
   ·rintro (h | h | h)
    ·exact .inr h.1
    ·exact .inl h
    ·exact .inr h.1
   ·rintro (h | h)
    ·exact .inr (.inl h)
    ·rcases Int.lt_trichotomy y x with h3 | h3 | h3
     ·exact .inl ⟨h,by simpa using h3⟩
     ·exact .inr (.inl h3)
     ·exact .inr (.inr ⟨h,by simpa using h3⟩)
end Go.Proofs.YtgbhkkojkpndmaaGreatDoor.Cn
