import itertools
import unittest

from eightbytes.refs import bound, is_in, less, move, root
from tests.reference import parts, reference, scattered, stretch


class IsInStretch(unittest.TestCase):
    def test_the_same_twice(self):
        given = (0, 2 ** 64 - 1, root(511)[1], reference(300, 60, 40, 0, 3, 7), reference(9, 20, 10, 0, 0, 7),
                 reference(0x403, 0x08, 0xF0), reference(5, 5, 5, 15))
        for v in given:
            self.assertEqual(is_in(v, v), [1])

    def test_all_small_stretches(self):
        pairs = [(first, behind) for first in range(4, 9) for behind in range(first, 9)]
        for (begin, end), (wbegin, wend) in itertools.product(pairs, pairs):
            v = reference(10, end, begin)
            w = reference(10, wend, wbegin)
            self.assertEqual(is_in(v, w), [1 if begin >= wbegin and end <= wend else 0])

    def test_one_byte_each_way(self):
        w = reference(300, 60, 40)
        given = ((40, 60, 1), (39, 60, 0), (41, 60, 1), (40, 61, 0), (40, 59, 1), (39, 61, 0), (41, 59, 1), (41, 61, 0),
                 (39, 59, 0))
        for lower, upper, number in given:
            self.assertEqual(is_in(reference(300, upper, lower), w), [number])

    def test_the_address_itself_does_not_count(self):
        w = reference(300, 60, 40)
        self.assertEqual(is_in(reference(511, 60, 45), w), [1])
        self.assertEqual(is_in(reference(301, 60, 45), reference(511, 60, 40)), [1])

    def test_another_window(self):
        w = reference(300, 60, 40)
        self.assertEqual(is_in(reference(556, 60, 40), w), [0])
        self.assertEqual(is_in(reference(44, 60, 40), w), [0])
        # Below the lower mark: it belongs to the window before.
        self.assertEqual(is_in(reference(295, 60, 40), w), [0])

    def test_the_same_stretch_by_other_grains(self):
        v = reference(0x540, 0x60, 0x50, 4)
        w = reference(0x540, 0xC0, 0xA0, 3)
        self.assertEqual(stretch(v), (0x500, 0x600))
        self.assertEqual(stretch(w), (0x500, 0x600))
        self.assertEqual(is_in(v, w), [1])
        self.assertEqual(is_in(w, v), [1])

    def test_beginnings_below_0(self):
        # From -6 up to 5 each, then a byte more or less.
        w = reference(2, 5, 250)
        self.assertEqual(is_in(w, reference(3, 5, 250)), [1])
        self.assertEqual(is_in(reference(2, 5, 249), w), [0])
        self.assertEqual(is_in(reference(2, 5, 251), w), [1])
        self.assertEqual(is_in(reference(2, 6, 250), w), [0])
        self.assertEqual(is_in(reference(2, 4, 250), w), [1])

    def test_below_0_and_from_0_on(self):
        below = reference(2, 5, 250)
        above = reference(2, 5, 0)
        self.assertEqual(stretch(below), (-6, 5))
        self.assertEqual(is_in(above, below), [1])
        self.assertEqual(is_in(below, above), [0])
        # Modulo 2^64 the beginning would be great: it isn't behind 0 for that.
        self.assertEqual(is_in(below, root(0)[1]), [0])

    def test_wholly_below_0(self):
        v = reference(9, 20, 10)
        self.assertEqual(stretch(v), (-246, -236))
        self.assertEqual(is_in(v, root(0)[1]), [0])
        self.assertEqual(is_in(v, reference(9, 20, 10)), [1])
        self.assertEqual(is_in(v, reference(9, 21, 9)), [0])
        self.assertEqual(is_in(v, reference(8, 21, 9)), [1])

    def test_upper_below_lower(self):
        w = reference(0x3F8, 0x08, 0xF0)
        self.assertEqual(is_in(reference(0x403, 0x08, 0xF0), w), [1])
        self.assertEqual(is_in(reference(0x403, 0x08, 0x00), w), [1])
        self.assertEqual(is_in(reference(0x3F8, 0x00, 0xF0), w), [1])
        self.assertEqual(is_in(reference(0x403, 0x09, 0xF0), w), [0])
        self.assertEqual(is_in(reference(0x403, 0x08, 0xEF), w), [0])
        self.assertEqual(is_in(reference(0x408, 0xF0, 0x08), w), [0])

    def test_power_15_beside_small_powers(self):
        w = reference(5 * 2 ** 24, 6, 4, 15)
        for address, upper, lower, power, number in (
            (4 * 2 ** 24, 1, 0, 0, 1),
            (4 * 2 ** 24 - 1, 0, 255, 0, 0),
            (6 * 2 ** 24 - 1, 0, 255, 0, 1),
            (6 * 2 ** 24 - 1, 1, 255, 0, 0),
            (6 * 2 ** 24, 1, 0, 0, 0),
            (4 * 2 ** 24, 255, 0, 14, 1),
            (5 * 2 ** 24, 6, 5, 15, 1),
            (5 * 2 ** 24, 7, 5, 15, 0),
        ):
            v = reference(address, upper, lower, power)
            self.assertEqual(is_in(v, w), [number])
        self.assertEqual(is_in(w, reference(5 * 2 ** 24, 255, 0, 14)), [0])
        self.assertEqual(is_in(w, root(0)[1]), [1])

    def test_an_end_at_2_to_the_32_and_behind(self):
        v = reference(2 ** 32 - 1, 0, 0xF0)
        self.assertEqual(stretch(v), (2 ** 32 - 16, 2 ** 32))
        self.assertEqual(is_in(v, reference(2 ** 32 - 1, 0, 255, 15)), [1])
        self.assertEqual(is_in(reference(2 ** 32 - 1, 1, 0xF0), reference(2 ** 32 - 1, 0, 255, 15)), [0])
        self.assertEqual(is_in(v, root(0)[1]), [0])

    def test_empty_stretches(self):
        w = reference(300, 60, 40)
        for mark, number in ((39, 0), (40, 1), (50, 1), (60, 1), (61, 0)):
            self.assertEqual(is_in(reference(320, mark, mark), w), [number])
            self.assertEqual(is_in(w, reference(320, mark, mark)), [0])
        self.assertEqual(is_in(reference(50, 40, 40), reference(50, 40, 40)), [1])
        self.assertEqual(is_in(reference(50, 40, 40), reference(50, 41, 41)), [0])


class IsInRightsAndSeals(unittest.TestCase):
    def test_one_right_more_one_less(self):
        for bit in range(9):
            v = reference(300, 60, 40, 0, 0, 2 ** bit)
            none = reference(300, 60, 40)
            self.assertEqual(is_in(v, none), [0])
            self.assertEqual(is_in(none, v), [1])
            most = reference(300, 60, 40, 0, 0, 511 - 2 ** bit)
            whole = reference(300, 60, 40, 0, 0, 511)
            self.assertEqual(is_in(most, whole), [1])
            self.assertEqual(is_in(whole, most), [0])
            self.assertEqual(is_in(v, most), [0])

    def test_each_two_sets_of_rights(self):
        for rights, others in itertools.product(range(0, 512, 3), range(0, 512, 7)):
            more = any(rights >> bit & 1 and not others >> bit & 1 for bit in range(9))
            v, w = reference(300, 60, 40, 0, 0, rights), reference(300, 60, 40, 0, 0, others)
            self.assertEqual(is_in(v, w), [0 if more else 1])

    def test_seals(self):
        for mark, other in itertools.product(range(8), range(8)):
            v, w = reference(300, 60, 41, 0, mark, 3), reference(300, 60, 40, 0, other, 7)
            self.assertEqual(is_in(v, w), [1 if mark == other else 0])
            self.assertEqual(is_in(w, v), [0])


class IsInMany(unittest.TestCase):
    def check(self, v, w):
        begin, end = stretch(v)
        wbegin, wend = stretch(w)
        rights, others = parts(v)[5], parts(w)[5]
        inside = begin >= wbegin and end <= wend
        alike = parts(v)[4] == parts(w)[4]
        self.assertEqual(is_in(v, w), [1 if inside and rights | others == others and alike else 0])

    def test_mixed_edges(self):
        marks = ((255, 0), (0, 255), (1, 0), (0, 0), (5, 250), (2, 1))
        addresses = (0, 3, 255, 256, 2 ** 24, 2 ** 32 - 1)
        given = [
            reference(address, upper, lower, power)
            for address, (upper, lower), power in itertools.product(addresses, marks, (0, 1, 15))
        ]
        for v, w in itertools.product(given, given):
            self.check(v, w)

    def test_scattered(self):
        before = 0
        for v in scattered(1000):
            self.check(v, before)
            self.check(before, v)
            # The same rights and seal, of which the second holds the first by chance alone.
            self.check(v, before % 2 ** 52 | v >> 52 << 52)
            before = v

    def test_a_what_is_made_is_in_what_it_is_made_of(self):
        for w in scattered(1000):
            w = w & ~(7 << 52)
            begin, end = stretch(w)
            place = max(begin, 0) + (w >> 40) % (end - begin + 1)
            for good, v in (move(w, 1, place % 2 ** 32), bound(w, 1, (w >> 32) >> (w % 32), 0), less(w, 1, w >> 32)):
                if good == 1:
                    self.assertEqual(is_in(v, w), [1])


if __name__ == "__main__":
    unittest.main()
