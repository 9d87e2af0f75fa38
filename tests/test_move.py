import itertools
import unittest

from eightbytes.refs import bound, move, root
from tests.reference import parts, reference, scattered, stretch

LAST = 2 ** 32 - 1


class MoveOrdinary(unittest.TestCase):
    def setUp(self):
        # Grain 16, window 4096: it begins at 0x12345560 and ends at 0x123459A0.
        self.parts = {"upper": 0x9A, "lower": 0x56, "power": 4, "rights": 0x155}
        self.v = reference(address=0x12345678, **self.parts)

    def check(self, to, number):
        self.assertEqual(move(self.v, 1, to), [number, reference(address=to, **self.parts)])

    def test_within_the_stretch(self):
        self.check(0x12345678, 1)
        self.check(0x12345679, 1)
        self.check(0x12345800, 1)

    def test_where_it_begins(self):
        self.check(0x12345560, 1)

    def test_its_last_byte(self):
        self.check(0x1234599F, 1)

    def test_where_it_ends(self):
        self.check(0x123459A0, 1)

    def test_one_byte_behind_where_it_ends(self):
        # It's outside the stretch, but the beginning stays: the document asks no more.
        self.check(0x123459A1, 1)

    def test_the_last_address_that_keeps_the_beginning(self):
        self.check(0x1234655F, 1)
        self.check(0x12346560, 0)

    def test_before_where_it_begins(self):
        self.check(0x1234555F, 0)
        self.check(0x12345000, 0)

    def test_another_window(self):
        self.check(0x12346678, 0)
        self.check(0x12344678, 0)
        self.check(0xF2345678, 0)

    def test_least_and_greatest_address(self):
        self.check(0, 0)
        self.check(LAST, 0)


class MoveEdges(unittest.TestCase):
    def test_one_byte_behind_the_longest_stretch(self):
        v = reference(address=0x410, upper=0x0F, lower=0x10, power=0)
        self.assertEqual(stretch(v), (0x410, 0x50F))
        self.assertEqual(move(v, 1, 0x50F), [1, reference(address=0x50F, upper=0x0F, lower=0x10)])
        self.assertEqual(move(v, 1, 0x510), [0, reference(address=0x510, upper=0x0F, lower=0x10)])

    def test_to_0_and_to_the_last(self):
        low = {"upper": 9, "lower": 0, "power": 3, "rights": 3}
        self.assertEqual(move(reference(address=70, **low), 1, 0), [1, reference(address=0, **low)])
        high = {"upper": 0, "lower": 0xF0, "power": 0, "rights": 3}
        v = reference(address=0xFFFF_FFF0, **high)
        self.assertEqual(move(v, 1, LAST), [1, reference(address=LAST, **high)])
        self.assertEqual(move(v, 1, 0), [0, reference(address=0, **high)])
        self.assertEqual(move(v, 1, 0xFFFF_FFEF), [0, reference(address=0xFFFF_FFEF, **high)])

    def test_not_good(self):
        given = {"upper": 60, "lower": 40, "rights": 511}
        self.assertEqual(move(reference(address=300, **given), 0, 301), [0, reference(address=301, **given)])
        self.assertEqual(move(reference(address=300, **given), 0, 300), [0, reference(address=300, **given)])

    def test_sealed(self):
        for seal in range(1, 8):
            given = {"upper": 60, "lower": 40, "seal": seal, "rights": 511}
            self.assertEqual(move(reference(address=300, **given), 1, 301), [0, reference(address=301, **given)])
            self.assertEqual(move(reference(address=300, **given), 1, 300), [0, reference(address=300, **given)])
            self.assertEqual(move(reference(address=300, **given), 0, 301), [0, reference(address=301, **given)])

    def test_upper_below_lower(self):
        # It begins at 0x3F0 and ends at 0x408, across the windows' border.
        given = {"upper": 0x08, "lower": 0xF0, "power": 0}
        v = reference(address=0x3F8, **given)
        for to, number in ((0x3EF, 0), (0x3F0, 1), (0x3FF, 1), (0x400, 1), (0x408, 1), (0x4EF, 1), (0x4F0, 0)):
            self.assertEqual(move(v, 1, to), [number, reference(address=to, **given)])

    def test_power_15(self):
        given = {"upper": 255, "lower": 0, "power": 15, "rights": 7}
        for to in (0, 1, 2 ** 15, 2 ** 24, 255 * 2 ** 24 - 1, 255 * 2 ** 24, LAST):
            self.assertEqual(move(root(7)[1], 1, to), [1, reference(address=to, **given)])
        given = {"upper": 9, "lower": 4, "power": 15}
        v = reference(address=5 * 2 ** 24, **given)
        for to, number in ((4 * 2 ** 24, 1), (4 * 2 ** 24 - 1, 0), (9 * 2 ** 24, 1), (LAST, 1), (0, 0)):
            self.assertEqual(move(v, 1, to), [number, reference(address=to, **given)])

    def test_power_14(self):
        given = {"upper": 3, "lower": 1, "power": 14}
        v = reference(address=2 ** 14, **given)
        for to, number in ((2 ** 14 - 1, 0), (3 * 2 ** 14, 1), (2 ** 22 + 2 ** 14 - 1, 1), (2 ** 22 + 2 ** 14, 0)):
            self.assertEqual(move(v, 1, to), [number, reference(address=to, **given)])

    def test_beginning_below_0(self):
        given = {"upper": 20, "lower": 10, "power": 0}
        v = reference(address=9, **given)
        self.assertEqual(stretch(v), (-246, -236))
        for to, number in ((0, 1), (9, 1), (10, 0), (266, 0)):
            self.assertEqual(move(v, 1, to), [number, reference(address=to, **given)])

    def test_from_0_to_below_0(self):
        given = {"upper": 20, "lower": 10, "power": 0}
        v = reference(address=10, **given)
        self.assertEqual(move(v, 1, 9), [0, reference(address=9, **given)])

    def test_an_empty_stretch(self):
        given = {"upper": 7, "lower": 7, "power": 2}
        v = reference(address=28, **given)
        self.assertEqual(move(v, 1, 27), [0, reference(address=27, **given)])
        self.assertEqual(move(v, 1, 29), [1, reference(address=29, **given)])

    def test_a_small_stretch_in_a_great_one(self):
        v = bound(move(root(1)[1], 1, 1000)[1], 1, 20, 1)[1]
        self.assertEqual([move(v, 1, to)[0] for to in (999, 1000, 1019, 1020)], [0, 1, 1, 1])


class MoveMany(unittest.TestCase):
    def check(self, v, good, to):
        address, *others = parts(v)
        number, moved = move(v, good, to)
        self.assertEqual(parts(moved), (to, *others))
        stays = good == 1 and others[3] == 0 and stretch(moved)[0] == stretch(v)[0]
        self.assertEqual(number, 1 if stays else 0)

    def test_mixed_edges(self):
        places = (0, 1, 255, 256, 2 ** 14, 2 ** 22, 2 ** 24, LAST)
        marks = (0, 1, 255)
        for address, to, upper, lower, power in itertools.product(places, places, marks, marks, (0, 1, 14, 15)):
            for seal, good in ((0, 1), (0, 0), (1, 1)):
                self.check(reference(address, upper, lower, power, seal, 300), good, to)

    def test_scattered(self):
        for v in scattered(1000):
            open_one = v & ~(7 << 52)
            begin, end = stretch(v)
            for to in (begin - 1, begin, begin + 1, end - 1, end, end + 1, v >> 32):
                for good in (0, 1):
                    self.check(v, good, to % 2 ** 32)
                    self.check(open_one, good, to % 2 ** 32)

    def test_c_anywhere_from_beginning_to_end_stays_good(self):
        for v in scattered(1000):
            v = v & ~(7 << 52)
            begin, end = stretch(v)
            for to in (begin, (begin + end) // 2, end - 1, end):
                # "end - 1" of an empty stretch is before it.
                if begin <= to and 0 <= to <= LAST:
                    self.assertEqual(move(v, 1, to)[0], 1)


if __name__ == "__main__":
    unittest.main()
